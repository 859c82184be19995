/- What stays ok of a lock that is asked for: plain mathematics. -/
import Derived.Test.YtoojnhodjkpecaaLkM3
namespace Go.Proofs.Ytoojnhodjkpecaa
open Go.RowKit

abbrev Up (hs : List Hd) : Prop := hs.Pairwise (fun a b => a.stamp < b.stamp)

/-- A lock is ok, said by its members. -/
structure LOk (l : Lk) : Prop where
  slot : inB l.slot 0 7 = true
  len : l.held.length + l.waits.length ≤ 16
  hok : ∀ x ∈ l.held, holdOkB x = true
  wok : ∀ x ∈ l.waits, holdOkB x = true
  hup : Up l.held
  wup : Up l.waits
  meet : ∀ x ∈ l.held, ∀ y ∈ l.held, meetB x y = false
  soft : ∀ x ∈ l.waits, x.firm = false
  apart : ∀ x ∈ l.held, ∀ y ∈ l.waits, x.stamp ≠ y.stamp

theorem asc_of_up {hs : List Hd} (h : Up hs) : ascB hs = true := by
  unfold ascB
  rw [List.all_eq_true]
  intro i hi
  have hi' : i < hs.length := by simpa using hi
  by_cases h0 : i = 0
  · simp [h0]
  · have := (List.pairwise_iff_getElem.1 h) (i - 1) i (by omega) hi' (by omega)
    have e1 : hs.getD (i - 1) Hd.z = hs[i - 1] := by simp [List.getD, show i - 1 < hs.length by omega]
    have e2 : hs.getD i Hd.z = hs[i] := by simp [List.getD, hi']
    rw [e1, e2]; simp [this]

theorem lok_of {l : Lk} (h : lockOkB l = true) : LOk l := by
  obtain ⟨h1, h2, h3, h4, h5, h6⟩ := lockOk_parts h
  have h3' : l.held.all holdOkB = true := by simp only [holdsB, Bool.and_eq_true] at h3; exact h3.1
  have h4' : l.waits.all holdOkB = true := by simp only [holdsB, Bool.and_eq_true] at h4; exact h4.1
  refine ⟨h1, h2, List.all_eq_true.1 h3', List.all_eq_true.1 h4', pw_of_asc (asc_of_holds h3), pw_of_asc (asc_of_holds h4), fun x hx y hy => ?_, fun x hx => ?_, held_waits h⟩
  · have := List.all_eq_true.1 h5 x hx
    have h7 : l.held.any (meetB x) = false := by simpa using this
    rw [List.any_eq_false] at h7
    simpa using h7 y hy
  · have := List.all_eq_true.1 h6 x hx
    simp only [Bool.not_eq_true', Bool.or_eq_false_iff] at this
    exact this.1

theorem LOk.ok {l : Lk} (h : LOk l) : lockOkB l = true := by
  rw [← lockOk_eq]
  have e1 : holdsB l.held = true := by simp only [holdsB, Bool.and_eq_true]; exact ⟨List.all_eq_true.2 h.hok, asc_of_up h.hup⟩
  have e2 : holdsB l.waits = true := by simp only [holdsB, Bool.and_eq_true]; exact ⟨List.all_eq_true.2 h.wok, asc_of_up h.wup⟩
  have e3 : heldOkB l.held = true := by
    unfold heldOkB
    rw [List.all_eq_true]
    intro x hx
    have : l.held.any (meetB x) = false := by
      rw [List.any_eq_false]; intro y hy; simp [h.meet x hx y hy]
    rw [this]; rfl
  have e4 : waitsOkB l.waits l.held = true := by
    unfold waitsOkB
    rw [List.all_eq_true]
    intro x hx
    have : l.held.any (sameB x) = false := by
      rw [List.any_eq_false]; intro y hy; have := h.apart y hy x hx; simp [sameB]; exact fun e => this e.symm
    rw [this, h.soft x hx]; rfl
  simp only [lockOkI, Bool.and_eq_true, decide_eq_true_eq]
  exact ⟨h.slot, h.len, e1, e2, e3, e4⟩

theorem LOk.sub {l : Lk} (h : LOk l) {H W : List Hd} (hH : H.Sublist l.held) (hW : W.Sublist l.waits) : LOk ⟨l.slot, H, W⟩ :=
  ⟨h.slot, by have := hH.length_le; have := hW.length_le; have := h.len; simp only; omega, fun x hx => h.hok x (hH.subset hx), fun x hx => h.wok x (hW.subset hx), h.hup.sublist hH, h.wup.sublist hW,
   fun x hx y hy => h.meet x (hH.subset hx) y (hH.subset hy), fun x hx => h.soft x (hW.subset hx), fun x hx y hy => h.apart x (hH.subset hx) y (hW.subset hy)⟩

theorem in_insR {x z : Hd} {hs : List Hd} (h : z = x ∨ z ∈ hs) : z ∈ insR x hs := by
  induction hs with
  | nil => simpa [insR] using h
  | cons y r ih =>
    unfold insR
    split
    · simpa using h
    · simp only [List.mem_cons] at h ⊢
      rcases h with h | h | h
      · exact .inr (ih (.inl h))
      · exact .inl h
      · exact .inr (ih (.inr h))
theorem up_insR {x : Hd} {hs : List Hd} (h : Up hs) (hn : ∀ y ∈ hs, y.stamp ≠ x.stamp) : Up (insR x hs) := by
  induction hs with
  | nil => simp [insR, Up]
  | cons y r ih =>
    have hr := List.pairwise_cons.1 h
    have h1 := hn y (by simp)
    unfold insR
    split
    · rename_i hlt
      refine List.pairwise_cons.2 ⟨fun z hz => ?_, h⟩
      simp only [List.mem_cons] at hz
      rcases hz with rfl | hz
      · exact hlt
      · have := hr.1 z hz; omega
    · rename_i hlt
      refine List.pairwise_cons.2 ⟨fun z hz => ?_, ih hr.2 (fun z hz => hn z (by simp [hz]))⟩
      rcases mem_insR hz with rfl | hz
      · omega
      · exact hr.1 z hz
theorem insR_length (x : Hd) (hs : List Hd) : (insR x hs).length = hs.length + 1 := by
  induction hs with
  | nil => rfl
  | cons y r ih => unfold insR; split <;> simp [ih]

theorem meet_self (x : Hd) : meetB x x = false := by simp [meetB]
theorem up_same {hs : List Hd} (h : Up hs) {x y : Hd} (hx : x ∈ hs) (hy : y ∈ hs) (e : x.stamp = y.stamp) : x = y := by
  obtain ⟨i, hi, rfl⟩ := List.getElem_of_mem hx
  obtain ⟨j, hj, rfl⟩ := List.getElem_of_mem hy
  rcases Nat.lt_trichotomy i j with h1 | h1 | h1
  · have := (List.pairwise_iff_getElem.1 h) i j hi hj h1; omega
  · subst h1; rfl
  · have := (List.pairwise_iff_getElem.1 h) j i hj hi h1; omega

/-- Who is let in leaves a lock ok. -/
theorem LOk.letIn {l : Lk} (h : LOk l) {x : Hd} (hx : holdOkB x = true) (hf : x.firm = false) (h1 : ∀ y ∈ l.held, y.stamp ≠ x.stamp) (h2 : ∀ y ∈ l.waits, y.stamp ≠ x.stamp) (hl : l.held.length + l.waits.length ≤ 15) : LOk (letInL l x) := by
  unfold letInL
  rw [putI_insR h1, putI_insR h2]
  split
  · refine ⟨h.slot, by simp only [insR_length]; omega, h.hok, fun y hy => ?_, h.hup, up_insR h.wup h2, h.meet, fun y hy => ?_, fun y hy z hz => ?_⟩
    · rcases mem_insR hy with rfl | hy
      · exact hx
      · exact h.wok y hy
    · rcases mem_insR hy with rfl | hy
      · exact hf
      · exact h.soft y hy
    · rcases mem_insR hz with rfl | hz
      · exact h1 y hy
      · exact h.apart y hy z hz
  · rename_i hc
    have hm : ∀ y ∈ l.held, meetB x y = false := fun y hy => by
      have : l.held.any (meetB x) = false := by
        simp only [Bool.or_eq_true, not_or, Bool.not_eq_true] at hc
        exact hc.1
      rw [List.any_eq_false] at this
      simpa using this y hy
    refine ⟨h.slot, by simp only [insR_length]; omega, fun y hy => ?_, h.wok, up_insR h.hup h1, h.wup, fun y hy z hz => ?_, h.soft, fun y hy z hz => ?_⟩
    · rcases mem_insR hy with rfl | hy
      · exact hx
      · exact h.hok y hy
    · rcases mem_insR hy with e1 | hy1 <;> rcases mem_insR hz with e2 | hz1
      · rw [e1, e2]; exact meet_self _
      · rw [e1]; exact hm z hz1
      · rw [e2, meetB_comm]; exact hm y hy1
      · exact h.meet y hy1 z hz1
    · rcases mem_insR hy with rfl | hy
      · exact fun e => h2 z hz e.symm
      · exact h.apart y hy z hz

theorem rest_sub (l : Lk) (h : Hd) : (askRest l h).held.Sublist l.held ∧ (askRest l h).waits.Sublist l.waits :=
  ⟨(List.filter_sublist).trans List.filter_sublist, List.filter_sublist⟩

/-- The four ways of asking. -/
theorem ask_ways (l : Lk) (h : Hd) (hk : lockOkB l = true) : (askL l h = l ∧ askT l h = [] ∧ (badB h = true ∨ standsB l h = true ∨ fullB l h = true)) ∨
    (badB h = false ∧ standsB l h = false ∧ fullB l h = false ∧ askL l h = letInL (askRest l h) h ∧ askC l h = letInC (askRest l h) h ∧ askT l h = askGone l h) := by
  cases hb : badB h
  case true => exact .inl ⟨(ask_bad hk hb).1, (ask_bad hk hb).2.2, .inl rfl⟩
  cases hs : standsB l h
  case true => exact .inl ⟨(ask_stands hk hb hs).1, (ask_stands hk hb hs).2.2, .inr (.inl rfl)⟩
  cases hf : fullB l h
  case true => exact .inl ⟨(ask_full hk hb hs hf).1, (ask_full hk hb hs hf).2.2, .inr (.inr rfl)⟩
  exact .inr ⟨rfl, rfl, rfl, (ask_let hk hb hs hf).1, (ask_let hk hb hs hf).2.1, (ask_let hk hb hs hf).2.2⟩

/-- What is left for who is let in. -/
structure Lets (l : Lk) (h : Hd) : Prop where
  ok : LOk (askRest l h)
  hok : holdOkB h = true
  soft : h.firm = false
  h1 : ∀ y ∈ (askRest l h).held, y.stamp ≠ h.stamp
  h2 : ∀ y ∈ (askRest l h).waits, y.stamp ≠ h.stamp
  len : (askRest l h).held.length + (askRest l h).waits.length ≤ 15

theorem lets_of {l : Lk} {h : Hd} (hk : lockOkB l = true) (hb : badB h = false) (hs : standsB l h = false) (hf : fullB l h = false) : Lets l h := by
  obtain ⟨n1, n2⟩ := not_stands hk hs
  have m1 := without_ne n1
  have m2 := without_ne n2
  simp only [badB, Bool.or_eq_false_iff, Bool.not_eq_false'] at hb
  simp only [fullB, decide_eq_false_iff_not] at hf
  exact ⟨(lok_of hk).sub (rest_sub l h).1 (rest_sub l h).2, hb.1, hb.2, fun y hy => m1 y (List.mem_filter.1 hy).1, m2, by omega⟩

theorem ask_ok {l : Lk} (h : Hd) (hk : lockOkB l = true) : LOk (askL l h) := by
  rcases ask_ways l h hk with ⟨e, -, -⟩ | ⟨hb, hs, hf, e, -, -⟩
  · rw [e]; exact lok_of hk
  · rw [e]
    have k := lets_of hk hb hs hf
    exact k.ok.letIn k.hok k.soft k.h1 k.h2 k.len

theorem mem_letIn_held {l : Lk} {x y : Hd} (h1 : ∀ y ∈ l.held, y.stamp ≠ x.stamp) (h : y ∈ (letInL l x).held) : y = x ∨ y ∈ l.held := by
  unfold letInL at h
  split at h
  · exact .inr h
  · simp only at h
    rw [putI_insR h1] at h
    exact mem_insR h
theorem held_letIn {l : Lk} {x y : Hd} (h1 : ∀ y ∈ l.held, y.stamp ≠ x.stamp) (h : y ∈ l.held) : y ∈ (letInL l x).held := by
  unfold letInL
  split
  · exact h
  · simp only
    rw [putI_insR h1]
    exact in_insR (.inr h)

/-- Of what is taken nothing is firm or elder, and nothing of it is held. -/
theorem ask_taken {l : Lk} {h : Hd} (hk : lockOkB l = true) {x : Hd} (hx : x ∈ askT l h) : x.firm = false ∧ h.stamp < x.stamp ∧ x ∈ l.held ∧ ∀ y ∈ (askL l h).held, y.stamp ≠ x.stamp := by
  rcases ask_ways l h hk with ⟨e, e2, -⟩ | ⟨hb, hs, hf, e, -, e2⟩
  · rw [e2] at hx; cases hx
  · rw [e2] at hx
    have k := lets_of hk hb hs hf
    have hx' := List.mem_filter.1 hx
    have ht := hx'.2
    simp only [takesB, Bool.and_eq_true, decide_eq_true_eq, Bool.not_eq_true'] at ht
    have hxl : x ∈ l.held := (List.mem_filter.1 hx'.1).1
    refine ⟨ht.2, ht.1.2, hxl, fun y hy => ?_⟩
    rw [e] at hy
    rcases mem_letIn_held k.h1 hy with rfl | hy
    · have := ht.1.2; omega
    · intro es
      have hyl : y ∈ l.held := (rest_sub l h).1.subset hy
      have := up_same (lok_of hk).hup hyl hxl es
      subst this
      have h3 := (List.mem_filter.1 hy).2
      simp [hx'.2] at h3

theorem LOk.share {l : Lk} (h : LOk l) {i k : Nat} (hi : i < l.held.length) (hk : k < l.held.length) (hik : k ≠ i) : (l.held.getD i Hd.z).share = true ∧ (l.held.getD k Hd.z).share = true := by
  have e1 : l.held.getD i Hd.z = l.held[i] := by simp [List.getD, hi]
  have e2 : l.held.getD k Hd.z = l.held[k] := by simp [List.getD, hk]
  rw [e1, e2]
  have hm := h.meet _ (List.getElem_mem hi) _ (List.getElem_mem hk)
  have hne : l.held[i].stamp ≠ l.held[k].stamp := by
    rcases Nat.lt_or_gt_of_ne hik with h1 | h1
    · have := (List.pairwise_iff_getElem.1 h.hup) k i hk hi h1; omega
    · have := (List.pairwise_iff_getElem.1 h.hup) i k hi hk h1; omega
  have : (l.held[i].stamp != l.held[k].stamp) = true := by simpa using hne
  simp only [meetB, this, Bool.true_and, Bool.not_eq_false', Bool.and_eq_true] at hm
  exact hm

theorem getD_in {hs : List Hd} {i : Nat} (h : i < hs.length) : hs.getD i Hd.z ∈ hs := by simp [List.getD, h]

theorem idx_of {hs : List Hd} {h x : Hd} (hu : Up hs) (hx : x ∈ hs) (e : x.stamp = h.stamp) : ∃ k : Nat, idxL (sameB h) hs = k ∧ hs.getD k Hd.z = x := by
  rcases idxL_cases (sameB h) hs with ⟨-, hn⟩ | ⟨k, hk, h1, h2, -⟩
  · obtain ⟨j, hj, rfl⟩ := List.getElem_of_mem hx
    have := hn j hj
    simp [sameB, List.getD, hj] at this
    exact absurd e.symm this
  · refine ⟨k, h1, up_same hu (getD_in hk) hx ?_⟩
    simp only [sameB, beq_iff_eq] at h2
    rw [← h2, e]
theorem idx_no {hs : List Hd} {h : Hd} (hn : ∀ y ∈ hs, y.stamp ≠ h.stamp) : idxL (sameB h) hs = -1 :=
  idxL_none fun j hj => by
    have := hn _ (getD_in hj)
    simp [sameB]
    exact fun e => this e.symm

theorem stands_held {l : Lk} {h x : Hd} (hk : LOk l) (hx : x ∈ l.held) (e : x.stamp = h.stamp) : standsB l h = (x.firm || decide (h.try_ ≤ x.try_)) ∧ standsH l h = eqHd x h := by
  obtain ⟨k, h1, h2⟩ := idx_of hk.hup hx e
  unfold standsB standsH
  rw [h1]
  have e0 : (0 : Int) ≤ (k : Int) := by omega
  simp only [e0, if_true, Int.toNat_natCast, h2]
  exact ⟨trivial, trivial⟩
theorem stands_none {l : Lk} {h : Hd} (h1 : ∀ y ∈ l.held, y.stamp ≠ h.stamp) (h2 : ∀ y ∈ l.waits, y.stamp = h.stamp → y.try_ ≤ h.try_) : standsB l h = false := by
  unfold standsB
  rw [idx_no h1]
  simp only [show ¬ ((0 : Int) ≤ -1) by omega, if_false]
  rcases idxL_cases (sameB h) l.waits with ⟨e, -⟩ | ⟨k, hk, e, e2, -⟩
  · rw [e]; simp
  · rw [e]
    have e0 : (0 : Int) ≤ (k : Int) := by omega
    simp only [e0, decide_true, Bool.true_and, Int.toNat_natCast, decide_eq_false_iff_not]
    simp only [sameB, beq_iff_eq] at e2
    have := h2 _ (getD_in hk) e2.symm
    omega

theorem filter_none {α : Type} {p : α → Bool} {l : List α} (h : ∀ x ∈ l, p x = false) : l.filter p = [] := by
  rw [List.filter_eq_nil_iff]; intro x hx; rw [h x hx]; simp
theorem filter_all {α : Type} {p : α → Bool} {l : List α} (h : ∀ x ∈ l, p x = true) : l.filter p = l := List.filter_eq_self.2 h

theorem filter_insR {x : Hd} {hs : List Hd} {p : Hd → Bool} (hx : p x = false) (h : ∀ y ∈ hs, p y = true) : (insR x hs).filter p = hs := by
  induction hs with
  | nil => simp [insR, hx]
  | cons y r ih =>
    have hy := h y (by simp)
    have hr := ih (fun z hz => h z (by simp [hz]))
    unfold insR
    split
    · rw [List.filter_cons, hx]
      simp only [Bool.false_eq_true, if_false]
      exact filter_all h
    · rw [List.filter_cons, hy, if_pos rfl, hr]

/-- Who asks twice. -/
theorem ask_twice {l : Lk} (h : Hd) (hk : lockOkB l = true) : askL (askL l h) h = askL l h ∧ askC (askL l h) h = askC l h ∧ askT (askL l h) h = [] := by
  rcases ask_ways l h hk with ⟨e, e2, -⟩ | ⟨hb, hs, hf, e, ec, -⟩
  · rw [e]; exact ⟨e, rfl, e2⟩
  · have hok := ask_ok h hk
    have hk' := hok.ok
    have k := lets_of hk hb hs hf
    cases hc : letInC (askRest l h) h
    · have hX : askL l h = ⟨l.slot, (askRest l h).held, insR h (askRest l h).waits⟩ := by
        rw [e]
        unfold letInC at hc
        unfold letInL
        rw [putI_insR k.h2]
        simp only [Bool.not_eq_false'] at hc
        rw [hc]; rfl
      have hs' : standsB (askL l h) h = false := by
        rw [hX]
        refine stands_none k.h1 (fun y hy ey => ?_)
        rcases mem_insR hy with rfl | hy
        · exact Int.le_refl _
        · exact absurd ey (k.h2 y hy)
      have hr : askRest (askL l h) h = askRest l h := by
        have r1 : withoutL (askRest l h).held h.stamp h.try_ = (askRest l h).held := filter_all (fun y hy => keep_other (k.h1 y hy))
        have r2 : withoutL (insR h (askRest l h).waits) h.stamp h.try_ = (askRest l h).waits := filter_insR (keep_self h) (fun y hy => keep_other (k.h2 y hy))
        have r3 : stayL (takesB h) (askRest l h).held = (askRest l h).held := filter_all (fun y hy => (List.mem_filter.1 hy).2)
        rw [hX]
        show (⟨l.slot, stayL (takesB h) (withoutL (askRest l h).held h.stamp h.try_), withoutL (insR h (askRest l h).waits) h.stamp h.try_⟩ : Lk) = askRest l h
        rw [r1, r2, r3]; rfl
      have hf' : fullB (askL l h) h = false := by
        unfold fullB at hf ⊢
        rw [hr]; exact hf
      have hg : askGone (askL l h) h = [] := by
        rw [hX]
        refine filter_none (fun y hy => ?_)
        have hy' := (List.mem_filter.1 hy).1
        have := (List.mem_filter.1 hy').2
        simpa using this
      obtain ⟨a1, a2, a3⟩ := ask_let hk' hb hs' hf'
      rw [a1, a2, a3, hr, ← e, ec]
      exact ⟨rfl, rfl, hg⟩
    · have hm : h ∈ (askL l h).held := by
        rw [e]
        unfold letInC at hc
        unfold letInL
        simp only [Bool.not_eq_true'] at hc
        rw [hc]
        simp only [Bool.false_eq_true, if_false]
        rw [putI_insR k.h1]
        exact in_insR (.inl rfl)
      obtain ⟨s1, s2⟩ := stands_held hok hm rfl
      have hs' : standsB (askL l h) h = true := by rw [s1]; simp
      obtain ⟨a1, a2, a3⟩ := ask_stands hk' hb hs'
      rw [a1, a2, a3, s2, ec, hc]
      exact ⟨rfl, by simp [eqHd], rfl⟩

/-- The eldest gets it, if nobody has promised. -/
theorem ask_elder {l : Lk} {h : Hd} (hk : lockOkB l = true) (hb : badB h = false) (hl : l.held.length + l.waits.length < 16) (h1 : ∀ y ∈ l.held, y.firm = false ∧ h.stamp < y.stamp) (h2 : ∀ y ∈ l.waits, h.stamp < y.stamp) : askC l h = true := by
  have hs : standsB l h = false := stands_none (fun y hy e => by have := (h1 y hy).2; omega) (fun y hy e => by have := h2 y hy; omega)
  have hsub := rest_sub l h
  have hf : fullB l h = false := by
    have e1 := hsub.1.length_le
    have e2 := hsub.2.length_le
    simp only [fullB, decide_eq_false_iff_not]; omega
  rw [(ask_let hk hb hs hf).2.1]
  have e1 : (askRest l h).held.any (meetB h) = false := by
    rw [List.any_eq_false]
    intro y hy hm
    have hy' := List.mem_filter.1 hy
    have hyl := hsub.1.subset hy
    have := hy'.2
    simp [takesB, hm, (h1 y hyl).1, (h1 y hyl).2] at this
  have e2 : (askRest l h).waits.any (behindB h) = false := by
    rw [List.any_eq_false]
    intro y hy hm
    have := h2 y (hsub.2.subset hy)
    simp only [behindB, Bool.and_eq_true, decide_eq_true_eq] at hm
    omega
  unfold letInC
  rw [e1, e2]; rfl

/-- Who shares gets it. -/
theorem ask_share {l : Lk} {h : Hd} (hk : lockOkB l = true) (hb : badB h = false) (hl : l.held.length < 16) (hw : l.waits = []) (hsh : h.share = true) (h1 : ∀ y ∈ l.held, y.share = true ∧ y.stamp ≠ h.stamp) : askC l h = true ∧ askT l h = [] ∧ (askL l h).held.length = l.held.length + 1 := by
  have hs : standsB l h = false := stands_none (fun y hy => (h1 y hy).2) (fun y hy e => by rw [hw] at hy; cases hy)
  have hsub := rest_sub l h
  have hm : ∀ y ∈ l.held, meetB h y = false := fun y hy => by simp [meetB, hsh, (h1 y hy).1]
  have hf : fullB l h = false := by
    have e1 := hsub.1.length_le
    have e2 := hsub.2.length_le
    rw [hw] at e2
    have e3 : (askRest l h).waits.length = 0 := Nat.le_zero.1 e2
    simp only [fullB, decide_eq_false_iff_not]; omega
  obtain ⟨a1, a2, a3⟩ := ask_let hk hb hs hf
  have k := lets_of hk hb hs hf
  have r1 : withoutL l.held h.stamp h.try_ = l.held := filter_all (fun y hy => keep_other (h1 y hy).2)
  have r2 : (askRest l h).held = l.held := by
    show stayL (takesB h) (withoutL l.held h.stamp h.try_) = l.held
    rw [r1]
    exact filter_all (fun y hy => by simp [takesB, hm y hy])
  have r3 : (askRest l h).waits = [] := by
    show withoutL l.waits h.stamp h.try_ = []
    rw [hw]; rfl
  have hc : ((askRest l h).held.any (meetB h) || (askRest l h).waits.any (behindB h)) = false := by
    rw [r2, r3]
    have : l.held.any (meetB h) = false := by rw [List.any_eq_false]; intro y hy; simp [hm y hy]
    rw [this]; rfl
  refine ⟨?_, ?_, ?_⟩
  · rw [a2]; unfold letInC; rw [hc]; rfl
  · rw [a3]
    show goneL (takesB h) (withoutL l.held h.stamp h.try_) = []
    rw [r1]
    exact filter_none (fun y hy => by simp [takesB, hm y hy])
  · rw [a1]; unfold letInL; rw [hc]
    simp only [Bool.false_eq_true, if_false]
    rw [putI_insR k.h1, insR_length, r2]

end Go.Proofs.Ytoojnhodjkpecaa
