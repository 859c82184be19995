/- Proved: at every two codes that can be read FnLockFirm returns true: the program promises a drawn lock as its model does, and whoever asks for it then takes it from nobody of that stamp, and it is held still, in that try, and promised; no condition but that the codes are slices of bytes in memory that can be read. -/
import Derived.Test.YtoojnhodjkpecaaLkM3
import Derived.Test.YtoojnhodjkpecaaLkAE
import Derived.Laws.StructEq
import Derived.ChangeKeysEq
import Derived.Test.YtoojnhodjkpecaaLkN
import Derived.Test.YtoojnhodjkpecaaLkF1
import Derived.Test.YtoojnhodjkpecaaDrL4
import Derived.Test.YtoojnhodjkpecaaDraw1
import Derived.ProofKit
import Derived.OpenShut
import Derived.ShutString
import Derived.ChangeOld
import Derived.Below
import Derived.Deep.Slices
import Derived.ChangeSame
import Derived.ChangeSlices
namespace Go.Proofs.Ytoojnhodjkpecaa
open Go.RowKit

abbrev Up (hs : List Hd) : Prop := hs.Pairwise (fun a b => a.stamp < b.stamp)

/-- A lock is ok, said by its members. -/
structure LOk (l : Lk) : Prop where
  slot : inB l.slot 0 7 = true
  len : l.held.length + l.waits.length ≤ 16
  hok : ∀ x ∈ l.held, holdOkB x = true
  wok : ∀ x ∈ l.waits, holdOkB x = true
  hup : Up l.held
  wup : Up l.waits
  meet : ∀ x ∈ l.held, ∀ y ∈ l.held, meetB x y = false
  soft : ∀ x ∈ l.waits, x.firm = false
  apart : ∀ x ∈ l.held, ∀ y ∈ l.waits, x.stamp ≠ y.stamp

theorem asc_of_up {hs : List Hd} (h : Up hs) : ascB hs = true := by
  unfold ascB
  rw [List.all_eq_true]
  intro i hi
  have hi' : i < hs.length := by simpa using hi
  by_cases h0 : i = 0
  · simp [h0]
  · have := (List.pairwise_iff_getElem.1 h) (i - 1) i (by omega) hi' (by omega)
    have e1 : hs.getD (i - 1) Hd.z = hs[i - 1] := by simp [List.getD, show i - 1 < hs.length by omega]
    have e2 : hs.getD i Hd.z = hs[i] := by simp [List.getD, hi']
    rw [e1, e2]; simp [this]

theorem lok_of {l : Lk} (h : lockOkB l = true) : LOk l := by
  obtain ⟨h1, h2, h3, h4, h5, h6⟩ := lockOk_parts h
  have h3' : l.held.all holdOkB = true := by simp only [holdsB, Bool.and_eq_true] at h3; exact h3.1
  have h4' : l.waits.all holdOkB = true := by simp only [holdsB, Bool.and_eq_true] at h4; exact h4.1
  refine ⟨h1, h2, List.all_eq_true.1 h3', List.all_eq_true.1 h4', pw_of_asc (asc_of_holds h3), pw_of_asc (asc_of_holds h4), fun x hx y hy => ?_, fun x hx => ?_, held_waits h⟩
  · have := List.all_eq_true.1 h5 x hx
    have h7 : l.held.any (meetB x) = false := by simpa using this
    rw [List.any_eq_false] at h7
    simpa using h7 y hy
  · have := List.all_eq_true.1 h6 x hx
    simp only [Bool.not_eq_true', Bool.or_eq_false_iff] at this
    exact this.1

theorem LOk.ok {l : Lk} (h : LOk l) : lockOkB l = true := by
  rw [← lockOk_eq]
  have e1 : holdsB l.held = true := by simp only [holdsB, Bool.and_eq_true]; exact ⟨List.all_eq_true.2 h.hok, asc_of_up h.hup⟩
  have e2 : holdsB l.waits = true := by simp only [holdsB, Bool.and_eq_true]; exact ⟨List.all_eq_true.2 h.wok, asc_of_up h.wup⟩
  have e3 : heldOkB l.held = true := by
    unfold heldOkB
    rw [List.all_eq_true]
    intro x hx
    have : l.held.any (meetB x) = false := by
      rw [List.any_eq_false]; intro y hy; simp [h.meet x hx y hy]
    rw [this]; rfl
  have e4 : waitsOkB l.waits l.held = true := by
    unfold waitsOkB
    rw [List.all_eq_true]
    intro x hx
    have : l.held.any (sameB x) = false := by
      rw [List.any_eq_false]; intro y hy; have := h.apart y hy x hx; simp [sameB]; exact fun e => this e.symm
    rw [this, h.soft x hx]; rfl
  simp only [lockOkI, Bool.and_eq_true, decide_eq_true_eq]
  exact ⟨h.slot, h.len, e1, e2, e3, e4⟩

theorem LOk.sub {l : Lk} (h : LOk l) {H W : List Hd} (hH : H.Sublist l.held) (hW : W.Sublist l.waits) : LOk ⟨l.slot, H, W⟩ :=
  ⟨h.slot, by have := hH.length_le; have := hW.length_le; have := h.len; simp only; omega, fun x hx => h.hok x (hH.subset hx), fun x hx => h.wok x (hW.subset hx), h.hup.sublist hH, h.wup.sublist hW,
   fun x hx y hy => h.meet x (hH.subset hx) y (hH.subset hy), fun x hx => h.soft x (hW.subset hx), fun x hx y hy => h.apart x (hH.subset hx) y (hW.subset hy)⟩

theorem in_insR {x z : Hd} {hs : List Hd} (h : z = x ∨ z ∈ hs) : z ∈ insR x hs := by
  induction hs with
  | nil => simpa [insR] using h
  | cons y r ih =>
    unfold insR
    split
    · simpa using h
    · simp only [List.mem_cons] at h ⊢
      rcases h with h | h | h
      · exact .inr (ih (.inl h))
      · exact .inl h
      · exact .inr (ih (.inr h))
theorem up_insR {x : Hd} {hs : List Hd} (h : Up hs) (hn : ∀ y ∈ hs, y.stamp ≠ x.stamp) : Up (insR x hs) := by
  induction hs with
  | nil => simp [insR, Up]
  | cons y r ih =>
    have hr := List.pairwise_cons.1 h
    have h1 := hn y (by simp)
    unfold insR
    split
    · rename_i hlt
      refine List.pairwise_cons.2 ⟨fun z hz => ?_, h⟩
      simp only [List.mem_cons] at hz
      rcases hz with rfl | hz
      · exact hlt
      · have := hr.1 z hz; omega
    · rename_i hlt
      refine List.pairwise_cons.2 ⟨fun z hz => ?_, ih hr.2 (fun z hz => hn z (by simp [hz]))⟩
      rcases mem_insR hz with rfl | hz
      · omega
      · exact hr.1 z hz
theorem insR_length (x : Hd) (hs : List Hd) : (insR x hs).length = hs.length + 1 := by
  induction hs with
  | nil => rfl
  | cons y r ih => unfold insR; split <;> simp [ih]

theorem meet_self (x : Hd) : meetB x x = false := by simp [meetB]
theorem up_same {hs : List Hd} (h : Up hs) {x y : Hd} (hx : x ∈ hs) (hy : y ∈ hs) (e : x.stamp = y.stamp) : x = y := by
  obtain ⟨i, hi, rfl⟩ := List.getElem_of_mem hx
  obtain ⟨j, hj, rfl⟩ := List.getElem_of_mem hy
  rcases Nat.lt_trichotomy i j with h1 | h1 | h1
  · have := (List.pairwise_iff_getElem.1 h) i j hi hj h1; omega
  · subst h1; rfl
  · have := (List.pairwise_iff_getElem.1 h) j i hj hi h1; omega

/-- Who is let in leaves a lock ok. -/
theorem LOk.letIn {l : Lk} (h : LOk l) {x : Hd} (hx : holdOkB x = true) (hf : x.firm = false) (h1 : ∀ y ∈ l.held, y.stamp ≠ x.stamp) (h2 : ∀ y ∈ l.waits, y.stamp ≠ x.stamp) (hl : l.held.length + l.waits.length ≤ 15) : LOk (letInL l x) := by
  unfold letInL
  rw [putI_insR h1, putI_insR h2]
  split
  · refine ⟨h.slot, by simp only [insR_length]; omega, h.hok, fun y hy => ?_, h.hup, up_insR h.wup h2, h.meet, fun y hy => ?_, fun y hy z hz => ?_⟩
    · rcases mem_insR hy with rfl | hy
      · exact hx
      · exact h.wok y hy
    · rcases mem_insR hy with rfl | hy
      · exact hf
      · exact h.soft y hy
    · rcases mem_insR hz with rfl | hz
      · exact h1 y hy
      · exact h.apart y hy z hz
  · rename_i hc
    have hm : ∀ y ∈ l.held, meetB x y = false := fun y hy => by
      have : l.held.any (meetB x) = false := by
        simp only [Bool.or_eq_true, not_or, Bool.not_eq_true] at hc
        exact hc.1
      rw [List.any_eq_false] at this
      simpa using this y hy
    refine ⟨h.slot, by simp only [insR_length]; omega, fun y hy => ?_, h.wok, up_insR h.hup h1, h.wup, fun y hy z hz => ?_, h.soft, fun y hy z hz => ?_⟩
    · rcases mem_insR hy with rfl | hy
      · exact hx
      · exact h.hok y hy
    · rcases mem_insR hy with e1 | hy1 <;> rcases mem_insR hz with e2 | hz1
      · rw [e1, e2]; exact meet_self _
      · rw [e1]; exact hm z hz1
      · rw [e2, meetB_comm]; exact hm y hy1
      · exact h.meet y hy1 z hz1
    · rcases mem_insR hy with rfl | hy
      · exact fun e => h2 z hz e.symm
      · exact h.apart y hy z hz

theorem rest_sub (l : Lk) (h : Hd) : (askRest l h).held.Sublist l.held ∧ (askRest l h).waits.Sublist l.waits :=
  ⟨(List.filter_sublist).trans List.filter_sublist, List.filter_sublist⟩

/-- The four ways of asking. -/
theorem ask_ways (l : Lk) (h : Hd) (hk : lockOkB l = true) : (askL l h = l ∧ askT l h = [] ∧ (badB h = true ∨ standsB l h = true ∨ fullB l h = true)) ∨
    (badB h = false ∧ standsB l h = false ∧ fullB l h = false ∧ askL l h = letInL (askRest l h) h ∧ askC l h = letInC (askRest l h) h ∧ askT l h = askGone l h) := by
  cases hb : badB h
  case true => exact .inl ⟨(ask_bad hk hb).1, (ask_bad hk hb).2.2, .inl rfl⟩
  cases hs : standsB l h
  case true => exact .inl ⟨(ask_stands hk hb hs).1, (ask_stands hk hb hs).2.2, .inr (.inl rfl)⟩
  cases hf : fullB l h
  case true => exact .inl ⟨(ask_full hk hb hs hf).1, (ask_full hk hb hs hf).2.2, .inr (.inr rfl)⟩
  exact .inr ⟨rfl, rfl, rfl, (ask_let hk hb hs hf).1, (ask_let hk hb hs hf).2.1, (ask_let hk hb hs hf).2.2⟩

/-- What is left for who is let in. -/
structure Lets (l : Lk) (h : Hd) : Prop where
  ok : LOk (askRest l h)
  hok : holdOkB h = true
  soft : h.firm = false
  h1 : ∀ y ∈ (askRest l h).held, y.stamp ≠ h.stamp
  h2 : ∀ y ∈ (askRest l h).waits, y.stamp ≠ h.stamp
  len : (askRest l h).held.length + (askRest l h).waits.length ≤ 15

theorem lets_of {l : Lk} {h : Hd} (hk : lockOkB l = true) (hb : badB h = false) (hs : standsB l h = false) (hf : fullB l h = false) : Lets l h := by
  obtain ⟨n1, n2⟩ := not_stands hk hs
  have m1 := without_ne n1
  have m2 := without_ne n2
  simp only [badB, Bool.or_eq_false_iff, Bool.not_eq_false'] at hb
  simp only [fullB, decide_eq_false_iff_not] at hf
  exact ⟨(lok_of hk).sub (rest_sub l h).1 (rest_sub l h).2, hb.1, hb.2, fun y hy => m1 y (List.mem_filter.1 hy).1, m2, by omega⟩

theorem ask_ok {l : Lk} (h : Hd) (hk : lockOkB l = true) : LOk (askL l h) := by
  rcases ask_ways l h hk with ⟨e, -, -⟩ | ⟨hb, hs, hf, e, -, -⟩
  · rw [e]; exact lok_of hk
  · rw [e]
    have k := lets_of hk hb hs hf
    exact k.ok.letIn k.hok k.soft k.h1 k.h2 k.len

theorem mem_letIn_held {l : Lk} {x y : Hd} (h1 : ∀ y ∈ l.held, y.stamp ≠ x.stamp) (h : y ∈ (letInL l x).held) : y = x ∨ y ∈ l.held := by
  unfold letInL at h
  split at h
  · exact .inr h
  · simp only at h
    rw [putI_insR h1] at h
    exact mem_insR h
theorem held_letIn {l : Lk} {x y : Hd} (h1 : ∀ y ∈ l.held, y.stamp ≠ x.stamp) (h : y ∈ l.held) : y ∈ (letInL l x).held := by
  unfold letInL
  split
  · exact h
  · simp only
    rw [putI_insR h1]
    exact in_insR (.inr h)

/-- Of what is taken nothing is firm or elder, and nothing of it is held. -/
theorem ask_taken {l : Lk} {h : Hd} (hk : lockOkB l = true) {x : Hd} (hx : x ∈ askT l h) : x.firm = false ∧ h.stamp < x.stamp ∧ x ∈ l.held ∧ ∀ y ∈ (askL l h).held, y.stamp ≠ x.stamp := by
  rcases ask_ways l h hk with ⟨e, e2, -⟩ | ⟨hb, hs, hf, e, -, e2⟩
  · rw [e2] at hx; cases hx
  · rw [e2] at hx
    have k := lets_of hk hb hs hf
    have hx' := List.mem_filter.1 hx
    have ht := hx'.2
    simp only [takesB, Bool.and_eq_true, decide_eq_true_eq, Bool.not_eq_true'] at ht
    have hxl : x ∈ l.held := (List.mem_filter.1 hx'.1).1
    refine ⟨ht.2, ht.1.2, hxl, fun y hy => ?_⟩
    rw [e] at hy
    rcases mem_letIn_held k.h1 hy with rfl | hy
    · have := ht.1.2; omega
    · intro es
      have hyl : y ∈ l.held := (rest_sub l h).1.subset hy
      have := up_same (lok_of hk).hup hyl hxl es
      subst this
      have h3 := (List.mem_filter.1 hy).2
      simp [hx'.2] at h3

theorem LOk.share {l : Lk} (h : LOk l) {i k : Nat} (hi : i < l.held.length) (hk : k < l.held.length) (hik : k ≠ i) : (l.held.getD i Hd.z).share = true ∧ (l.held.getD k Hd.z).share = true := by
  have e1 : l.held.getD i Hd.z = l.held[i] := by simp [List.getD, hi]
  have e2 : l.held.getD k Hd.z = l.held[k] := by simp [List.getD, hk]
  rw [e1, e2]
  have hm := h.meet _ (List.getElem_mem hi) _ (List.getElem_mem hk)
  have hne : l.held[i].stamp ≠ l.held[k].stamp := by
    rcases Nat.lt_or_gt_of_ne hik with h1 | h1
    · have := (List.pairwise_iff_getElem.1 h.hup) k i hk hi h1; omega
    · have := (List.pairwise_iff_getElem.1 h.hup) i k hi hk h1; omega
  have : (l.held[i].stamp != l.held[k].stamp) = true := by simpa using hne
  simp only [meetB, this, Bool.true_and, Bool.not_eq_false', Bool.and_eq_true] at hm
  exact hm

theorem getD_in {hs : List Hd} {i : Nat} (h : i < hs.length) : hs.getD i Hd.z ∈ hs := by simp [List.getD, h]

theorem idx_of {hs : List Hd} {h x : Hd} (hu : Up hs) (hx : x ∈ hs) (e : x.stamp = h.stamp) : ∃ k : Nat, idxL (sameB h) hs = k ∧ hs.getD k Hd.z = x := by
  rcases idxL_cases (sameB h) hs with ⟨-, hn⟩ | ⟨k, hk, h1, h2, -⟩
  · obtain ⟨j, hj, rfl⟩ := List.getElem_of_mem hx
    have := hn j hj
    simp [sameB, List.getD, hj] at this
    exact absurd e.symm this
  · refine ⟨k, h1, up_same hu (getD_in hk) hx ?_⟩
    simp only [sameB, beq_iff_eq] at h2
    rw [← h2, e]
theorem idx_no {hs : List Hd} {h : Hd} (hn : ∀ y ∈ hs, y.stamp ≠ h.stamp) : idxL (sameB h) hs = -1 :=
  idxL_none fun j hj => by
    have := hn _ (getD_in hj)
    simp [sameB]
    exact fun e => this e.symm

theorem stands_held {l : Lk} {h x : Hd} (hk : LOk l) (hx : x ∈ l.held) (e : x.stamp = h.stamp) : standsB l h = (x.firm || decide (h.try_ ≤ x.try_)) ∧ standsH l h = eqHd x h := by
  obtain ⟨k, h1, h2⟩ := idx_of hk.hup hx e
  unfold standsB standsH
  rw [h1]
  have e0 : (0 : Int) ≤ (k : Int) := by omega
  simp only [e0, if_true, Int.toNat_natCast, h2]
  exact ⟨trivial, trivial⟩
theorem stands_none {l : Lk} {h : Hd} (h1 : ∀ y ∈ l.held, y.stamp ≠ h.stamp) (h2 : ∀ y ∈ l.waits, y.stamp = h.stamp → y.try_ ≤ h.try_) : standsB l h = false := by
  unfold standsB
  rw [idx_no h1]
  simp only [show ¬ ((0 : Int) ≤ -1) by omega, if_false]
  rcases idxL_cases (sameB h) l.waits with ⟨e, -⟩ | ⟨k, hk, e, e2, -⟩
  · rw [e]; simp
  · rw [e]
    have e0 : (0 : Int) ≤ (k : Int) := by omega
    simp only [e0, decide_true, Bool.true_and, Int.toNat_natCast, decide_eq_false_iff_not]
    simp only [sameB, beq_iff_eq] at e2
    have := h2 _ (getD_in hk) e2.symm
    omega

theorem filter_none {α : Type} {p : α → Bool} {l : List α} (h : ∀ x ∈ l, p x = false) : l.filter p = [] := by
  rw [List.filter_eq_nil_iff]; intro x hx; rw [h x hx]; simp
theorem filter_all {α : Type} {p : α → Bool} {l : List α} (h : ∀ x ∈ l, p x = true) : l.filter p = l := List.filter_eq_self.2 h

theorem filter_insR {x : Hd} {hs : List Hd} {p : Hd → Bool} (hx : p x = false) (h : ∀ y ∈ hs, p y = true) : (insR x hs).filter p = hs := by
  induction hs with
  | nil => simp [insR, hx]
  | cons y r ih =>
    have hy := h y (by simp)
    have hr := ih (fun z hz => h z (by simp [hz]))
    unfold insR
    split
    · rw [List.filter_cons, hx]
      simp only [Bool.false_eq_true, if_false]
      exact filter_all h
    · rw [List.filter_cons, hy, if_pos rfl, hr]

/-- Who asks twice. -/
theorem ask_twice {l : Lk} (h : Hd) (hk : lockOkB l = true) : askL (askL l h) h = askL l h ∧ askC (askL l h) h = askC l h ∧ askT (askL l h) h = [] := by
  rcases ask_ways l h hk with ⟨e, e2, -⟩ | ⟨hb, hs, hf, e, ec, -⟩
  · rw [e]; exact ⟨e, rfl, e2⟩
  · have hok := ask_ok h hk
    have hk' := hok.ok
    have k := lets_of hk hb hs hf
    cases hc : letInC (askRest l h) h
    · have hX : askL l h = ⟨l.slot, (askRest l h).held, insR h (askRest l h).waits⟩ := by
        rw [e]
        unfold letInC at hc
        unfold letInL
        rw [putI_insR k.h2]
        simp only [Bool.not_eq_false'] at hc
        rw [hc]; rfl
      have hs' : standsB (askL l h) h = false := by
        rw [hX]
        refine stands_none k.h1 (fun y hy ey => ?_)
        rcases mem_insR hy with rfl | hy
        · exact Int.le_refl _
        · exact absurd ey (k.h2 y hy)
      have hr : askRest (askL l h) h = askRest l h := by
        have r1 : withoutL (askRest l h).held h.stamp h.try_ = (askRest l h).held := filter_all (fun y hy => keep_other (k.h1 y hy))
        have r2 : withoutL (insR h (askRest l h).waits) h.stamp h.try_ = (askRest l h).waits := filter_insR (keep_self h) (fun y hy => keep_other (k.h2 y hy))
        have r3 : stayL (takesB h) (askRest l h).held = (askRest l h).held := filter_all (fun y hy => (List.mem_filter.1 hy).2)
        rw [hX]
        show (⟨l.slot, stayL (takesB h) (withoutL (askRest l h).held h.stamp h.try_), withoutL (insR h (askRest l h).waits) h.stamp h.try_⟩ : Lk) = askRest l h
        rw [r1, r2, r3]; rfl
      have hf' : fullB (askL l h) h = false := by
        unfold fullB at hf ⊢
        rw [hr]; exact hf
      have hg : askGone (askL l h) h = [] := by
        rw [hX]
        refine filter_none (fun y hy => ?_)
        have hy' := (List.mem_filter.1 hy).1
        have := (List.mem_filter.1 hy').2
        simpa using this
      obtain ⟨a1, a2, a3⟩ := ask_let hk' hb hs' hf'
      rw [a1, a2, a3, hr, ← e, ec]
      exact ⟨rfl, rfl, hg⟩
    · have hm : h ∈ (askL l h).held := by
        rw [e]
        unfold letInC at hc
        unfold letInL
        simp only [Bool.not_eq_true'] at hc
        rw [hc]
        simp only [Bool.false_eq_true, if_false]
        rw [putI_insR k.h1]
        exact in_insR (.inl rfl)
      obtain ⟨s1, s2⟩ := stands_held hok hm rfl
      have hs' : standsB (askL l h) h = true := by rw [s1]; simp
      obtain ⟨a1, a2, a3⟩ := ask_stands hk' hb hs'
      rw [a1, a2, a3, s2, ec, hc]
      exact ⟨rfl, by simp [eqHd], rfl⟩

/-- The eldest gets it, if nobody has promised. -/
theorem ask_elder {l : Lk} {h : Hd} (hk : lockOkB l = true) (hb : badB h = false) (hl : l.held.length + l.waits.length < 16) (h1 : ∀ y ∈ l.held, y.firm = false ∧ h.stamp < y.stamp) (h2 : ∀ y ∈ l.waits, h.stamp < y.stamp) : askC l h = true := by
  have hs : standsB l h = false := stands_none (fun y hy e => by have := (h1 y hy).2; omega) (fun y hy e => by have := h2 y hy; omega)
  have hsub := rest_sub l h
  have hf : fullB l h = false := by
    have e1 := hsub.1.length_le
    have e2 := hsub.2.length_le
    simp only [fullB, decide_eq_false_iff_not]; omega
  rw [(ask_let hk hb hs hf).2.1]
  have e1 : (askRest l h).held.any (meetB h) = false := by
    rw [List.any_eq_false]
    intro y hy hm
    have hy' := List.mem_filter.1 hy
    have hyl := hsub.1.subset hy
    have := hy'.2
    simp [takesB, hm, (h1 y hyl).1, (h1 y hyl).2] at this
  have e2 : (askRest l h).waits.any (behindB h) = false := by
    rw [List.any_eq_false]
    intro y hy hm
    have := h2 y (hsub.2.subset hy)
    simp only [behindB, Bool.and_eq_true, decide_eq_true_eq] at hm
    omega
  unfold letInC
  rw [e1, e2]; rfl

/-- Who shares gets it. -/
theorem ask_share {l : Lk} {h : Hd} (hk : lockOkB l = true) (hb : badB h = false) (hl : l.held.length < 16) (hw : l.waits = []) (hsh : h.share = true) (h1 : ∀ y ∈ l.held, y.share = true ∧ y.stamp ≠ h.stamp) : askC l h = true ∧ askT l h = [] ∧ (askL l h).held.length = l.held.length + 1 := by
  have hs : standsB l h = false := stands_none (fun y hy => (h1 y hy).2) (fun y hy e => by rw [hw] at hy; cases hy)
  have hsub := rest_sub l h
  have hm : ∀ y ∈ l.held, meetB h y = false := fun y hy => by simp [meetB, hsh, (h1 y hy).1]
  have hf : fullB l h = false := by
    have e1 := hsub.1.length_le
    have e2 := hsub.2.length_le
    rw [hw] at e2
    have e3 : (askRest l h).waits.length = 0 := Nat.le_zero.1 e2
    simp only [fullB, decide_eq_false_iff_not]; omega
  obtain ⟨a1, a2, a3⟩ := ask_let hk hb hs hf
  have k := lets_of hk hb hs hf
  have r1 : withoutL l.held h.stamp h.try_ = l.held := filter_all (fun y hy => keep_other (h1 y hy).2)
  have r2 : (askRest l h).held = l.held := by
    show stayL (takesB h) (withoutL l.held h.stamp h.try_) = l.held
    rw [r1]
    exact filter_all (fun y hy => by simp [takesB, hm y hy])
  have r3 : (askRest l h).waits = [] := by
    show withoutL l.waits h.stamp h.try_ = []
    rw [hw]; rfl
  have hc : ((askRest l h).held.any (meetB h) || (askRest l h).waits.any (behindB h)) = false := by
    rw [r2, r3]
    have : l.held.any (meetB h) = false := by rw [List.any_eq_false]; intro y hy; simp [hm y hy]
    rw [this]; rfl
  refine ⟨?_, ?_, ?_⟩
  · rw [a2]; unfold letInC; rw [hc]; rfl
  · rw [a3]
    show goneL (takesB h) (withoutL l.held h.stamp h.try_) = []
    rw [r1]
    exact filter_none (fun y hy => by simp [takesB, hm y hy])
  · rw [a1]; unfold letInL; rw [hc]
    simp only [Bool.false_eq_true, if_false]
    rw [putI_insR k.h1, insR_length, r2]

end Go.Proofs.Ytoojnhodjkpecaa

namespace Go.Proofs.Ytoojnhodjkpecaa
open Go.RowKit

/-- What holds of a lock while those who wait are let in, one behind the other. -/
structure FInv (z : Int) (H0 W : List Hd) (k : Nat) (I : Lk) (G : List Hd) : Prop where
  ok : LOk I
  slot : I.slot = z
  heldIn : ∀ y ∈ I.held, y ∈ H0 ∨ y ∈ W.take k
  waitIn : ∀ y ∈ I.waits, y ∈ W.take k
  got : G.Sublist (W.take k)
  stuck : ∀ y ∈ I.waits, (I.held.any (meetB y) || I.waits.any (behindB y)) = true
  len : I.held.length + I.waits.length = H0.length + k

theorem any_more {p : Hd → Bool} {A B : List Hd} (h : ∀ y ∈ A, y ∈ B) (ha : A.any p = true) : B.any p = true := by
  obtain ⟨y, hy, hp⟩ := List.any_eq_true.1 ha
  exact List.any_eq_true.2 ⟨y, h y hy, hp⟩

theorem free_inv2 {l : Lk} (s t : Int) (hk : lockOkB l = true) (k : Nat) (hkl : k ≤ (withoutL l.waits s t).length) : FInv l.slot (withoutL l.held s t) (withoutL l.waits s t) k (freeTo l s t k).1 (freeTo l s t k).2 := by
  have hok := lok_of hk
  have hs1 : (withoutL l.held s t).Sublist l.held := List.filter_sublist
  have hs2 : (withoutL l.waits s t).Sublist l.waits := List.filter_sublist
  induction k with
  | zero =>
    refine ⟨hok.sub hs1 (List.nil_sublist _), rfl, fun y hy => .inl hy, fun y hy => (by cases hy), (by simp [freeTo]), fun y hy => (by cases hy), (by simp [freeTo])⟩
  | succ k ih =>
    have i := ih (by omega)
    have hlt : k < (withoutL l.waits s t).length := by omega
    rw [freeTo_step l s t k hlt]
    have hup : Up (withoutL l.waits s t) := hok.wup.sublist hs2
    have hl1 := hs1.length_le
    have hl2 := hs2.length_le
    have hl3 := hok.len
    have hap : ∀ y ∈ withoutL l.held s t, ∀ z ∈ withoutL l.waits s t, y.stamp ≠ z.stamp := fun y hy z hz => hok.apart y (hs1.subset hy) z (hs2.subset hz)
    have hwok : ∀ z ∈ withoutL l.waits s t, holdOkB z = true ∧ z.firm = false := fun z hz => ⟨hok.wok z (hs2.subset hz), hok.soft z (hs2.subset hz)⟩
    obtain ⟨i1, i2, i3, i4, i5, i6, i7⟩ := i
    clear hs1 hs2 ih
    generalize withoutL l.waits s t = W at *
    generalize withoutL l.held s t = H0 at *
    have htake : W.take (k + 1) = W.take k ++ [W.getD k Hd.z] := by rw [List.take_succ_eq_append_getElem hlt]; simp [List.getD, hlt]
    have hsplit : W = W.take k ++ (W.getD k Hd.z :: W.drop (k + 1)) := by
      have : W.drop k = W.getD k Hd.z :: W.drop (k + 1) := by rw [List.drop_eq_getElem_cons hlt]; simp [List.getD, hlt]
      rw [← this]; exact (List.take_append_drop k W).symm
    have hxin : W.getD k Hd.z ∈ W := getD_in hlt
    have hlow : ∀ y ∈ W.take k, y.stamp < (W.getD k Hd.z).stamp := fun y hy => by
      have hp : Up (W.take k ++ (W.getD k Hd.z :: W.drop (k + 1))) := by rw [← hsplit]; exact hup
      exact (List.pairwise_append.1 hp).2.2 y hy _ (by simp)
    have hmt : ∀ y ∈ W.take k, y ∈ W := fun y hy => List.mem_of_mem_take hy
    generalize W.getD k Hd.z = x at *
    generalize freeTo l s t k = I at *
    obtain ⟨⟨si, Ih, Iw⟩, Ig⟩ := I
    simp only at i1 i2 i3 i4 i5 i6 i7 ⊢
    have n1 : ∀ y ∈ Ih, y.stamp ≠ x.stamp := fun y hy => by
      rcases i3 y hy with h | h
      · exact hap y h x hxin
      · have := hlow y h; omega
    have n2 : ∀ y ∈ Iw, y.stamp < x.stamp := fun y hy => hlow y (i4 y hy)
    have hl := i1.letIn (x := x) (hwok x hxin).1 (hwok x hxin).2 n1 (fun y hy => by have := n2 y hy; omega) (by simp only at hl1 hl2 ⊢; omega)
    cases hc : (Ih.any (meetB x) || Iw.any (behindB x))
    · have hI : freeStepI (⟨si, Ih, Iw⟩, Ig) x = (⟨si, putI Ih x, Iw⟩, Ig ++ [x]) := by simp [freeStepI, letInL, letInC, hc]
      have hL : letInL ⟨si, Ih, Iw⟩ x = ⟨si, putI Ih x, Iw⟩ := by simp [letInL, hc]
      rw [hL] at hl
      rw [hI]
      refine ⟨hl, i2, fun y hy => ?_, fun y hy => ?_, ?_, fun y hy => ?_, ?_⟩
      · simp only at hy
        rw [putI_insR n1] at hy
        rw [htake]
        rcases mem_insR hy with rfl | hy
        · exact .inr (by simp)
        · rcases i3 y hy with h | h
          · exact .inl h
          · exact .inr (by simp [h])
      · rw [htake]; simp [i4 y hy]
      · rw [htake]; exact i5.append (List.Sublist.refl _)
      · have h0 := i6 y hy
        simp only [Bool.or_eq_true] at h0 ⊢
        rcases h0 with h0 | h0
        · left
          rw [putI_insR n1]
          exact any_more (fun z hz => in_insR (.inr hz)) h0
        · exact .inr h0
      · simp only [putI, insAt_length]; omega
    · have hI : freeStepI (⟨si, Ih, Iw⟩, Ig) x = (⟨si, Ih, putI Iw x⟩, Ig) := by simp [freeStepI, letInL, letInC, hc]
      have hL : letInL ⟨si, Ih, Iw⟩ x = ⟨si, Ih, putI Iw x⟩ := by simp [letInL, hc]
      rw [hL] at hl
      rw [hI]
      rw [putI_end n2] at hl ⊢
      refine ⟨hl, i2, fun y hy => ?_, fun y hy => ?_, ?_, fun y hy => ?_, ?_⟩
      · rw [htake]
        rcases i3 y hy with h | h
        · exact .inl h
        · exact .inr (by simp [h])
      · rw [htake]
        simp only [List.mem_append, List.mem_singleton] at hy ⊢
        rcases hy with hy | hy
        · exact .inl (i4 y hy)
        · exact .inr hy
      · rw [htake]; exact i5.trans (List.sublist_append_left _ _)
      · simp only [List.mem_append, List.mem_singleton] at hy
        rw [List.any_append]
        rcases hy with hy | rfl
        · have h0 := i6 y hy
          simp only [Bool.or_eq_true] at h0 ⊢
          rcases h0 with h0 | h0
          · exact .inl h0
          · exact .inr (.inl h0)
        · simp only [Bool.or_eq_true] at hc ⊢
          rcases hc with h0 | h0
          · exact .inl h0
          · exact .inr (.inl h0)
      · simp only [List.length_append, List.length_singleton]; omega

theorem free_all {l : Lk} (s t : Int) (hk : lockOkB l = true) : FInv l.slot (withoutL l.held s t) (withoutL l.waits s t) (withoutL l.waits s t).length (freeL l s t) (freeG l s t) := by
  have h := free_inv2 s t hk _ (Nat.le_refl _)
  have e1 : freeL l s t = (freeTo l s t (withoutL l.waits s t).length).1 := by simp [freeL, hk]
  have e2 : freeG l s t = (freeTo l s t (withoutL l.waits s t).length).2 := by simp [freeG, hk]
  rw [e1, e2]; exact h

theorem free_ok {l : Lk} (s t : Int) (hk : lockOkB l = true) : LOk (freeL l s t) := (free_all s t hk).ok

theorem keep_not {s t : Int} {y : Hd} (h : keepB s t y = true) : ¬ (y.stamp = s ∧ y.try_ ≤ t) := by
  rintro ⟨h1, h2⟩
  have : (y.stamp != s) = false := by simpa using h1
  simp [keepB, this] at h
  omega

theorem free_held {l : Lk} {s t : Int} (hk : lockOkB l = true) {y : Hd} (hy : y ∈ (freeL l s t).held) : keepB s t y = true := by
  rcases (free_all s t hk).heldIn y hy with h | h
  · exact (List.mem_filter.1 h).2
  · exact (List.mem_filter.1 (List.mem_of_mem_take h)).2
theorem free_waits {l : Lk} {s t : Int} (hk : lockOkB l = true) {y : Hd} (hy : y ∈ (freeL l s t).waits) : keepB s t y = true :=
  (List.mem_filter.1 (List.mem_of_mem_take ((free_all s t hk).waitIn y hy))).2

theorem free_got {l : Lk} {s t : Int} (hk : lockOkB l = true) : (∀ y ∈ freeG l s t, y ∈ l.waits) ∧ Up (freeG l s t) := by
  have h := (free_all s t hk).got
  have h2 : (freeG l s t).Sublist l.waits := (h.trans (List.take_sublist _ _)).trans List.filter_sublist
  exact ⟨fun y hy => h2.subset hy, (lok_of hk).wup.sublist h2⟩

/-- Who lets go twice. -/
theorem free_twice {l : Lk} (s t : Int) (hk : lockOkB l = true) : freeL (freeL l s t) s t = freeL l s t ∧ freeG (freeL l s t) s t = [] := by
  have hf := free_all s t hk
  have hok := hf.ok
  have k1 : withoutL (freeL l s t).held s t = (freeL l s t).held := filter_all (fun y hy => free_held hk hy)
  have k2 : withoutL (freeL l s t).waits s t = (freeL l s t).waits := filter_all (fun y hy => free_waits hk hy)
  have hst := hf.stuck
  generalize freeL l s t = L at *
  have gen : ∀ k, k ≤ L.waits.length → freeTo L s t k = (⟨L.slot, L.held, L.waits.take k⟩, []) := by
    intro k
    induction k with
    | zero => intro _; simp [freeTo, k1]
    | succ k ih =>
      intro hkl
      have hlt : k < L.waits.length := by omega
      rw [freeTo_step L s t k (by rw [k2]; omega), k2, ih (by omega)]
      have htake : L.waits.take (k + 1) = L.waits.take k ++ [L.waits.getD k Hd.z] := by rw [List.take_succ_eq_append_getElem hlt]; simp [List.getD, hlt]
      have hsplit : L.waits = L.waits.take k ++ (L.waits.getD k Hd.z :: L.waits.drop (k + 1)) := by
        have : L.waits.drop k = L.waits.getD k Hd.z :: L.waits.drop (k + 1) := by rw [List.drop_eq_getElem_cons hlt]; simp [List.getD, hlt]
        rw [← this]; exact (List.take_append_drop k L.waits).symm
      have hp : Up (L.waits.take k ++ (L.waits.getD k Hd.z :: L.waits.drop (k + 1))) := by rw [← hsplit]; exact hok.wup
      have hlow : ∀ y ∈ L.waits.take k, y.stamp < (L.waits.getD k Hd.z).stamp := fun y hy => (List.pairwise_append.1 hp).2.2 y hy _ (by simp)
      have hhigh : ∀ y ∈ L.waits.drop (k + 1), (L.waits.getD k Hd.z).stamp < y.stamp := (List.pairwise_cons.1 (List.pairwise_append.1 hp).2.1).1
      have hx := hst _ (getD_in hlt)
      have hc : (L.held.any (meetB (L.waits.getD k Hd.z)) || (L.waits.take k).any (behindB (L.waits.getD k Hd.z))) = true := by
        simp only [Bool.or_eq_true] at hx ⊢
        rcases hx with hx | hx
        · exact .inl hx
        · right
          obtain ⟨y, hy, hb⟩ := List.any_eq_true.1 hx
          refine List.any_eq_true.2 ⟨y, ?_, hb⟩
          have hlt2 : y.stamp < (L.waits.getD k Hd.z).stamp := by
            simp only [behindB, Bool.and_eq_true, decide_eq_true_eq] at hb; exact hb.2
          rw [hsplit] at hy
          simp only [List.mem_append, List.mem_cons] at hy
          rcases hy with hy | hy | hy
          · exact hy
          · rw [hy] at hlt2; omega
          · have := hhigh y hy; omega
      rw [htake]
      simp only [freeStepI, letInL, letInC, hc, if_true, Bool.not_true, Bool.false_eq_true, if_false, putI_end hlow]
  have h := gen L.waits.length (Nat.le_refl _)
  rw [List.take_of_length_le (Nat.le_refl _)] at h
  refine ⟨?_, ?_⟩
  · simp only [freeL, hok.ok, if_true, k2, h]
  · simp only [freeG, hok.ok, if_true, k2, h]

/-- A promise: the lock stays ok, and the hold is there. -/
theorem firm_ok {l : Lk} {s t : Int} (hc : firmC l s t = true) : LOk (firmL l s t) ∧ ∃ x ∈ (firmL l s t).held, x.stamp = s ∧ x.try_ = t ∧ x.firm = true := by
  simp only [firmC, Bool.and_eq_true, decide_eq_true_eq] at hc
  obtain ⟨hk, h0⟩ := hc
  have hok := lok_of hk
  rcases idxL_cases (fun h => h.stamp == s && h.try_ == t) l.held with ⟨e, -⟩ | ⟨k, hkl, e, hp, -⟩
  · unfold firmAt at h0; rw [e] at h0; omega
  · obtain ⟨f1, -⟩ := firm_at hk (k := k) e
    rw [f1]
    simp only [Bool.and_eq_true, beq_iff_eq] at hp
    have hgx : l.held.getD k Hd.z = l.held[k] := by simp [List.getD, hkl]
    have hst : ∀ i (hi : i < (setFirm l.held k).length), ((setFirm l.held k)[i]).stamp = (l.held[i]'(by simpa [setFirm] using hi)).stamp ∧ ((setFirm l.held k)[i]).share = (l.held[i]'(by simpa [setFirm] using hi)).share ∧ ((setFirm l.held k)[i]).try_ = (l.held[i]'(by simpa [setFirm] using hi)).try_ := fun i hi => by
      simp only [setFirm, List.getElem_set]
      split
      · rename_i hik; subst hik; exact ⟨show (l.held.getD k Hd.z).stamp = _ from congrArg Hd.stamp hgx, show (l.held.getD k Hd.z).share = _ from congrArg Hd.share hgx, show (l.held.getD k Hd.z).try_ = _ from congrArg Hd.try_ hgx⟩
      · exact ⟨rfl, rfl, rfl⟩
    have hlen : (setFirm l.held k).length = l.held.length := by simp [setFirm]
    have hmem : ∀ x ∈ setFirm l.held k, ∃ y ∈ l.held, x.stamp = y.stamp ∧ x.share = y.share ∧ x.try_ = y.try_ := fun x hx => by
      obtain ⟨i, hi, rfl⟩ := List.getElem_of_mem hx
      exact ⟨_, List.getElem_mem (by simpa [setFirm] using hi), hst i hi⟩
    refine ⟨⟨hok.slot, by simp only [hlen]; exact hok.len, fun x hx => ?_, hok.wok, ?_, hok.wup, fun x hx y hy => ?_, hok.soft, fun x hx y hy => ?_⟩, (setFirm l.held k)[k]'(by rw [hlen]; exact hkl), List.getElem_mem _, ?_⟩
    · obtain ⟨y, hy, a, b, c⟩ := hmem x hx
      have := hok.hok y hy
      simpa [holdOkB, a, c] using this
    · rw [Up, List.pairwise_iff_getElem]
      intro i j hi hj hij
      rw [(hst i hi).1, (hst j hj).1]
      exact (List.pairwise_iff_getElem.1 hok.hup) i j _ _ hij
    · obtain ⟨x', hx', a, b, -⟩ := hmem x hx
      obtain ⟨y', hy', a', b', -⟩ := hmem y hy
      have := hok.meet x' hx' y' hy'
      simpa [meetB, a, b, a', b'] using this
    · obtain ⟨x', hx', a, -, -⟩ := hmem x hx
      rw [a]; exact hok.apart x' hx' y hy
    · have := hst k (by rw [hlen]; exact hkl)
      rw [hgx] at hp
      exact ⟨this.1.trans hp.1, this.2.2.trans hp.2, by simp [setFirm]⟩

/-- What is promised is never taken. -/
theorem firm_kept {l : Lk} {h x : Hd} (hok : LOk l) (hx : x ∈ l.held) (hf : x.firm = true) : (∀ y ∈ askT l h, y.stamp ≠ x.stamp) ∧ x ∈ (askL l h).held := by
  have hk := hok.ok
  refine ⟨fun y hy e => ?_, ?_⟩
  · obtain ⟨h1, -, h3, -⟩ := ask_taken hk hy
    have := up_same hok.hup h3 hx e
    subst this
    rw [hf] at h1; cases h1
  · rcases ask_ways l h hk with ⟨e, -, -⟩ | ⟨hb, hs, hfu, e, -, -⟩
    · rw [e]; exact hx
    · rw [e]
      have k := lets_of hk hb hs hfu
      have hne : x.stamp ≠ h.stamp := fun es => by
        have := (stands_held hok hx es).1
        rw [hs, hf] at this; simp at this
      refine held_letIn k.h1 (List.mem_filter.2 ⟨List.mem_filter.2 ⟨hx, keep_other hne⟩, ?_⟩)
      simp [takesB, hf]

theorem one_of {L : List Hd} {s : Int} (hp : L.Pairwise (fun a b => a.stamp ≠ b.stamp)) {x : Hd} (hx : x ∈ L) (e : x.stamp = s) : (L.filter (fun y => y.stamp == s)).length = 1 := by
  induction L with
  | nil => cases hx
  | cons y r ih =>
    obtain ⟨h1, h2⟩ := List.pairwise_cons.1 hp
    by_cases hy : y.stamp = s
    · have h0 : r.filter (fun y => y.stamp == s) = [] := filter_none (fun z hz => by have := h1 z hz; simp; omega)
      rw [List.filter_cons]
      simp [hy, h0]
    · have hxr : x ∈ r := by
        simp only [List.mem_cons] at hx
        rcases hx with rfl | hx
        · exact absurd e hy
        · exact hx
      rw [List.filter_cons]
      simp only [show (y.stamp == s) = false by simpa using hy, Bool.false_eq_true, if_false]
      exact ih h2 hxr

theorem all_apart {l : Lk} (h : LOk l) : (l.held ++ l.waits).Pairwise (fun a b => a.stamp ≠ b.stamp) := by
  rw [List.pairwise_append]
  exact ⟨h.hup.imp (fun h => by omega), h.wup.imp (fun h => by omega), h.apart⟩

/-- A later try stands instead of an elder one. -/
theorem ask_try {l : Lk} {h : Hd} (hk : lockOkB l = true) (hb : badB h = false) (hl : l.held.length + l.waits.length < 16) :
    (((askL l h).held ++ (askL l h).waits).filter (fun y => y.stamp == h.stamp)).length = 1 ∨ (∃ x ∈ l.held, x.stamp = h.stamp ∧ x.firm = true) := by
  have hok := ask_ok h hk
  have hap := all_apart hok
  rcases ask_ways l h hk with ⟨e, -, h3⟩ | ⟨-, hs, hf, e, -, -⟩
  · rw [e] at hap ⊢
    have hok' := lok_of hk
    rcases h3 with h3 | h3 | h3
    · rw [hb] at h3; cases h3
    · left
      unfold standsB at h3
      rcases idxL_cases (sameB h) l.held with ⟨i1, -⟩ | ⟨k, hkl, i1, i2, -⟩
      · rw [i1] at h3
        simp only [show ¬ ((0 : Int) ≤ -1) by omega, if_false] at h3
        rcases idxL_cases (sameB h) l.waits with ⟨j1, -⟩ | ⟨k, hkl, j1, j2, -⟩
        · rw [j1] at h3; simp at h3
        · exact one_of hap (x := l.waits.getD k Hd.z) (by simp only [List.mem_append]; exact .inr (getD_in hkl)) (by simp only [sameB, beq_iff_eq] at j2; exact j2.symm)
      · exact one_of hap (x := l.held.getD k Hd.z) (by simp only [List.mem_append]; exact .inl (getD_in hkl)) (by simp only [sameB, beq_iff_eq] at i2; exact i2.symm)
    · have e1 := (rest_sub l h).1.length_le
      have e2 := (rest_sub l h).2.length_le
      simp only [fullB, decide_eq_true_eq] at h3; omega
  · left
    have k := lets_of hk hb hs hf
    refine one_of hap (x := h) ?_ rfl
    rw [e]
    unfold letInL
    rw [putI_insR k.h1, putI_insR k.h2]
    simp only [List.mem_append]
    split
    · exact .inr (in_insR (.inl rfl))
    · exact .inl (in_insR (.inl rfl))

theorem ask_try_ge {l : Lk} {h : Hd} (hk : lockOkB l = true) (hb : badB h = false) (hl : l.held.length + l.waits.length < 16) (hn : ∀ x ∈ l.held, x.stamp = h.stamp → x.firm = false) :
    ∀ y ∈ (askL l h).held ++ (askL l h).waits, y.stamp = h.stamp → h.try_ ≤ y.try_ := by
  intro y hy es
  have hok' := lok_of hk
  rcases ask_ways l h hk with ⟨e, -, h3⟩ | ⟨-, hs, hf, e, -, -⟩
  · rw [e] at hy
    rcases h3 with h3 | h3 | h3
    · rw [hb] at h3; cases h3
    · simp only [List.mem_append] at hy
      rcases hy with hy | hy
      · have := (stands_held hok' hy es).1
        rw [h3, hn y hy es] at this
        simpa using this.symm
      · have hno : ∀ z ∈ l.held, z.stamp ≠ h.stamp := fun z hz e2 => hok'.apart z hz y hy (by rw [e2, es])
        unfold standsB at h3
        rw [idx_no hno] at h3
        simp only [show ¬ ((0 : Int) ≤ -1) by omega, if_false] at h3
        obtain ⟨k, k1, k2⟩ := idx_of hok'.wup hy es
        rw [k1] at h3
        simp only [Int.toNat_natCast, k2, Bool.and_eq_true, decide_eq_true_eq] at h3
        omega
    · have e1 := (rest_sub l h).1.length_le
      have e2 := (rest_sub l h).2.length_le
      simp only [fullB, decide_eq_true_eq] at h3; omega
  · have k := lets_of hk hb hs hf
    rw [e] at hy
    unfold letInL at hy
    rw [putI_insR k.h1, putI_insR k.h2] at hy
    simp only [List.mem_append] at hy
    split at hy
    · rcases hy with hy | hy
      · exact absurd es (k.h1 y hy)
      · rcases mem_insR hy with rfl | hy
        · exact Int.le_refl _
        · exact absurd es (k.h2 y hy)
    · rcases hy with hy | hy
      · rcases mem_insR hy with rfl | hy
        · exact Int.le_refl _
        · exact absurd es (k.h1 y hy)
      · exact absurd es (k.h2 y hy)

/-- One who has promised stays. -/
theorem ask_firm_same {l : Lk} {h x : Hd} (hk : lockOkB l = true) (hx : x ∈ l.held) (e : x.stamp = h.stamp) (hf : x.firm = true) : askL l h = l := by
  have hs : standsB l h = true := by rw [(stands_held (lok_of hk) hx e).1, hf]; rfl
  cases hb : badB h
  · exact (ask_stands hk hb hs).1
  · exact (ask_bad hk hb).1

end Go.Proofs.Ytoojnhodjkpecaa

namespace Go.Proofs.Ytoojnhodjkpecaa
open Go.RowKit Go.Shelf

theorem neq_hd (a b : Hd) : ∀ ws, (binOp .neq 27 (.agg #[.int .i64 a.stamp, .int .i64 a.try_, .bool a.share, .bool a.firm]) (.agg #[.int .i64 b.stamp, .int .i64 b.try_, .bool b.share, .bool b.firm])).run Try.prog ws = .ok (.bool (!eqHd a b)) ws := by
  intro ws
  rw [eqHd_and]
  rw [run_neq_struct, run_equalIn_agg _ 9999 _ _ _ (by kernel_rfl) (by kernel_rfl)]
  have hf : (Try.prog.fieldsOf 27).toList.map (fun f => (f.name == "_", f.type, f.offset)) = [(false, 3, 0), (false, 3, 1), (false, 4, 2), (false, 4, 3)] := by kernel_rfl
  have hu := Try.underlying3
  have hb := Try.underlying4
  generalize (Try.prog.fieldsOf 27).toList = fs at hf
  have hk : Try.prog.plainKey 3 = true := by kernel_rfl
  have hkb : Try.prog.plainKey 4 = true := by kernel_rfl
  match fs, hf with
  | [], hf => simp at hf
  | [_], hf => simp at hf
  | [_, _], hf => simp at hf
  | [_, _, _], hf => simp at hf
  | _ :: _ :: _ :: _ :: _ :: _, hf => simp at hf
  | [f, g, h, k], hf =>
    simp only [List.map_cons, List.map_nil, List.cons.injEq, Prod.mk.injEq, beq_eq_false_iff_ne, and_true] at hf
    obtain ⟨⟨f1, f2, f3⟩, ⟨g1, g2, g3⟩, ⟨h1, h2, h3⟩, k1, k2, k3⟩ := hf
    have e1 : ∀ (a b : Int) (wx : World), (Op.equalIn 9999 3 (.int .i64 a) (.int .i64 b)).run Try.prog wx = .ok (a == b) wx := fun a b wx => run_equalIn_int wx 9998 _ .i64 .i64 a b hu
    have e2 : ∀ (a b : Bool) (wx : World), (Op.equalIn 9999 4 (.bool a) (.bool b)).run Try.prog wx = .ok (a == b) wx := fun a b wx => run_equalIn_bool' wx 9998 _ a b hb
    simp only [Op.eqFields, f1, f2, f3, g1, g2, g3, h1, h2, h3, k1, k2, k3, ne_eq, not_false_eq_true, if_true, Sem.run_bind]
    rw [run_part_plain _ hk (v := .int .i64 a.stamp) rfl, Result.andThen_ok, run_part_plain _ hk (v := .int .i64 b.stamp) rfl, Result.andThen_ok, e1, Result.andThen_ok]
    cases (a.stamp == b.stamp)
    · rfl
    · simp only [Bool.not_true, Bool.false_eq_true, if_false, Sem.run_bind]
      rw [run_part_plain _ hk (v := .int .i64 a.try_) rfl, Result.andThen_ok, run_part_plain _ hk (v := .int .i64 b.try_) rfl, Result.andThen_ok, e1, Result.andThen_ok]
      cases (a.try_ == b.try_)
      · rfl
      · simp only [Bool.not_true, Bool.false_eq_true, if_false, Sem.run_bind]
        rw [run_part_plain _ hkb (v := .bool a.share) rfl, Result.andThen_ok, run_part_plain _ hkb (v := .bool b.share) rfl, Result.andThen_ok, e2, Result.andThen_ok]
        cases (a.share == b.share)
        · rfl
        · simp only [Bool.not_true, Bool.false_eq_true, if_false, Sem.run_bind]
          rw [run_part_plain _ hkb (v := .bool a.firm) rfl, Result.andThen_ok, run_part_plain _ hkb (v := .bool b.firm) rfl, Result.andThen_ok, e2, Result.andThen_ok]
          cases (a.firm == b.firm) <;> rfl

theorem eqHd_self (x : Hd) : eqHd x x = true := by simp [eqHd]
theorem neq_hd_self (x : Hd) : ∀ ws : World, (binOp .neq 27 (.agg #[.int .i64 x.stamp, .int .i64 x.try_, .bool x.share, .bool x.firm]) (.agg #[.int .i64 x.stamp, .int .i64 x.try_, .bool x.share, .bool x.firm])).run Try.prog ws = .ok (.bool false) ws := by
  intro ws; rw [neq_hd, eqHd_self]; rfl

set_option maxRecDepth 100000 in
set_option maxHeartbeats 1000000 in
theorem loHolds_same (v u : Value) (xs : List Hd) (w : World) (hv : RowAt hdE w v xs) (hu : RowAt hdE w u xs) :
    Calls Try.prog 20 #[v, u] w fun e w' => e = .returned (.bool true) ∧ Below w.heap.size w w' := by
  obtain ⟨a, cap, rfl, hl⟩ := hv.shape
  obtain ⟨a', cap', rfl, hl'⟩ := hu.shape
  have HV := hide hv
  have HU := hide hu
  clear hv hu
  generalize hN : xs.length = N at *
  have HN := hide hN
  clear hN
  unfold maxLen at hl hl'
  have hne : ((N : Int) != (N : Int)) = false := by simp
  go_enter Try.func20, Try.ntmps20
  go_wp2
  go_loopw [5] (fun i wr => ∃ k : Nat, k ≤ N ∧ i = .int .i64 k ∧ Below w.heap.size w wr) (fun i _ => N - (intOf i).toNat)
  case atStart => exact ⟨0, Nat.zero_le _, rfl, Below.refl _ _⟩
  case round =>
    obtain ⟨k, hk, rfl, hb⟩ := hrel
    have HB := hide hb
    clear hb
    by_cases hlt : k < N
    · obtain ⟨b, off, rfl⟩ := (unhide HV).some_of (by rw [unhide HN]; omega)
      obtain ⟨b', off', rfl⟩ := (unhide HU).some_of (by rw [unhide HN]; omega)
      obtain ⟨c0, c1, c2, c3⟩ := hd_cells ((unhide HV).kept (unhide HB)) (i := k) (by rw [unhide HN]; exact hlt)
      obtain ⟨d0, d1, d2, d3⟩ := hd_cells ((unhide HU).kept (unhide HB)) (i := k) (by rw [unhide HN]; exact hlt)
      have hxb := neq_hd_self (xs.getD k Hd.z)
      generalize xs.getD k Hd.z = x at *
      have hkI : (k : Int) < (N : Int) := by omega
      have hk0 : (0 : Int) ≤ (k : Int) := by omega
      go_wp2
      go_quiet (fail)
      go_wp2
      go_roundw
      case rel => exact ⟨k + 1, hlt, by go_num, below_drewN (unhide HB) _⟩
      case measure => simp [intOf]; omega
    · go_wp2
      go_ret
      exact ⟨rfl, unhide HB⟩

set_option maxRecDepth 100000 in
set_option maxHeartbeats 1000000 in
theorem loLock_same (l : Lk) (a b c d : Value) (w : World) (hv : LkAt w l a b) (hu : LkAt w l c d) :
    Calls Try.prog 19 #[lkV l a b, lkV l c d] w fun e w' => e = .returned (.bool true) ∧ Below w.heap.size w w' := by
  obtain ⟨slot, H, W⟩ := l
  obtain ⟨a0, a1, rfl, -⟩ := hv.held.shape
  obtain ⟨b0, b1, rfl, -⟩ := hv.waits.shape
  obtain ⟨c0, c1, rfl, -⟩ := hu.held.shape
  obtain ⟨d0, d1, rfl, -⟩ := hu.waits.shape
  have HV := hide hv
  have HU := hide hu
  clear hv hu
  simp only [lkV] at *
  have hss : (slot == slot) = true := by simp
  go_enter Try.func19, Try.ntmps19
  go_wp2_with fail
  have hbz : Below w.heap.size w ((w.alloc (.cells #[.int .i64 slot, .slice a0 H.length a1, .slice b0 W.length b1] 25)).alloc (.cells #[.int .i64 slot, .slice c0 H.length c1, .slice d0 W.length d1] 25)) := ((Below.refl _ _).alloc (Nat.le_refl _) _).alloc (by simp) _
  refine (loHolds_same _ _ H _ ((unhide HV).kept hbz).held ((unhide HU).kept hbz).held).mono ?_
  rintro e w1 ⟨rfl, h1⟩
  have HB1 := hide (hbz.trans (h1.mono hbz.size))
  have x1 := ((Bx.made w 25 #[.int .i64 slot, .slice a0 H.length a1, .slice b0 W.length b1]).allocK (o := .cells #[.int .i64 slot, .slice c0 H.length c1, .slice d0 W.length d1] 25)).kept h1
  have x2 : Bx w1 (w.heap.size + 1) 25 #[.int .i64 slot, .slice c0 H.length c1, .slice d0 W.length d1] := Bx.kept ⟨heap_alloc2_new w (.cells #[.int .i64 slot, .slice a0 H.length a1, .slice b0 W.length b1] 25) (.cells #[.int .i64 slot, .slice c0 H.length c1, .slice d0 W.length d1] 25)⟩ h1
  obtain ⟨p0, p1, p2⟩ := x1.three
  obtain ⟨q0, q1, q2⟩ := x2.three
  clear x1 x2 h1 hbz
  go_wp2_with fail
  refine (loHolds_same _ _ W _ ((unhide HV).kept (unhide HB1)).waits ((unhide HU).kept (unhide HB1)).waits).mono ?_
  rintro e w2 ⟨rfl, h2⟩
  go_wp2_with fail
  go_ret
  exact ⟨rfl, (unhide HB1).trans (h2.mono (unhide HB1).size)⟩

end Go.Proofs.Ytoojnhodjkpecaa

namespace Go.Proofs.Ytoojnhodjkpecaa
open Go.RowKit

set_option maxRecDepth 100000 in
set_option maxHeartbeats 4000000 in
theorem implFirm_any (l : Lk) (a b : Value) (s t : Int) (w : World) (hv : LkAt w l a b) (hn : l.held.length ≤ 1048576) (hm : l.waits.length ≤ 1048576) :
    Calls Try.prog 27 #[lkV l a b, .int .i64 s, .int .i64 t] w fun e w' => ∃ a' b', e = .returned (.tuple #[lkV (firmL l s t) a' b', .bool (firmC l s t)]) ∧ OwnLk w' w.heap.size (firmL l s t) a' b' ∧ Below w.heap.size w w' := by
  have HU := hide hv
  have HOK := hide (fun ww hk => lockOkI_any l a b ww hk hn hm)
  rw [lockOk_eq] at HOK
  have HCP := hide (fun ww hk h1 h2 => copyLock_any l a b ww hk h1 h2)
  have hshape : ∃ a0 c0 a1 c1, a = .slice a0 l.held.length c0 ∧ b = .slice a1 l.waits.length c1 := by
    obtain ⟨a0, c0, rfl, -⟩ := hv.held.shape
    obtain ⟨a1, c1, rfl, -⟩ := hv.waits.shape
    exact ⟨a0, c0, a1, c1, rfl, rfl⟩
  obtain ⟨a0, c0, a1, c1, rfl, rfl⟩ := hshape
  clear hv
  obtain ⟨A0, hA0⟩ : ∃ A0, A0 = (w.alloc (.cells #[.int .i64 l.slot, .slice a0 l.held.length c0, .slice a1 l.waits.length c1] 25)).alloc (.cells #[.int .i64 0, .slice none 0 0, .slice none 0 0] 25) := ⟨_, rfl⟩
  have HX0 : Hid (Bx A0 w.heap.size 25 #[.int .i64 l.slot, .slice a0 l.held.length c0, .slice a1 l.waits.length c1]) := by rw [hA0]; exact (Bx.made w _ _).allocK
  have HR0 : Hid (Bx A0 (w.heap.size + 1) 25 #[.int .i64 0, .slice none 0 0, .slice none 0 0]) := by
    have := Bx.made (w.alloc (.cells #[.int .i64 l.slot, .slice a0 l.held.length c0, .slice a1 l.waits.length c1] 25)) 25 #[.int .i64 0, .slice none 0 0, .slice none 0 0]
    rw [hA0]; rwa [show (w.alloc (.cells #[.int .i64 l.slot, .slice a0 l.held.length c0, .slice a1 l.waits.length c1] 25)).heap.size = w.heap.size + 1 by simp] at this
  have HB0 : Hid (Below w.heap.size w A0) := by rw [hA0]; exact ((Below.refl _ _).alloc (Nat.le_refl _) _).alloc (by simp) _
  have HA0 := hide hA0
  clear hA0
  cases hok : lockOkB l
  · have HF := hide (firm_no (s := s) (t := t) hok)
    rw [hok] at HOK
    simp only [lkV] at *
    go_enter Try.func27, Try.ntmps27
    go_wp2_with fail
    rw [← unhide HA0]
    refine (unhide HOK _ ((unhide HU).kept (unhide HB0))).mono ?_; rintro e w1 ⟨rfl, hb1⟩
    have HR1 := hide ((unhide HR0).kept hb1)
    have HB1 := hide ((unhide HB0).trans (hb1.mono (unhide HB0).size))
    clear hb1
    obtain ⟨r0, r1, r2⟩ := (unhide HR1).three
    obtain ⟨f0, f1, f2⟩ := (unhide HR1).free3
    go_wp2_with fail
    refine bodyPost_ret (results_row_tmp rfl _ _ (w.heap.size + 1) _ _ _ _ rfl ((((unhide HR1).setC 0 (.int .i64 0)).setC 1 (.slice none 0 0)).setC 2 (.slice none 0 0)).row Try.underlying25 rfl (by kernel_rfl)) rfl ?_
    rw [(unhide HF).1, (unhide HF).2]
    exact ⟨_, _, ret_two rfl rfl, OwnLk.zero _ _, (((unhide HB1).setCell (by simp) _).setCell (by simp) _).setCell (by simp) _⟩
  obtain ⟨-, h16, hho, -, -, -⟩ := lockOk_parts hok
  have hasc := asc_of_holds hho
  have HOK1 := hide hok
  rw [hok] at HOK
  have HASC := hide hasc
  have HLN : Hid (l.held.length ≤ 1000) := by show l.held.length ≤ 1000; omega
  have HLM : Hid (l.waits.length ≤ 1000) := by show l.waits.length ≤ 1000; omega
  have hl16 : l.held.length ≤ 16 := by omega
  clear hok hho hasc h16 hn hm
  have HFN := hide (fun h1 => firm_none (s := s) (t := t) (unhide HOK1) h1)
  have HFA := hide (fun k h1 => firm_at (k := k) (s := s) (t := t) (unhide HOK1) h1)
  generalize hFL : firmL l s t = FL at *
  generalize hFC : firmC l s t = FC at *
  obtain ⟨slot, H, W⟩ := l
  simp only [lkV] at *
  clear hFL hFC
  go_enter Try.func27, Try.ntmps27
  go_wp2_with fail
  rw [← unhide HA0]
  refine (unhide HOK _ ((unhide HU).kept (unhide HB0))).mono ?_; rintro e w1 ⟨rfl, hb1⟩
  have HX1 := hide ((unhide HX0).kept hb1)
  have HR1 := hide ((unhide HR0).kept hb1)
  have HB1 := hide ((unhide HB0).trans (hb1.mono (unhide HB0).size))
  clear hb1 HX0 HR0 HB0 HA0
  obtain ⟨q0, q1, q2⟩ := (unhide HX1).three
  go_wp2_with fail
  refine (unhide HCP _ ((unhide HU).kept (unhide HB1)) (unhide HLN) (unhide HLM)).mono ?_; rintro e w2 ⟨a', b', rfl, hoa, hob, hne, hb2⟩
  have l1 := (unhide HR1).lt
  have HOL := hide ((OwnLk.mk (l := ⟨slot, H, W⟩) hoa hob hne))
  obtain ⟨a2, ca, a3, cb, rfl, rfl⟩ := (unhide HOL).shape
  have bW : Below w2.heap.size w2 (w2.alloc (.cells #[.int .i64 slot, .slice a2 H.length ca, .slice a3 W.length cb] 25)) := (Below.refl _ _).alloc (Nat.le_refl _) _
  have HR2 := hide (((unhide HR1).kept hb2).kept bW)
  have HN2 := hide (Bx.made w2 25 #[.int .i64 slot, .slice a2 H.length ca, .slice a3 W.length cb])
  have b2 := (unhide HB1).trans (hb2.mono (unhide HB1).size)
  have HB2 := hide (b2.trans (bW.mono b2.size))
  have HO2 := hide ((unhide HOL).kept bW)
  have lr2 := ((unhide HR1).kept hb2).lt
  have HGL := hide (fun q hq => ((unhide HOL).held.lt q hq))
  have l1' : w.heap.size + 1 < w1.heap.size := l1
  have hw1 : w.heap.size ≤ w1.heap.size := by omega
  have lN := (unhide HN2).lt
  clear hoa hob hne hb2 bW b2 HX1 HR1 HB1 q0 q1 q2 HOL
  go_wp2_with fail
  obtain ⟨x2, hx2⟩ : ∃ x2, x2 = w2.alloc (.cells #[.int .i64 slot, .slice a2 H.length ca, .slice a3 W.length cb] 25) := ⟨_, rfl⟩
  rw [← hx2] at HR2 HN2 HB2 HO2 lN ⊢
  clear hx2
  go_loopw [20] (fun i wr => ∃ k : Nat, k ≤ H.length ∧ i = .int .i64 k ∧ (∀ j, j < k → (fun h : Hd => h.stamp == s && h.try_ == t) (H.getD j Hd.z) = false) ∧ Below x2.heap.size x2 wr) (fun i _ => H.length - (intOf i).toNat)
  case atStart => exact ⟨0, Nat.zero_le _, rfl, fun j hj => by omega, Below.refl _ _⟩
  case round =>
    obtain ⟨k, hk, rfl, hno, hb⟩ := hrel
    have HNO := hide hno
    have HB := hide ((unhide HB2).trans (hb.mono (unhide HB2).size))
    have HR := hide ((unhide HR2).kept hb)
    have HN := hide ((unhide HN2).kept hb)
    have HO := hide ((unhide HO2).kept hb)
    have HBX := hide hb
    have lz := hb.size
    clear hno hb
    by_cases hlt : k < H.length
    case neg =>
      have HF := hide (unhide HFN (idxL_none (fun j hj => unhide HNO j (by omega))))
      have hnl : ¬ (k : Int) < (H.length : Int) := by omega
      obtain ⟨r0, r1, r2⟩ := (unhide HR).three
      obtain ⟨f0, f1, f2⟩ := (unhide HR).free3
      obtain ⟨n0, n1, n2⟩ := (unhide HN).three
      go_wp2_with fail
      have HRZ := hide ((((unhide HR).setC 0 (.int .i64 slot)).setC 1 (.slice a2 H.length ca)).setC 2 (.slice a3 W.length cb))
      refine bodyPost_ret (results_row_tmp rfl _ _ (w.heap.size + 1) _ _ _ _ rfl (unhide HRZ).row Try.underlying25 rfl (by kernel_rfl)) rfl ?_
      rw [(unhide HF).1, (unhide HF).2]
      exact ⟨_, _, ret_two rfl rfl, ((((unhide HO).set (g := w.heap.size + 1) l1' 0 _).set (g := w.heap.size + 1) l1' 1 _).set (g := w.heap.size + 1) l1' 2 _).low hw1, (((unhide HB).setCell (by simp) _).setCell (by simp) _).setCell (by simp) _⟩
    obtain ⟨ad, ce, hae, hg⟩ := ownsRow_slice (unhide HO2).held
    simp only [Value.slice.injEq] at hae
    obtain ⟨hae1, -, -⟩ := hae
    rw [← hae1] at hg
    clear hae1
    obtain ⟨g, rfl, hg1, hg2⟩ : ∃ g, a2 = some ⟨g, 0, none⟩ ∧ w1.heap.size ≤ g ∧ g < w2.heap.size := by
      rcases hg with h | ⟨g, h, _⟩
      · simp only at h; omega
      · have := unhide HGL g (by rw [h]; rfl)
        exact ⟨g, h, this.1, this.2⟩
    clear hg
    obtain ⟨e0, e1, e2, e3⟩ := hd_cells (unhide HO).at.held (i := k) hlt
    generalize hx : H.getD k Hd.z = x at e0 e1 e2 e3
    have HX := hide hx
    simp only [Nat.zero_add] at e0 e1 e2 e3
    have hk0 : (0 : Int) ≤ (k : Int) := by omega
    have hkn : (k : Int) < (H.length : Int) := by omega
    clear hx
    cases hp : (x.stamp == s && x.try_ == t)
    · have HNO2 : Hid (∀ j, j < k + 1 → (fun h : Hd => h.stamp == s && h.try_ == t) (H.getD j Hd.z) = false) := by
        intro j hj
        by_cases e : j = k
        · subst e; simp only [unhide HX]; exact hp
        · exact unhide HNO j (by omega)
      have bD : Below x2.heap.size x2 (wr.alloc (.cells #[.int .i64 x.stamp, .int .i64 x.try_, .bool x.share, .bool x.firm] 27)) := (unhide HBX).alloc lz _
      cases hp1 : (x.stamp == s)
      · clear hp
        go_wp2_with fail
        go_roundw
        case rel => exact ⟨k + 1, hlt, by go_num, unhide HNO2, bD⟩
        case measure => simp [intOf]; omega
      · rw [hp1] at hp
        have hp2 : (x.try_ == t) = false := by simpa using hp
        clear hp
        go_wp2_with fail
        go_roundw
        case rel => exact ⟨k + 1, hlt, by go_num, unhide HNO2, bD⟩
        case measure => simp [intOf]; omega
    · have HF := hide (unhide HFA k (idxL_found hlt (by simp only [unhide HX]; exact hp) (unhide HNO)))
      have hp1 : (x.stamp == s) = true := by simp only [Bool.and_eq_true] at hp; exact hp.1
      have hp2 : (x.try_ == t) = true := by simp only [Bool.and_eq_true] at hp; exact hp.2
      clear hp
      have bD : Below wr.heap.size wr (wr.alloc (.cells #[.int .i64 x.stamp, .int .i64 x.try_, .bool x.share, .bool x.firm] 27)) := (Below.refl _ _).alloc (Nat.le_refl _) _
      have HOd := hide ((unhide HO).kept bD)
      have HRd := hide ((unhide HR).kept bD)
      have HNd := hide ((unhide HN).kept bD)
      have HBd := hide ((unhide HB).trans (bD.mono (unhide HB).size))
      obtain ⟨n0, n1, n2⟩ := (unhide HN).three
      obtain ⟨m0, m1, m2⟩ := (unhide HNd).three
      have d3 := (unhide HOd).held.frozenAt (k * 4 + 3)
      obtain ⟨t0, t1, t2, t3⟩ := hd_cells (unhide HOd).at.held (i := k) hlt
      rw [unhide HX] at t0 t1 t2 t3
      simp only [Nat.zero_add] at t0 t1 t2 t3
      have HST := hide ((unhide HOd).held.stored (k * 4 + 3) (.bool true))
      have hgr := (unhide HST).2
      have HR3 := hide ((unhide HRd).far hgr (by intro e; simp at e; omega))
      have HN3 := hide ((unhide HNd).far hgr (by intro e; simp at e; omega))
      have HB3 := hide ((unhide HBd).setCell (p := ⟨g, k * 4 + 3, none⟩) (by show w.heap.size ≤ g; omega) (.bool true))
      have HW3 := hide ((unhide HOd).waits.kept hgr ((unhide HOd).ne.elim (fun h => by simp [Value.ownBlock] at h) (fun h => .inr (Ne.symm h))))
      obtain ⟨r0', r1', r2'⟩ := (unhide HR3).three
      obtain ⟨f0', f1', f2'⟩ := (unhide HR3).free3
      obtain ⟨n0', n1', n2'⟩ := (unhide HN3).three
      have HN0 := hide (unhide HOd).ne
      clear hgr bD
      go_wp2_with fail
      have HRZ := hide ((((unhide HR3).setC 0 (.int .i64 slot)).setC 1 (.slice (some ⟨g, 0, none⟩) H.length ca)).setC 2 (.slice a3 W.length cb))
      refine bodyPost_ret (results_row_tmp rfl _ _ (w.heap.size + 1) _ _ _ _ rfl (unhide HRZ).row Try.underlying25 rfl (by kernel_rfl)) rfl ?_
      rw [(unhide HF).1, (unhide HF).2]
      have hO3 : OwnLk ((wr.alloc (.cells #[.int .i64 x.stamp, .int .i64 x.try_, .bool x.share, .bool x.firm] 27)).setCell ⟨g, k * 4 + 3, none⟩ (.bool true)) w1.heap.size ⟨slot, setFirm H k, W⟩ (.slice (some ⟨g, 0, none⟩) H.length ca) (.slice a3 W.length cb) := by
        refine ⟨?_, unhide HW3, unhide HN0⟩
        have h1 := (unhide HST).1
        rw [flat_set_firm H k x (unhide HX) hlt] at h1
        simp only [setFirm, List.length_set, unhide HX]
        exact h1
      refine ⟨_, _, ret_two rfl rfl, (((hO3.set (g := w.heap.size + 1) l1' 0 _).set (g := w.heap.size + 1) l1' 1 _).set (g := w.heap.size + 1) l1' 2 _).low hw1, (((unhide HB3).setCell (by simp) _).setCell (by simp) _).setCell (by simp) _⟩

end Go.Proofs.Ytoojnhodjkpecaa

namespace Go.Proofs.Ytoojnhodjkpecaa
open Go.RowKit

theorem askI_law (l : Lk) (a b : Value) (h : Hd) (w : World) (hv : LkAt w l a b) (hn : l.held.length ≤ 100) (hm : l.waits.length ≤ 100) :
    Calls Try.prog 18 #[lkV l a b, hdV h] w fun e w' => ∃ a0 c0 a1 c1 r c, e = .returned (.tuple #[lkV (askL l h) (.slice a0 (askL l h).held.length c0) (.slice a1 (askL l h).waits.length c1), .bool (askC l h), .slice r (askT l h).length c]) ∧ LkAt w' (askL l h) (.slice a0 (askL l h).held.length c0) (.slice a1 (askL l h).waits.length c1) ∧ RowAt hdE w' (.slice r (askT l h).length c) (askT l h) ∧ Below w.heap.size w w' := by
  refine (implAsk_any l a b h w hv (by omega) (by omega)).mono ?_
  rintro e w' ⟨a', b', r, rfl, ho, hr, hb⟩
  obtain ⟨a0, c0, a1, c1, rfl, rfl⟩ := ho.shape
  obtain ⟨r0, rc, rfl, -⟩ := hr.1.at'.shape
  exact ⟨a0, c0, a1, c1, r0, rc, rfl, ho.at, hr.1.at', hb⟩

theorem askS_law (l : Lk) (a b : Value) (h : Hd) (w : World) (hv : LkAt w l a b) (hn : l.held.length ≤ 100) (hm : l.waits.length ≤ 100) :
    Calls Try.prog 16 #[lkV l a b, hdV h] w fun e w' => ∃ a0 c0 a1 c1 r c, e = .returned (.tuple #[lkV (askL l h) (.slice a0 (askL l h).held.length c0) (.slice a1 (askL l h).waits.length c1), .bool (askC l h), .slice r (askT l h).length c]) ∧ LkAt w' (askL l h) (.slice a0 (askL l h).held.length c0) (.slice a1 (askL l h).waits.length c1) ∧ RowAt hdE w' (.slice r (askT l h).length c) (askT l h) ∧ Below w.heap.size w w' := by
  refine (specAskI_any l a b h w hv (by omega) (by omega)).mono ?_
  rintro e w' ⟨a', b', r, rfl, ho, hr, hb⟩
  obtain ⟨a0, c0, a1, c1, rfl, rfl⟩ := ho.shape
  obtain ⟨r0, rc, rfl, -⟩ := hr.1.at'.shape
  exact ⟨a0, c0, a1, c1, r0, rc, rfl, ho.at, hr.1.at', hb⟩

theorem freeI_law (l : Lk) (a b : Value) (s t : Int) (w : World) (hv : LkAt w l a b) (hn : l.held.length ≤ 100) (hm : l.waits.length ≤ 100) :
    Calls Try.prog 24 #[lkV l a b, .int .i64 s, .int .i64 t] w fun e w' => ∃ a0 c0 a1 c1 r c, e = .returned (.tuple #[lkV (freeL l s t) (.slice a0 (freeL l s t).held.length c0) (.slice a1 (freeL l s t).waits.length c1), .slice r (freeG l s t).length c]) ∧ LkAt w' (freeL l s t) (.slice a0 (freeL l s t).held.length c0) (.slice a1 (freeL l s t).waits.length c1) ∧ RowAt hdE w' (.slice r (freeG l s t).length c) (freeG l s t) ∧ Below w.heap.size w w' := by
  refine (implFree_any l a b s t w hv (by omega) (by omega)).mono ?_
  rintro e w' ⟨a', b', r, rfl, ho, hr, hb⟩
  obtain ⟨a0, c0, a1, c1, rfl, rfl⟩ := ho.shape
  obtain ⟨r0, rc, rfl, -⟩ := hr.1.at'.shape
  exact ⟨a0, c0, a1, c1, r0, rc, rfl, ho.at, hr.1.at', hb⟩

theorem freeS_law (l : Lk) (a b : Value) (s t : Int) (w : World) (hv : LkAt w l a b) (hn : l.held.length ≤ 100) (hm : l.waits.length ≤ 100) :
    Calls Try.prog 23 #[lkV l a b, .int .i64 s, .int .i64 t] w fun e w' => ∃ a0 c0 a1 c1 r c, e = .returned (.tuple #[lkV (freeL l s t) (.slice a0 (freeL l s t).held.length c0) (.slice a1 (freeL l s t).waits.length c1), .slice r (freeG l s t).length c]) ∧ LkAt w' (freeL l s t) (.slice a0 (freeL l s t).held.length c0) (.slice a1 (freeL l s t).waits.length c1) ∧ RowAt hdE w' (.slice r (freeG l s t).length c) (freeG l s t) ∧ Below w.heap.size w w' := by
  refine (specFreeI_any l a b s t w hv (by omega) (by omega)).mono ?_
  rintro e w' ⟨a', b', r, rfl, ho, hr, hb⟩
  obtain ⟨a0, c0, a1, c1, rfl, rfl⟩ := ho.shape
  obtain ⟨r0, rc, rfl, -⟩ := hr.1.at'.shape
  exact ⟨a0, c0, a1, c1, r0, rc, rfl, ho.at, hr.1.at', hb⟩

theorem firmI_law (l : Lk) (a b : Value) (s t : Int) (w : World) (hv : LkAt w l a b) (hn : l.held.length ≤ 100) (hm : l.waits.length ≤ 100) :
    Calls Try.prog 27 #[lkV l a b, .int .i64 s, .int .i64 t] w fun e w' => ∃ a0 c0 a1 c1, e = .returned (.tuple #[lkV (firmL l s t) (.slice a0 (firmL l s t).held.length c0) (.slice a1 (firmL l s t).waits.length c1), .bool (firmC l s t)]) ∧ LkAt w' (firmL l s t) (.slice a0 (firmL l s t).held.length c0) (.slice a1 (firmL l s t).waits.length c1) ∧ Below w.heap.size w w' := by
  refine (implFirm_any l a b s t w hv (by omega) (by omega)).mono ?_
  rintro e w' ⟨a', b', rfl, ho, hb⟩
  obtain ⟨a0, c0, a1, c1, rfl, rfl⟩ := ho.shape
  exact ⟨a0, c0, a1, c1, rfl, ho.at, hb⟩

theorem firmS_law (l : Lk) (a b : Value) (s t : Int) (w : World) (hv : LkAt w l a b) (hn : l.held.length ≤ 100) (hm : l.waits.length ≤ 100) :
    Calls Try.prog 26 #[lkV l a b, .int .i64 s, .int .i64 t] w fun e w' => ∃ a0 c0 a1 c1, e = .returned (.tuple #[lkV (firmL l s t) (.slice a0 (firmL l s t).held.length c0) (.slice a1 (firmL l s t).waits.length c1), .bool (firmC l s t)]) ∧ LkAt w' (firmL l s t) (.slice a0 (firmL l s t).held.length c0) (.slice a1 (firmL l s t).waits.length c1) ∧ Below w.heap.size w w' := by
  refine (specFirm_any l a b s t w hv (by omega) (by omega)).mono ?_
  rintro e w' ⟨a', b', rfl, ho, hb⟩
  obtain ⟨a0, c0, a1, c1, rfl, rfl⟩ := ho.shape
  exact ⟨a0, c0, a1, c1, rfl, ho.at, hb⟩

theorem lockOkI_law (l : Lk) (a b : Value) (w : World) (hv : LkAt w l a b) (hn : l.held.length ≤ 100) (hm : l.waits.length ≤ 100) :
    Calls Try.prog 21 #[lkV l a b] w fun e w' => e = .returned (.bool (lockOkB l)) ∧ Below w.heap.size w w' := by
  rw [← lockOk_eq]
  exact lockOkI_any l a b w hv (by omega) (by omega)

theorem lockOkS_law (l : Lk) (a b : Value) (w : World) (hv : LkAt w l a b) (hn : l.held.length ≤ 100) (hm : l.waits.length ≤ 100) :
    Calls Try.prog 17 #[lkV l a b] w fun e w' => e = .returned (.bool (lockOkB l)) ∧ Below w.heap.size w w' :=
  lockOk_any l a b w hv (by omega) (by omega)

end Go.Proofs.Ytoojnhodjkpecaa

namespace Go.Proofs.Ytoojnhodjkpecaa
open Go.RowKit

theorem BytesAt.keptE {w w' : World} {v : Value} {n : Nat} (h : BytesAt w v n) (hb : Below w.heap.size w w') : BytesAt w' v n := by
  obtain ⟨a, cap, hv, h1, h2, h3⟩ := h
  refine ⟨a, cap, hv, h1, h2, ?_⟩
  rcases h3 with h3 | ⟨b, off, ha, bs, hbs⟩
  · exact .inl h3
  · exact .inr ⟨b, off, ha, bs, fun i hi => ⟨cell_kept hb (hbs i hi).1, (hbs i hi).2⟩⟩

theorem grownBy_setOwnE {w w' : World} {row : Option Nat} (h : w.grownBy w' row) {g : Nat} (hg : w.heap.size ≤ g) (j : Nat) (u : Value) : w.grownBy (w'.setCell ⟨g, j, none⟩ u) row := by
  have hs : w'.grownBy (w'.setCell ⟨g, j, none⟩ u) (some g) := grownBy_set (grownBy_refl w' (some g)) j u
  exact ⟨hs.os.trans h.os, hs.tape.trans h.tape, hs.output.trans h.output, Nat.le_trans h.size hs.size, fun k hk hne => (hs.block k (Nat.lt_of_lt_of_le hk h.size) (fun e => by simp at e; omega)).trans (h.block k hk hne)⟩
theorem Rd.setE {w : World} {B p g : Nat} (h : Rd w B p) (hg : B < g) (j : Nat) (u : Value) : Rd (w.setCell ⟨g, j, none⟩ u) B p :=
  h.far (grownBy_set (grownBy_refl w (some g)) j u) (fun y hy e => by simp at e; omega)
theorem grown4h (w : World) (g : Nat) (u0 u1 u2 u3 : Value) : w.grownBy ((((w.setCell ⟨g, 0, none⟩ u0).setCell ⟨g, 1, none⟩ u1).setCell ⟨g, 2, none⟩ u2).setCell ⟨g, 3, none⟩ u3) (some g) := grownBy_set (grownBy_set (grownBy_set (grownBy_set (grownBy_refl w (some g)) 0 u0) 1 u1) 2 u2) 3 u3
theorem ALk.endL {w wf : World} {q G : Nat} {slot : Int} {H W : List Hd} {a b : Value} {ys yt : Int} {yh yf : Bool} (h : ALk w wf q G ⟨slot, H, W⟩ a b) (wz : World)
    (hz : wz = ((((((wf.setCell ⟨w.heap.size, 0, none⟩ (.int .i64 slot)).setCell ⟨w.heap.size, 1, none⟩ a).setCell ⟨w.heap.size, 2, none⟩ b).setCell ⟨w.heap.size + 1, 0, none⟩ (.int .i64 ys)).setCell ⟨w.heap.size + 1, 1, none⟩ (.int .i64 yt)).setCell ⟨w.heap.size + 1, 2, none⟩ (.bool yh)).setCell ⟨w.heap.size + 1, 3, none⟩ (.bool yf)) :
    wz.heap[w.heap.size]? = some (.cells #[.int .i64 slot, a, b] 25 (0, 0)) ∧ wz.heap[w.heap.size + 1]? = some (.cells #[.int .i64 ys, .int .i64 yt, .bool yh, .bool yf] 27 (0, 0)) ∧ LkAt wz ⟨slot, H, W⟩ a b ∧ Below w.heap.size w wz := by
  subst hz
  have g1 := grown3 wf w.heap.size (.int .i64 slot) a b
  have x1 : Bx (((wf.setCell ⟨w.heap.size, 0, none⟩ (.int .i64 slot)).setCell ⟨w.heap.size, 1, none⟩ a).setCell ⟨w.heap.size, 2, none⟩ b) w.heap.size 25 #[.int .i64 slot, a, b] := ⟨heap_setCell_same _ _ _ _ _ _ (heap_setCell_same _ _ _ _ _ _ (heap_setCell_same _ _ _ _ _ _ h.resL.row))⟩
  have x2 := h.resH.far g1 (fun e => by simp at e)
  have k1 : LkAt (((wf.setCell ⟨w.heap.size, 0, none⟩ (.int .i64 slot)).setCell ⟨w.heap.size, 1, none⟩ a).setCell ⟨w.heap.size, 2, none⟩ b) ⟨slot, H, W⟩ a b := ⟨h.lk.held.far g1 (.inr (fun e => by have := h.ga _ e; omega)), h.lk.waits.far g1 (.inr (fun e => by have := h.gb _ e; omega))⟩
  have b1 : Below w.heap.size w (((wf.setCell ⟨w.heap.size, 0, none⟩ (.int .i64 slot)).setCell ⟨w.heap.size, 1, none⟩ a).setCell ⟨w.heap.size, 2, none⟩ b) := ((h.bel.setCell (by simp) _).setCell (by simp) _).setCell (by simp) _
  generalize (((wf.setCell ⟨w.heap.size, 0, none⟩ (.int .i64 slot)).setCell ⟨w.heap.size, 1, none⟩ a).setCell ⟨w.heap.size, 2, none⟩ b) = wm at *
  have g2 : wm.grownBy ((((wm.setCell ⟨w.heap.size + 1, 0, none⟩ (.int .i64 ys)).setCell ⟨w.heap.size + 1, 1, none⟩ (.int .i64 yt)).setCell ⟨w.heap.size + 1, 2, none⟩ (.bool yh)).setCell ⟨w.heap.size + 1, 3, none⟩ (.bool yf)) (some (w.heap.size + 1)) := grownBy_set (grownBy_set (grownBy_set (grownBy_set (grownBy_refl wm _) _ _) _ _) _ _) _ _
  exact ⟨(x1.far g2 (fun e => by simp at e)).row, heap_setCell_same _ _ _ _ _ _ (heap_setCell_same _ _ _ _ _ _ (heap_setCell_same _ _ _ _ _ _ (heap_setCell_same _ _ _ _ _ _ x2.row))), ⟨k1.held.far g2 (.inr (fun e => by have := h.ga _ e; omega)), k1.waits.far g2 (.inr (fun e => by have := h.gb _ e; omega))⟩, (((b1.setCell (by simp) _).setCell (by simp) _).setCell (by simp) _).setCell (by simp) _⟩

set_option maxRecDepth 100000 in
set_option maxHeartbeats 1000000 in
theorem l72HoldT_any (B p : Nat) (w : World) (hr : Rd w B p) (hp : p ≤ 900000) :
    Calls Try.prog 39 #[.pointer (some ⟨B, 0, none⟩)] w fun e w' => ∃ x : Hd, e = .returned (hdV x) ∧ x.try_ ≤ 9999 ∧ Rd w' B (p + 3) ∧ w.grownBy w' (some B) := by
  have hBl := hr.lt
  have HRD := hide (hr.allocK (o := .cells #[.int .i64 0, .int .i64 0, .bool false, .bool false] 27))
  have HX := hide (Bx.made w 27 #[.int .i64 0, .int .i64 0, .bool false, .bool false])
  have HG := hide (World.grownBy_alloc w (.cells #[.int .i64 0, .int .i64 0, .bool false, .bool false] 27) (some B))
  have hneB : some w.heap.size ≠ some B := by intro e; simp at e; omega
  clear hr
  go_enter Try.func39, Try.ntmps39
  go_wp2_with fail
  refine (pick_any B p 7 _ (unhide HRD) (by omega) (by omega)).mono ?_; rintro e w1 ⟨k1, rfl, a1, b1, r1, g1, -⟩
  have b1' := b1 (by omega)
  have hw1 : IntKind.i64.wrap (1 + k1) = 1 + k1 := by rw [IntKind.wrap_i64]; omega
  have HR1 := hide r1
  have HX1 := hide ((unhide HX).far g1 hneB)
  have HG1 := hide (grownBy_trans (unhide HG) g1)
  clear r1 g1 b1 HRD HX HG
  go_wp2_with fail
  refine (pick_any B (p + 1) 3 _ (unhide HR1) (by omega) (by omega)).mono ?_; rintro e w2 ⟨k2, rfl, a2, b2, r2, g2, -⟩
  have b2' := b2 (by omega)
  have hw2 : IntKind.i64.wrap (1 + k2) = 1 + k2 := by rw [IntKind.wrap_i64]; omega
  have HR2 := hide r2
  have HX2 := hide ((unhide HX1).far g2 hneB)
  have HG2 := hide (grownBy_trans (unhide HG1) g2)
  clear r2 g2 b2 HR1 HX1 HG1
  go_wp2_with fail
  refine (pick_any B (p + 1 + 1) 3 _ (unhide HR2) (by omega) (by omega)).mono ?_; rintro e w3 ⟨k3, rfl, a3, b3, r3, g3, -⟩
  have HR3 := hide r3
  have HX3 := hide ((unhide HX2).far g3 hneB)
  have HG3 := hide (grownBy_trans (unhide HG2) g3)
  clear r3 g3 b3 HR2 HX2 HG2
  go_wp2_with (refine wpList_store_row rfl 27 _ _ rfl w.heap.size _ rfl rfl 27 _ (unhide HX3).row (by kernel_rfl) rfl (by simp [Value.oneCell']) ?_)
  refine bodyPost_ret (results_cell_row rfl _ _ w.heap.size _ _ _ _ rfl (setRow_heap _ _ _ _ _ _ (unhide HX3).row) Try.underlying27 rfl (by kernel_rfl)) rfl ?_
  exact ⟨⟨1 + k1, 1 + k2, _, false⟩, rfl, by simp only; omega, (unhide HR3).rowD hBl _, grownBy_rowD (unhide HG3) (Nat.le_refl _) _⟩

set_option maxRecDepth 100000 in
set_option maxHeartbeats 4000000 in
theorem drawLockAsk_any (v : Value) (n : Nat) (w : World) (hv : BytesAt w v n) :
    Calls Try.prog 15 #[v] w fun e w' => ∃ (l : Lk) (a b : Value) (x : Hd), e = .returned (.tuple #[lkV l a b, hdV x]) ∧ LkAt w' l a b ∧ l.held.length ≤ 100 ∧ l.waits.length ≤ 100 ∧ x.try_ ≤ 9999 ∧ Below w.heap.size w w' := by
  have HV := hide hv
  clear hv
  go_enter Try.func15, Try.ntmps15
  go_wp2_with fail
  have bA : Below w.heap.size w ((w.alloc (.cells #[.int .i64 0, .slice none 0 0, .slice none 0 0] 25)).alloc (.cells #[.int .i64 0, .int .i64 0, .bool false, .bool false] 27)) := ((Below.refl _ _).alloc (Nat.le_refl _) _).alloc (by simp) _
  refine (open_any v n _ (BytesAt.keptE (unhide HV) bA)).mono ?_; rintro e w1 ⟨rfl, r1, b1, z1⟩
  have hsz : ((w.alloc (.cells #[.int .i64 0, .slice none 0 0, .slice none 0 0] 25)).alloc (.cells #[.int .i64 0, .int .i64 0, .bool false, .bool false] 27)).heap.size = w.heap.size + 2 := by simp
  rw [hsz] at r1 z1
  rw [hsz]
  have HR1 := hide r1
  have HXL := hide (((Bx.made w 25 #[.int .i64 0, .slice none 0 0, .slice none 0 0]).allocK (o := .cells #[.int .i64 0, .int .i64 0, .bool false, .bool false] 27)).kept b1)
  have HXH := hide (Bx.kept (⟨heap_alloc2_new w (.cells #[.int .i64 0, .slice none 0 0, .slice none 0 0] 25) (.cells #[.int .i64 0, .int .i64 0, .bool false, .bool false] 27)⟩ : Bx ((w.alloc (.cells #[.int .i64 0, .slice none 0 0, .slice none 0 0] 25)).alloc (.cells #[.int .i64 0, .int .i64 0, .bool false, .bool false] 27)) (w.heap.size + 1) 27 #[.int .i64 0, .int .i64 0, .bool false, .bool false]) b1)
  have HB1 := hide (bA.trans (b1.mono bA.size))
  have HZ1 := hide z1
  clear r1 b1 bA hsz z1 HV
  go_wp2_with fail
  refine (l72Lock_any (w.heap.size + 2) 0 _ (unhide HR1) (by omega)).mono ?_; rintro e w2 ⟨l, a, b, q, rfl, hk2, hn2, hm2, r2, hq2, g2, ga2, gb2⟩
  obtain ⟨a0, c0, rfl, -⟩ := hk2.held.shape
  obtain ⟨a1, c1, rfl, -⟩ := hk2.waits.shape
  obtain ⟨slot, H, W⟩ := l
  have z1 := unhide HZ1
  have s2 := g2.size
  have HA2 : Hid (ALk w (w2.alloc (.cells #[.int .i64 slot, .slice a0 H.length c0, .slice a1 W.length c1] 25)) q w2.heap.size ⟨slot, H, W⟩ (.slice a0 H.length c0) (.slice a1 W.length c1)) :=
    ⟨((unhide HXL).far g2 (fun e => by simp at e)).allocK, ((unhide HXH).far g2 (fun e => by simp at e)).allocK, Bx.made _ _ _, hk2.kept ((Below.refl _ _).alloc (Nat.le_refl _) _), fun k e => by have := ga2 k e; omega, fun k e => by have := gb2 k e; omega, by omega, r2.allocK, (Below.grown (unhide HB1) g2 (unhide HB1).size (fun k e => by simp at e; omega)).alloc (by have := (unhide HB1).size; omega) _, hn2, hm2⟩
  simp only [lkV]
  clear hk2 r2 g2 ga2 gb2 z1 s2 HXL HXH HB1 HR1 HZ1
  go_wp2_with fail
  refine (l72HoldT_any (w.heap.size + 2) q _ (unhide HA2).rd (by omega)).mono ?_; rintro e w3 ⟨x, rfl, ht3, r3, g3⟩
  have HA3 := hide ((unhide HA2).pick g3 r3)
  obtain ⟨xs, xt, xh, xf⟩ := x
  have HT3 : Hid (xt ≤ 9999) := ht3
  clear ht3
  simp only [hdV]
  have l3 := (unhide HA3).box.lt
  have l3' := (unhide HA3).gl
  clear r3 g3 HA2
  go_wp2_with fail
  refine (pick_any (w.heap.size + 2) (q + 3) 12 _ ((unhide HA3).allocK (o := .cells #[.int .i64 xs, .int .i64 xt, .bool xh, .bool xf] 27)).rd (by omega) (by omega)).mono ?_; rintro e w4 ⟨k4, rfl, a4, b4, r4, g4, -⟩
  have HG4 := hide (grownBy_trans (World.grownBy_alloc w3 (.cells #[.int .i64 xs, .int .i64 xt, .bool xh, .bool xf] 27) (some (w.heap.size + 2))) g4)
  have HR4 := hide r4
  have HH4 := hide ((Bx.made w3 27 #[.int .i64 xs, .int .i64 xt, .bool xh, .bool xf]).far g4 (fun e => by simp at e; omega))
  have l4 := (unhide HH4).lt
  clear r4 g4 a4 b4
  cases t0 : (k4 == 0)
  · cases t1 : (k4 == 1)
    · cases t2 : (k4 == 2)
      ·
        have hgf := unhide HG4
        have hrf := unhide HR4
        have hhf := (unhide HH4).row
        have HA := hide ((unhide HA3).pick hgf hrf)
        have HH : Hid (Bx w4 w3.heap.size 27 #[.int .i64 xs, .int .i64 xt, .bool xh, .bool xf]) := ⟨hhf⟩
        clear hgf hrf hhf
        go_wp2_with fail
        refine wp_region_held_drew (S := fun w' => Bx w' w2.heap.size 25 #[.int .i64 slot, .slice a0 H.length c0, .slice a1 W.length c1] ∧ Bx w' w3.heap.size 27 #[.int .i64 xs, .int .i64 xt, .bool xh, .bool xf]) (by kernel_rfl) ⟨⟨(unhide HA).box.row⟩, ⟨(unhide HH).row⟩⟩ (fun hHeld => ?_)
        refine wpAnyH_take (i := 0) (v := .agg #[.int .i64 slot, .slice a0 H.length c0, .slice a1 W.length c1]) rfl (by kernel_rfl) (by kernel_rfl) (by kernel_rfl) (fun _ _ _ h => h) (Or.inl ⟨by rfl, ?ha⟩) (by assumption) ?_
        case ha => exact fun w0 hSw => load_yieldsB 25 (.tmp 5) rfl rfl hSw.1 Try.underlying25 (by kernel_rfl)
        try simp only [Act.put]
        refine wpAnyH_take (i := 1) (v := .agg #[.int .i64 xs, .int .i64 xt, .bool xh, .bool xf]) rfl (by kernel_rfl) (by kernel_rfl) (by kernel_rfl) (fun _ _ _ h => h) (Or.inl ⟨by rfl, ?hb⟩) (by assumption) ?_
        case hb => exact fun w0 hSw => load_yieldsB 27 (.tmp 6) rfl rfl hSw.2 Try.underlying27 (by kernel_rfl)
        try simp only [Act.put]
        obtain ⟨z0, z1, z2⟩ := (unhide HA).resL.three
        obtain ⟨z3, z4, z5⟩ := (unhide HA).resL.free3
        obtain ⟨y0, y1, y2, y3⟩ := (unhide HA).resH.four
        have f0 := (unhide HA).resH.free 0
        have f1 := (unhide HA).resH.free 1
        have f2 := (unhide HA).resH.free 2
        have f3 := (unhide HA).resH.free 3
        refine wpAnyH_ready (rs := [2]) (by kernel_rfl) (by simp) ?_
        refine AllReadyH.cons rfl (fun K hK => ?_) AllReadyH.nil
        go_simp
        try go_wp2_with fail
        clear hHeld
        refine hK.out _ _ ⟨((unhide HA).box.far (grown3 w4 w.heap.size (.int .i64 slot) (.slice a0 H.length c0) (.slice a1 W.length c1)) (fun e => by simp at e; omega)).drewK, ((unhide HH).far (grown3 w4 w.heap.size (.int .i64 slot) (.slice a0 H.length c0) (.slice a1 W.length c1)) (fun e => by simp at e; omega)).drewK⟩ (fun hHeld => ?_)
        clear hK K z0 z1 z2 z3 z4 z5 y0 y1 y2 y3 f0 f1 f2 f3
        have hxm := (unhide HA).resH.far (grown3 w4 w.heap.size (.int .i64 slot) (.slice a0 H.length c0) (.slice a1 W.length c1)) (fun e => by simp at e)
        obtain ⟨y0, y1, y2, y3⟩ := hxm.four
        have f0 := hxm.free 0
        have f1 := hxm.free 1
        have f2 := hxm.free 2
        have f3 := hxm.free 3
        clear hxm
        have HEND := hide (ALk.endL (ys := xs) (yt := xt) (yh := xh) (yf := xf) (unhide HA) _ rfl)
        refine wpAnyH_ready (rs := [3]) (by kernel_rfl) (by simp) ?_
        refine AllReadyH.cons rfl (fun K hK => ?_) AllReadyH.nil
        go_simp
        try go_wp2_with fail
        clear hHeld
        refine hK.out _ _ ?_ (fun hHeld => ?_)
        · exact ⟨(((unhide HA).box.far (grown3 w4 w.heap.size (.int .i64 slot) (.slice a0 H.length c0) (.slice a1 W.length c1)) (fun e => by simp at e; omega)).far (grown4h _ (w.heap.size + 1) _ _ _ _) (fun e => by simp at e; omega)).drewK, (((unhide HH).far (grown3 w4 w.heap.size (.int .i64 slot) (.slice a0 H.length c0) (.slice a1 W.length c1)) (fun e => by simp at e; omega)).far (grown4h _ (w.heap.size + 1) _ _ _ _) (fun e => by simp at e; omega)).drewK⟩
        clear hK K
        refine wpAnyH_done (by kernel_rfl) ?_ _
        go_wp2_with fail
        obtain ⟨e1, e2, e3, e4⟩ := unhide HEND
        refine bodyPost_ret (results_row_row rfl _ _ w.heap.size (w.heap.size + 1) _ _ _ _ rfl rfl (Bx.drewK (Bx.mk e1)).row (Bx.drewK (Bx.mk e2)).row Try.underlying25 (by kernel_rfl) Try.underlying27 (by kernel_rfl)) rfl ?_
        exact ⟨⟨slot, H, W⟩, _, _, ⟨xs, xt, xh, xf⟩, rfl, e3.kept ((Below.refl _ _).drew), hn2, hm2, by first | exact unhide HT3 | (simp only; omega), e4.drew⟩
      ·
        have hgf := unhide HG4
        have hrf := unhide HR4
        have hhf := (unhide HH4).row
        replace hgf := grownBy_setOwnE hgf (Nat.le_refl _) 1 (.int .i64 0)
        replace hrf := hrf.setE (g := w3.heap.size) (by omega) 1 (.int .i64 0)
        replace hhf := heap_setCell_same _ _ 1 _ _ (.int .i64 0) hhf
        have HA := hide ((unhide HA3).pick hgf hrf)
        have HH : Hid (Bx (w4.setCell ⟨w3.heap.size, 1, none⟩ (.int .i64 0)) w3.heap.size 27 #[.int .i64 xs, .int .i64 0, .bool xh, .bool xf]) := ⟨by simpa using hhf⟩
        clear hgf hrf hhf
        obtain ⟨p0, p1, p2, p3⟩ := (unhide HH4).four
        have p4 := (unhide HH4).free 0
        have p5 := (unhide HH4).free 1
        have p6 := (unhide HH4).free 2
        have p7 := (unhide HH4).free 3
        go_wp2_with fail
        clear p0 p1 p2 p3 p4 p5 p6 p7
        refine wp_region_held_drew (S := fun w' => Bx w' w2.heap.size 25 #[.int .i64 slot, .slice a0 H.length c0, .slice a1 W.length c1] ∧ Bx w' w3.heap.size 27 #[.int .i64 xs, .int .i64 0, .bool xh, .bool xf]) (by kernel_rfl) ⟨⟨(unhide HA).box.row⟩, ⟨(unhide HH).row⟩⟩ (fun hHeld => ?_)
        refine wpAnyH_take (i := 0) (v := .agg #[.int .i64 slot, .slice a0 H.length c0, .slice a1 W.length c1]) rfl (by kernel_rfl) (by kernel_rfl) (by kernel_rfl) (fun _ _ _ h => h) (Or.inl ⟨by rfl, ?ha⟩) (by assumption) ?_
        case ha => exact fun w0 hSw => load_yieldsB 25 (.tmp 5) rfl rfl hSw.1 Try.underlying25 (by kernel_rfl)
        try simp only [Act.put]
        refine wpAnyH_take (i := 1) (v := .agg #[.int .i64 xs, .int .i64 0, .bool xh, .bool xf]) rfl (by kernel_rfl) (by kernel_rfl) (by kernel_rfl) (fun _ _ _ h => h) (Or.inl ⟨by rfl, ?hb⟩) (by assumption) ?_
        case hb => exact fun w0 hSw => load_yieldsB 27 (.tmp 6) rfl rfl hSw.2 Try.underlying27 (by kernel_rfl)
        try simp only [Act.put]
        obtain ⟨z0, z1, z2⟩ := (unhide HA).resL.three
        obtain ⟨z3, z4, z5⟩ := (unhide HA).resL.free3
        obtain ⟨y0, y1, y2, y3⟩ := (unhide HA).resH.four
        have f0 := (unhide HA).resH.free 0
        have f1 := (unhide HA).resH.free 1
        have f2 := (unhide HA).resH.free 2
        have f3 := (unhide HA).resH.free 3
        refine wpAnyH_ready (rs := [2]) (by kernel_rfl) (by simp) ?_
        refine AllReadyH.cons rfl (fun K hK => ?_) AllReadyH.nil
        go_simp
        try go_wp2_with fail
        clear hHeld
        refine hK.out _ _ ⟨((unhide HA).box.far (grown3 (w4.setCell ⟨w3.heap.size, 1, none⟩ (.int .i64 0)) w.heap.size (.int .i64 slot) (.slice a0 H.length c0) (.slice a1 W.length c1)) (fun e => by simp at e; omega)).drewK, ((unhide HH).far (grown3 (w4.setCell ⟨w3.heap.size, 1, none⟩ (.int .i64 0)) w.heap.size (.int .i64 slot) (.slice a0 H.length c0) (.slice a1 W.length c1)) (fun e => by simp at e; omega)).drewK⟩ (fun hHeld => ?_)
        clear hK K z0 z1 z2 z3 z4 z5 y0 y1 y2 y3 f0 f1 f2 f3
        have hxm := (unhide HA).resH.far (grown3 (w4.setCell ⟨w3.heap.size, 1, none⟩ (.int .i64 0)) w.heap.size (.int .i64 slot) (.slice a0 H.length c0) (.slice a1 W.length c1)) (fun e => by simp at e)
        obtain ⟨y0, y1, y2, y3⟩ := hxm.four
        have f0 := hxm.free 0
        have f1 := hxm.free 1
        have f2 := hxm.free 2
        have f3 := hxm.free 3
        clear hxm
        have HEND := hide (ALk.endL (ys := xs) (yt := 0) (yh := xh) (yf := xf) (unhide HA) _ rfl)
        refine wpAnyH_ready (rs := [3]) (by kernel_rfl) (by simp) ?_
        refine AllReadyH.cons rfl (fun K hK => ?_) AllReadyH.nil
        go_simp
        try go_wp2_with fail
        clear hHeld
        refine hK.out _ _ ?_ (fun hHeld => ?_)
        · exact ⟨(((unhide HA).box.far (grown3 (w4.setCell ⟨w3.heap.size, 1, none⟩ (.int .i64 0)) w.heap.size (.int .i64 slot) (.slice a0 H.length c0) (.slice a1 W.length c1)) (fun e => by simp at e; omega)).far (grown4h _ (w.heap.size + 1) _ _ _ _) (fun e => by simp at e; omega)).drewK, (((unhide HH).far (grown3 (w4.setCell ⟨w3.heap.size, 1, none⟩ (.int .i64 0)) w.heap.size (.int .i64 slot) (.slice a0 H.length c0) (.slice a1 W.length c1)) (fun e => by simp at e; omega)).far (grown4h _ (w.heap.size + 1) _ _ _ _) (fun e => by simp at e; omega)).drewK⟩
        clear hK K
        refine wpAnyH_done (by kernel_rfl) ?_ _
        go_wp2_with fail
        obtain ⟨e1, e2, e3, e4⟩ := unhide HEND
        refine bodyPost_ret (results_row_row rfl _ _ w.heap.size (w.heap.size + 1) _ _ _ _ rfl rfl (Bx.drewK (Bx.mk e1)).row (Bx.drewK (Bx.mk e2)).row Try.underlying25 (by kernel_rfl) Try.underlying27 (by kernel_rfl)) rfl ?_
        exact ⟨⟨slot, H, W⟩, _, _, ⟨xs, 0, xh, xf⟩, rfl, e3.kept ((Below.refl _ _).drew), hn2, hm2, by first | exact unhide HT3 | (simp only; omega), e4.drew⟩
    ·
      go_wp2_with fail
      refine (pick_any (w.heap.size + 2) (q + 3 + 1) 3 _ ((unhide HR4).allocK (o := .cells #[.int .i64 0, .int .i64 9999, .int .i64 10000] 3)) (by omega) (by omega)).mono ?_; rintro e w8 ⟨k8, rfl, a8, b8, r8, g8, -⟩
      obtain ⟨Kx, rfl⟩ := Int.eq_ofNat_of_zero_le a8
      have b8' := b8 (by omega)
      have z8 := (Bx.made w4 3 #[.int .i64 0, .int .i64 9999, .int .i64 10000]).far g8 (fun e => by simp at e; omega)
      have z80 : w8.cell? ⟨w4.heap.size, 0, none⟩ = some (.int .i64 0) := z8.cell 0
      have z81 : w8.cell? ⟨w4.heap.size, 1, none⟩ = some (.int .i64 9999) := z8.cell 1
      have z82 : w8.cell? ⟨w4.heap.size, 2, none⟩ = some (.int .i64 10000) := z8.cell 2
      have HG8 := hide (grownBy_trans (grownBy_trans (unhide HG4) (World.grownBy_alloc w4 (.cells #[.int .i64 0, .int .i64 9999, .int .i64 10000] 3) (some (w.heap.size + 2)))) g8)
      have HR8 := hide r8
      have HH8 := hide (((unhide HH4).allocK (o := .cells #[.int .i64 0, .int .i64 9999, .int .i64 10000] 3)).far g8 (fun e => by simp at e; omega))
      clear r8 g8 z8 b8 a8 HG4 HR4 HH4
      have hKx : Kx = 0 ∨ Kx = 1 ∨ Kx = 2 := by omega
      clear b8'
      rcases hKx with rfl | rfl | rfl
      ·
        have hgf := unhide HG8
        have hrf := unhide HR8
        have hhf := (unhide HH8).row
        replace hgf := grownBy_setOwnE hgf (Nat.le_refl _) 0 (.int .i64 0)
        replace hrf := hrf.setE (g := w3.heap.size) (by omega) 0 (.int .i64 0)
        replace hhf := heap_setCell_same _ _ 0 _ _ (.int .i64 0) hhf
        have HA := hide ((unhide HA3).pick hgf hrf)
        have HH : Hid (Bx (w8.setCell ⟨w3.heap.size, 0, none⟩ (.int .i64 0)) w3.heap.size 27 #[.int .i64 0, .int .i64 xt, .bool xh, .bool xf]) := ⟨by simpa using hhf⟩
        clear hgf hrf hhf
        obtain ⟨p0, p1, p2, p3⟩ := (unhide HH8).four
        have p4 := (unhide HH8).free 0
        have p5 := (unhide HH8).free 1
        have p6 := (unhide HH8).free 2
        have p7 := (unhide HH8).free 3
        go_wp2_with fail
        clear p0 p1 p2 p3 p4 p5 p6 p7
        refine wp_region_held_drew (S := fun w' => Bx w' w2.heap.size 25 #[.int .i64 slot, .slice a0 H.length c0, .slice a1 W.length c1] ∧ Bx w' w3.heap.size 27 #[.int .i64 0, .int .i64 xt, .bool xh, .bool xf]) (by kernel_rfl) ⟨⟨(unhide HA).box.row⟩, ⟨(unhide HH).row⟩⟩ (fun hHeld => ?_)
        refine wpAnyH_take (i := 0) (v := .agg #[.int .i64 slot, .slice a0 H.length c0, .slice a1 W.length c1]) rfl (by kernel_rfl) (by kernel_rfl) (by kernel_rfl) (fun _ _ _ h => h) (Or.inl ⟨by rfl, ?ha⟩) (by assumption) ?_
        case ha => exact fun w0 hSw => load_yieldsB 25 (.tmp 5) rfl rfl hSw.1 Try.underlying25 (by kernel_rfl)
        try simp only [Act.put]
        refine wpAnyH_take (i := 1) (v := .agg #[.int .i64 0, .int .i64 xt, .bool xh, .bool xf]) rfl (by kernel_rfl) (by kernel_rfl) (by kernel_rfl) (fun _ _ _ h => h) (Or.inl ⟨by rfl, ?hb⟩) (by assumption) ?_
        case hb => exact fun w0 hSw => load_yieldsB 27 (.tmp 6) rfl rfl hSw.2 Try.underlying27 (by kernel_rfl)
        try simp only [Act.put]
        obtain ⟨z0, z1, z2⟩ := (unhide HA).resL.three
        obtain ⟨z3, z4, z5⟩ := (unhide HA).resL.free3
        obtain ⟨y0, y1, y2, y3⟩ := (unhide HA).resH.four
        have f0 := (unhide HA).resH.free 0
        have f1 := (unhide HA).resH.free 1
        have f2 := (unhide HA).resH.free 2
        have f3 := (unhide HA).resH.free 3
        refine wpAnyH_ready (rs := [2]) (by kernel_rfl) (by simp) ?_
        refine AllReadyH.cons rfl (fun K hK => ?_) AllReadyH.nil
        go_simp
        try go_wp2_with fail
        clear hHeld
        refine hK.out _ _ ⟨((unhide HA).box.far (grown3 (w8.setCell ⟨w3.heap.size, 0, none⟩ (.int .i64 0)) w.heap.size (.int .i64 slot) (.slice a0 H.length c0) (.slice a1 W.length c1)) (fun e => by simp at e; omega)).drewK, ((unhide HH).far (grown3 (w8.setCell ⟨w3.heap.size, 0, none⟩ (.int .i64 0)) w.heap.size (.int .i64 slot) (.slice a0 H.length c0) (.slice a1 W.length c1)) (fun e => by simp at e; omega)).drewK⟩ (fun hHeld => ?_)
        clear hK K z0 z1 z2 z3 z4 z5 y0 y1 y2 y3 f0 f1 f2 f3
        have hxm := (unhide HA).resH.far (grown3 (w8.setCell ⟨w3.heap.size, 0, none⟩ (.int .i64 0)) w.heap.size (.int .i64 slot) (.slice a0 H.length c0) (.slice a1 W.length c1)) (fun e => by simp at e)
        obtain ⟨y0, y1, y2, y3⟩ := hxm.four
        have f0 := hxm.free 0
        have f1 := hxm.free 1
        have f2 := hxm.free 2
        have f3 := hxm.free 3
        clear hxm
        have HEND := hide (ALk.endL (ys := 0) (yt := xt) (yh := xh) (yf := xf) (unhide HA) _ rfl)
        refine wpAnyH_ready (rs := [3]) (by kernel_rfl) (by simp) ?_
        refine AllReadyH.cons rfl (fun K hK => ?_) AllReadyH.nil
        go_simp
        try go_wp2_with fail
        clear hHeld
        refine hK.out _ _ ?_ (fun hHeld => ?_)
        · exact ⟨(((unhide HA).box.far (grown3 (w8.setCell ⟨w3.heap.size, 0, none⟩ (.int .i64 0)) w.heap.size (.int .i64 slot) (.slice a0 H.length c0) (.slice a1 W.length c1)) (fun e => by simp at e; omega)).far (grown4h _ (w.heap.size + 1) _ _ _ _) (fun e => by simp at e; omega)).drewK, (((unhide HH).far (grown3 (w8.setCell ⟨w3.heap.size, 0, none⟩ (.int .i64 0)) w.heap.size (.int .i64 slot) (.slice a0 H.length c0) (.slice a1 W.length c1)) (fun e => by simp at e; omega)).far (grown4h _ (w.heap.size + 1) _ _ _ _) (fun e => by simp at e; omega)).drewK⟩
        clear hK K
        refine wpAnyH_done (by kernel_rfl) ?_ _
        go_wp2_with fail
        obtain ⟨e1, e2, e3, e4⟩ := unhide HEND
        refine bodyPost_ret (results_row_row rfl _ _ w.heap.size (w.heap.size + 1) _ _ _ _ rfl rfl (Bx.drewK (Bx.mk e1)).row (Bx.drewK (Bx.mk e2)).row Try.underlying25 (by kernel_rfl) Try.underlying27 (by kernel_rfl)) rfl ?_
        exact ⟨⟨slot, H, W⟩, _, _, ⟨0, xt, xh, xf⟩, rfl, e3.kept ((Below.refl _ _).drew), hn2, hm2, by first | exact unhide HT3 | (simp only; omega), e4.drew⟩
      ·
        have hgf := unhide HG8
        have hrf := unhide HR8
        have hhf := (unhide HH8).row
        replace hgf := grownBy_setOwnE hgf (Nat.le_refl _) 0 (.int .i64 9999)
        replace hrf := hrf.setE (g := w3.heap.size) (by omega) 0 (.int .i64 9999)
        replace hhf := heap_setCell_same _ _ 0 _ _ (.int .i64 9999) hhf
        have HA := hide ((unhide HA3).pick hgf hrf)
        have HH : Hid (Bx (w8.setCell ⟨w3.heap.size, 0, none⟩ (.int .i64 9999)) w3.heap.size 27 #[.int .i64 9999, .int .i64 xt, .bool xh, .bool xf]) := ⟨by simpa using hhf⟩
        clear hgf hrf hhf
        obtain ⟨p0, p1, p2, p3⟩ := (unhide HH8).four
        have p4 := (unhide HH8).free 0
        have p5 := (unhide HH8).free 1
        have p6 := (unhide HH8).free 2
        have p7 := (unhide HH8).free 3
        go_wp2_with fail
        clear p0 p1 p2 p3 p4 p5 p6 p7
        refine wp_region_held_drew (S := fun w' => Bx w' w2.heap.size 25 #[.int .i64 slot, .slice a0 H.length c0, .slice a1 W.length c1] ∧ Bx w' w3.heap.size 27 #[.int .i64 9999, .int .i64 xt, .bool xh, .bool xf]) (by kernel_rfl) ⟨⟨(unhide HA).box.row⟩, ⟨(unhide HH).row⟩⟩ (fun hHeld => ?_)
        refine wpAnyH_take (i := 0) (v := .agg #[.int .i64 slot, .slice a0 H.length c0, .slice a1 W.length c1]) rfl (by kernel_rfl) (by kernel_rfl) (by kernel_rfl) (fun _ _ _ h => h) (Or.inl ⟨by rfl, ?ha⟩) (by assumption) ?_
        case ha => exact fun w0 hSw => load_yieldsB 25 (.tmp 5) rfl rfl hSw.1 Try.underlying25 (by kernel_rfl)
        try simp only [Act.put]
        refine wpAnyH_take (i := 1) (v := .agg #[.int .i64 9999, .int .i64 xt, .bool xh, .bool xf]) rfl (by kernel_rfl) (by kernel_rfl) (by kernel_rfl) (fun _ _ _ h => h) (Or.inl ⟨by rfl, ?hb⟩) (by assumption) ?_
        case hb => exact fun w0 hSw => load_yieldsB 27 (.tmp 6) rfl rfl hSw.2 Try.underlying27 (by kernel_rfl)
        try simp only [Act.put]
        obtain ⟨z0, z1, z2⟩ := (unhide HA).resL.three
        obtain ⟨z3, z4, z5⟩ := (unhide HA).resL.free3
        obtain ⟨y0, y1, y2, y3⟩ := (unhide HA).resH.four
        have f0 := (unhide HA).resH.free 0
        have f1 := (unhide HA).resH.free 1
        have f2 := (unhide HA).resH.free 2
        have f3 := (unhide HA).resH.free 3
        refine wpAnyH_ready (rs := [2]) (by kernel_rfl) (by simp) ?_
        refine AllReadyH.cons rfl (fun K hK => ?_) AllReadyH.nil
        go_simp
        try go_wp2_with fail
        clear hHeld
        refine hK.out _ _ ⟨((unhide HA).box.far (grown3 (w8.setCell ⟨w3.heap.size, 0, none⟩ (.int .i64 9999)) w.heap.size (.int .i64 slot) (.slice a0 H.length c0) (.slice a1 W.length c1)) (fun e => by simp at e; omega)).drewK, ((unhide HH).far (grown3 (w8.setCell ⟨w3.heap.size, 0, none⟩ (.int .i64 9999)) w.heap.size (.int .i64 slot) (.slice a0 H.length c0) (.slice a1 W.length c1)) (fun e => by simp at e; omega)).drewK⟩ (fun hHeld => ?_)
        clear hK K z0 z1 z2 z3 z4 z5 y0 y1 y2 y3 f0 f1 f2 f3
        have hxm := (unhide HA).resH.far (grown3 (w8.setCell ⟨w3.heap.size, 0, none⟩ (.int .i64 9999)) w.heap.size (.int .i64 slot) (.slice a0 H.length c0) (.slice a1 W.length c1)) (fun e => by simp at e)
        obtain ⟨y0, y1, y2, y3⟩ := hxm.four
        have f0 := hxm.free 0
        have f1 := hxm.free 1
        have f2 := hxm.free 2
        have f3 := hxm.free 3
        clear hxm
        have HEND := hide (ALk.endL (ys := 9999) (yt := xt) (yh := xh) (yf := xf) (unhide HA) _ rfl)
        refine wpAnyH_ready (rs := [3]) (by kernel_rfl) (by simp) ?_
        refine AllReadyH.cons rfl (fun K hK => ?_) AllReadyH.nil
        go_simp
        try go_wp2_with fail
        clear hHeld
        refine hK.out _ _ ?_ (fun hHeld => ?_)
        · exact ⟨(((unhide HA).box.far (grown3 (w8.setCell ⟨w3.heap.size, 0, none⟩ (.int .i64 9999)) w.heap.size (.int .i64 slot) (.slice a0 H.length c0) (.slice a1 W.length c1)) (fun e => by simp at e; omega)).far (grown4h _ (w.heap.size + 1) _ _ _ _) (fun e => by simp at e; omega)).drewK, (((unhide HH).far (grown3 (w8.setCell ⟨w3.heap.size, 0, none⟩ (.int .i64 9999)) w.heap.size (.int .i64 slot) (.slice a0 H.length c0) (.slice a1 W.length c1)) (fun e => by simp at e; omega)).far (grown4h _ (w.heap.size + 1) _ _ _ _) (fun e => by simp at e; omega)).drewK⟩
        clear hK K
        refine wpAnyH_done (by kernel_rfl) ?_ _
        go_wp2_with fail
        obtain ⟨e1, e2, e3, e4⟩ := unhide HEND
        refine bodyPost_ret (results_row_row rfl _ _ w.heap.size (w.heap.size + 1) _ _ _ _ rfl rfl (Bx.drewK (Bx.mk e1)).row (Bx.drewK (Bx.mk e2)).row Try.underlying25 (by kernel_rfl) Try.underlying27 (by kernel_rfl)) rfl ?_
        exact ⟨⟨slot, H, W⟩, _, _, ⟨9999, xt, xh, xf⟩, rfl, e3.kept ((Below.refl _ _).drew), hn2, hm2, by first | exact unhide HT3 | (simp only; omega), e4.drew⟩
      ·
        have hgf := unhide HG8
        have hrf := unhide HR8
        have hhf := (unhide HH8).row
        replace hgf := grownBy_setOwnE hgf (Nat.le_refl _) 0 (.int .i64 10000)
        replace hrf := hrf.setE (g := w3.heap.size) (by omega) 0 (.int .i64 10000)
        replace hhf := heap_setCell_same _ _ 0 _ _ (.int .i64 10000) hhf
        have HA := hide ((unhide HA3).pick hgf hrf)
        have HH : Hid (Bx (w8.setCell ⟨w3.heap.size, 0, none⟩ (.int .i64 10000)) w3.heap.size 27 #[.int .i64 10000, .int .i64 xt, .bool xh, .bool xf]) := ⟨by simpa using hhf⟩
        clear hgf hrf hhf
        obtain ⟨p0, p1, p2, p3⟩ := (unhide HH8).four
        have p4 := (unhide HH8).free 0
        have p5 := (unhide HH8).free 1
        have p6 := (unhide HH8).free 2
        have p7 := (unhide HH8).free 3
        go_wp2_with fail
        clear p0 p1 p2 p3 p4 p5 p6 p7
        refine wp_region_held_drew (S := fun w' => Bx w' w2.heap.size 25 #[.int .i64 slot, .slice a0 H.length c0, .slice a1 W.length c1] ∧ Bx w' w3.heap.size 27 #[.int .i64 10000, .int .i64 xt, .bool xh, .bool xf]) (by kernel_rfl) ⟨⟨(unhide HA).box.row⟩, ⟨(unhide HH).row⟩⟩ (fun hHeld => ?_)
        refine wpAnyH_take (i := 0) (v := .agg #[.int .i64 slot, .slice a0 H.length c0, .slice a1 W.length c1]) rfl (by kernel_rfl) (by kernel_rfl) (by kernel_rfl) (fun _ _ _ h => h) (Or.inl ⟨by rfl, ?ha⟩) (by assumption) ?_
        case ha => exact fun w0 hSw => load_yieldsB 25 (.tmp 5) rfl rfl hSw.1 Try.underlying25 (by kernel_rfl)
        try simp only [Act.put]
        refine wpAnyH_take (i := 1) (v := .agg #[.int .i64 10000, .int .i64 xt, .bool xh, .bool xf]) rfl (by kernel_rfl) (by kernel_rfl) (by kernel_rfl) (fun _ _ _ h => h) (Or.inl ⟨by rfl, ?hb⟩) (by assumption) ?_
        case hb => exact fun w0 hSw => load_yieldsB 27 (.tmp 6) rfl rfl hSw.2 Try.underlying27 (by kernel_rfl)
        try simp only [Act.put]
        obtain ⟨z0, z1, z2⟩ := (unhide HA).resL.three
        obtain ⟨z3, z4, z5⟩ := (unhide HA).resL.free3
        obtain ⟨y0, y1, y2, y3⟩ := (unhide HA).resH.four
        have f0 := (unhide HA).resH.free 0
        have f1 := (unhide HA).resH.free 1
        have f2 := (unhide HA).resH.free 2
        have f3 := (unhide HA).resH.free 3
        refine wpAnyH_ready (rs := [2]) (by kernel_rfl) (by simp) ?_
        refine AllReadyH.cons rfl (fun K hK => ?_) AllReadyH.nil
        go_simp
        try go_wp2_with fail
        clear hHeld
        refine hK.out _ _ ⟨((unhide HA).box.far (grown3 (w8.setCell ⟨w3.heap.size, 0, none⟩ (.int .i64 10000)) w.heap.size (.int .i64 slot) (.slice a0 H.length c0) (.slice a1 W.length c1)) (fun e => by simp at e; omega)).drewK, ((unhide HH).far (grown3 (w8.setCell ⟨w3.heap.size, 0, none⟩ (.int .i64 10000)) w.heap.size (.int .i64 slot) (.slice a0 H.length c0) (.slice a1 W.length c1)) (fun e => by simp at e; omega)).drewK⟩ (fun hHeld => ?_)
        clear hK K z0 z1 z2 z3 z4 z5 y0 y1 y2 y3 f0 f1 f2 f3
        have hxm := (unhide HA).resH.far (grown3 (w8.setCell ⟨w3.heap.size, 0, none⟩ (.int .i64 10000)) w.heap.size (.int .i64 slot) (.slice a0 H.length c0) (.slice a1 W.length c1)) (fun e => by simp at e)
        obtain ⟨y0, y1, y2, y3⟩ := hxm.four
        have f0 := hxm.free 0
        have f1 := hxm.free 1
        have f2 := hxm.free 2
        have f3 := hxm.free 3
        clear hxm
        have HEND := hide (ALk.endL (ys := 10000) (yt := xt) (yh := xh) (yf := xf) (unhide HA) _ rfl)
        refine wpAnyH_ready (rs := [3]) (by kernel_rfl) (by simp) ?_
        refine AllReadyH.cons rfl (fun K hK => ?_) AllReadyH.nil
        go_simp
        try go_wp2_with fail
        clear hHeld
        refine hK.out _ _ ?_ (fun hHeld => ?_)
        · exact ⟨(((unhide HA).box.far (grown3 (w8.setCell ⟨w3.heap.size, 0, none⟩ (.int .i64 10000)) w.heap.size (.int .i64 slot) (.slice a0 H.length c0) (.slice a1 W.length c1)) (fun e => by simp at e; omega)).far (grown4h _ (w.heap.size + 1) _ _ _ _) (fun e => by simp at e; omega)).drewK, (((unhide HH).far (grown3 (w8.setCell ⟨w3.heap.size, 0, none⟩ (.int .i64 10000)) w.heap.size (.int .i64 slot) (.slice a0 H.length c0) (.slice a1 W.length c1)) (fun e => by simp at e; omega)).far (grown4h _ (w.heap.size + 1) _ _ _ _) (fun e => by simp at e; omega)).drewK⟩
        clear hK K
        refine wpAnyH_done (by kernel_rfl) ?_ _
        go_wp2_with fail
        obtain ⟨e1, e2, e3, e4⟩ := unhide HEND
        refine bodyPost_ret (results_row_row rfl _ _ w.heap.size (w.heap.size + 1) _ _ _ _ rfl rfl (Bx.drewK (Bx.mk e1)).row (Bx.drewK (Bx.mk e2)).row Try.underlying25 (by kernel_rfl) Try.underlying27 (by kernel_rfl)) rfl ?_
        exact ⟨⟨slot, H, W⟩, _, _, ⟨10000, xt, xh, xf⟩, rfl, e3.kept ((Below.refl _ _).drew), hn2, hm2, by first | exact unhide HT3 | (simp only; omega), e4.drew⟩
  ·
    have hgf := unhide HG4
    have hrf := unhide HR4
    have hhf := (unhide HH4).row
    replace hgf := grownBy_setOwnE hgf (Nat.le_refl _) 3 (.bool true)
    replace hrf := hrf.setE (g := w3.heap.size) (by omega) 3 (.bool true)
    replace hhf := heap_setCell_same _ _ 3 _ _ (.bool true) hhf
    have HA := hide ((unhide HA3).pick hgf hrf)
    have HH : Hid (Bx (w4.setCell ⟨w3.heap.size, 3, none⟩ (.bool true)) w3.heap.size 27 #[.int .i64 xs, .int .i64 xt, .bool xh, .bool true]) := ⟨by simpa using hhf⟩
    clear hgf hrf hhf
    obtain ⟨p0, p1, p2, p3⟩ := (unhide HH4).four
    have p4 := (unhide HH4).free 0
    have p5 := (unhide HH4).free 1
    have p6 := (unhide HH4).free 2
    have p7 := (unhide HH4).free 3
    go_wp2_with fail
    clear p0 p1 p2 p3 p4 p5 p6 p7
    refine wp_region_held_drew (S := fun w' => Bx w' w2.heap.size 25 #[.int .i64 slot, .slice a0 H.length c0, .slice a1 W.length c1] ∧ Bx w' w3.heap.size 27 #[.int .i64 xs, .int .i64 xt, .bool xh, .bool true]) (by kernel_rfl) ⟨⟨(unhide HA).box.row⟩, ⟨(unhide HH).row⟩⟩ (fun hHeld => ?_)
    refine wpAnyH_take (i := 0) (v := .agg #[.int .i64 slot, .slice a0 H.length c0, .slice a1 W.length c1]) rfl (by kernel_rfl) (by kernel_rfl) (by kernel_rfl) (fun _ _ _ h => h) (Or.inl ⟨by rfl, ?ha⟩) (by assumption) ?_
    case ha => exact fun w0 hSw => load_yieldsB 25 (.tmp 5) rfl rfl hSw.1 Try.underlying25 (by kernel_rfl)
    try simp only [Act.put]
    refine wpAnyH_take (i := 1) (v := .agg #[.int .i64 xs, .int .i64 xt, .bool xh, .bool true]) rfl (by kernel_rfl) (by kernel_rfl) (by kernel_rfl) (fun _ _ _ h => h) (Or.inl ⟨by rfl, ?hb⟩) (by assumption) ?_
    case hb => exact fun w0 hSw => load_yieldsB 27 (.tmp 6) rfl rfl hSw.2 Try.underlying27 (by kernel_rfl)
    try simp only [Act.put]
    obtain ⟨z0, z1, z2⟩ := (unhide HA).resL.three
    obtain ⟨z3, z4, z5⟩ := (unhide HA).resL.free3
    obtain ⟨y0, y1, y2, y3⟩ := (unhide HA).resH.four
    have f0 := (unhide HA).resH.free 0
    have f1 := (unhide HA).resH.free 1
    have f2 := (unhide HA).resH.free 2
    have f3 := (unhide HA).resH.free 3
    refine wpAnyH_ready (rs := [2]) (by kernel_rfl) (by simp) ?_
    refine AllReadyH.cons rfl (fun K hK => ?_) AllReadyH.nil
    go_simp
    try go_wp2_with fail
    clear hHeld
    refine hK.out _ _ ⟨((unhide HA).box.far (grown3 (w4.setCell ⟨w3.heap.size, 3, none⟩ (.bool true)) w.heap.size (.int .i64 slot) (.slice a0 H.length c0) (.slice a1 W.length c1)) (fun e => by simp at e; omega)).drewK, ((unhide HH).far (grown3 (w4.setCell ⟨w3.heap.size, 3, none⟩ (.bool true)) w.heap.size (.int .i64 slot) (.slice a0 H.length c0) (.slice a1 W.length c1)) (fun e => by simp at e; omega)).drewK⟩ (fun hHeld => ?_)
    clear hK K z0 z1 z2 z3 z4 z5 y0 y1 y2 y3 f0 f1 f2 f3
    have hxm := (unhide HA).resH.far (grown3 (w4.setCell ⟨w3.heap.size, 3, none⟩ (.bool true)) w.heap.size (.int .i64 slot) (.slice a0 H.length c0) (.slice a1 W.length c1)) (fun e => by simp at e)
    obtain ⟨y0, y1, y2, y3⟩ := hxm.four
    have f0 := hxm.free 0
    have f1 := hxm.free 1
    have f2 := hxm.free 2
    have f3 := hxm.free 3
    clear hxm
    have HEND := hide (ALk.endL (ys := xs) (yt := xt) (yh := xh) (yf := true) (unhide HA) _ rfl)
    refine wpAnyH_ready (rs := [3]) (by kernel_rfl) (by simp) ?_
    refine AllReadyH.cons rfl (fun K hK => ?_) AllReadyH.nil
    go_simp
    try go_wp2_with fail
    clear hHeld
    refine hK.out _ _ ?_ (fun hHeld => ?_)
    · exact ⟨(((unhide HA).box.far (grown3 (w4.setCell ⟨w3.heap.size, 3, none⟩ (.bool true)) w.heap.size (.int .i64 slot) (.slice a0 H.length c0) (.slice a1 W.length c1)) (fun e => by simp at e; omega)).far (grown4h _ (w.heap.size + 1) _ _ _ _) (fun e => by simp at e; omega)).drewK, (((unhide HH).far (grown3 (w4.setCell ⟨w3.heap.size, 3, none⟩ (.bool true)) w.heap.size (.int .i64 slot) (.slice a0 H.length c0) (.slice a1 W.length c1)) (fun e => by simp at e; omega)).far (grown4h _ (w.heap.size + 1) _ _ _ _) (fun e => by simp at e; omega)).drewK⟩
    clear hK K
    refine wpAnyH_done (by kernel_rfl) ?_ _
    go_wp2_with fail
    obtain ⟨e1, e2, e3, e4⟩ := unhide HEND
    refine bodyPost_ret (results_row_row rfl _ _ w.heap.size (w.heap.size + 1) _ _ _ _ rfl rfl (Bx.drewK (Bx.mk e1)).row (Bx.drewK (Bx.mk e2)).row Try.underlying25 (by kernel_rfl) Try.underlying27 (by kernel_rfl)) rfl ?_
    exact ⟨⟨slot, H, W⟩, _, _, ⟨xs, xt, xh, true⟩, rfl, e3.kept ((Below.refl _ _).drew), hn2, hm2, by first | exact unhide HT3 | (simp only; omega), e4.drew⟩

end Go.Proofs.Ytoojnhodjkpecaa

namespace Go.Proofs.Ytoojnhodjkpecaa
open Go.RowKit

theorem RowAt.setFresh {α : Type} {enc : α → List Value} {w w0 : World} {v : Value} {xs : List α} {g : Nat} (h : RowAt enc w v xs) (h0 : RowAt enc w0 v xs) (hg : w0.heap.size ≤ g) (j : Nat) (u : Value) : RowAt enc (w.setCell ⟨g, j, none⟩ u) v xs := by
  obtain ⟨a, cap, rfl, h1, h2, h3⟩ := h
  refine ⟨a, cap, rfl, h1, h2, ?_⟩
  rcases h3 with h3 | ⟨b, off, rfl, hc⟩
  · exact .inl h3
  · refine .inr ⟨b, off, rfl, fun j' u' hu => ?_⟩
    obtain ⟨a', cap', he, _, _, h3'⟩ := h0
    rcases h3' with rfl | ⟨b', off', ha', hc'⟩
    · simp at hu
    · simp at he
      rw [ha'] at he
      simp at he
      obtain ⟨⟨rfl, rfl⟩, rfl⟩ := he
      have hlt := lt_of_cell (hc' j' u' hu)
      exact cell_far (grownBy_set (grownBy_refl w (some g)) j u) (fun e => by simp at e; simp only at hlt; omega) (hc j' u' hu)

structure BLk (w wr : World) (q G : Nat) (l : Lk) (a b : Value) : Prop where
  resL : Bx wr w.heap.size 25 #[.int .i64 0, .slice none 0 0, .slice none 0 0]
  box : Bx wr G 25 #[.int .i64 l.slot, a, b]
  lk : LkAt wr l a b
  ga : ∀ k, a.ownBlock = some k → w.heap.size + 1 < k
  gb : ∀ k, b.ownBlock = some k → w.heap.size + 1 < k
  gl : w.heap.size + 1 < G
  rd : Rd wr (w.heap.size + 1) q
  bel : Below w.heap.size w wr
  hn : l.held.length ≤ 100
  hm : l.waits.length ≤ 100

section
variable {w wr w' : World} {q q' G : Nat} {l : Lk} {a b : Value}
theorem BLk.kept (h : BLk w wr q G l a b) (hb : Below wr.heap.size wr w') : BLk w w' q G l a b :=
  ⟨h.resL.kept hb, h.box.kept hb, h.lk.kept hb, h.ga, h.gb, h.gl, h.rd.kept hb, h.bel.trans (hb.mono h.bel.size), h.hn, h.hm⟩
theorem BLk.allocK {o : Obj} (h : BLk w wr q G l a b) : BLk w (wr.alloc o) q G l a b := h.kept ((Below.refl _ _).alloc (Nat.le_refl _) o)
theorem BLk.drewK (h : BLk w wr q G l a b) : BLk w wr.drew q G l a b := h.kept ((Below.refl _ _).drew)
theorem BLk.pick (h : BLk w wr q G l a b) (hg : wr.grownBy w' (some (w.heap.size + 1))) (hr : Rd w' (w.heap.size + 1) q') : BLk w w' q' G l a b :=
  ⟨h.resL.far hg (fun e => by simp at e), h.box.far hg (fun e => by have := h.gl; simp at e; omega),
   ⟨h.lk.held.far hg (.inr (fun e => by have := h.ga _ e; omega)), h.lk.waits.far hg (.inr (fun e => by have := h.gb _ e; omega))⟩, h.ga, h.gb, h.gl, hr, Below.grown h.bel hg h.bel.size (fun k e => by simp at e; omega), h.hn, h.hm⟩
theorem BLk.pickAny (h : BLk w wr q G l a b) (hq : q ≤ 900000) (m : Int) (hm : 1 ≤ m) (hm' : m ≤ 1000000) :
    Calls Try.prog 40 #[.pointer (some ⟨w.heap.size + 1, 0, none⟩), .int .i64 m] wr fun e w' => ∃ k : Nat, e = .returned (.int .i64 (k : Int)) ∧ (k : Int) < m ∧ BLk w w' (q + 1) G l a b ∧ wr.grownBy w' (some (w.heap.size + 1)) :=
  (pick_any (w.heap.size + 1) q m wr h.rd (by omega) hm').mono fun _ _ ⟨k, h1, h2, h3, h4, h5, _⟩ => by
    obtain ⟨n, rfl⟩ := Int.eq_ofNat_of_zero_le h2
    exact ⟨n, h1, h3 hm, h.pick h5 h4, h5⟩
theorem BLk.setNew (h : BLk w wr q G l a b) {w0 : World} {q0 : Nat} (h0 : BLk w w0 q0 G l a b) {g : Nat} (hg : w0.heap.size ≤ g) (j : Nat) (u : Value) : BLk w (wr.setCell ⟨g, j, none⟩ u) q G l a b := by
  have hs : wr.grownBy (wr.setCell ⟨g, j, none⟩ u) (some g) := grownBy_set (grownBy_refl wr (some g)) j u
  have z0 := h0.box.lt
  have z1 := h0.gl
  exact ⟨h.resL.far hs (fun e => by simp at e; omega), h.box.far hs (fun e => by simp at e; omega), ⟨h.lk.held.setFresh h0.lk.held hg j u, h.lk.waits.setFresh h0.lk.waits hg j u⟩, h.ga, h.gb, h.gl, h.rd.far hs (fun y hy e => by simp at e; omega), h.bel.setCell (by simp only; omega) _, h.hn, h.hm⟩
def BCut (w : World) (q G : Nat) (l : Lk) (a b : Value) (s : Value) (wz : World) : Prop := ∃ (g : Nat) (x : Hd), s = .pointer (some ⟨g, 0, none⟩) ∧ Bx wz g 27 #[.int .i64 x.stamp, .int .i64 x.try_, .bool x.share, .bool x.firm] ∧ w.heap.size + 1 < g ∧ BLk w wz q G l a b
theorem bCutNew {xs xt : Int} {xh xf : Bool} (h : BLk w wr q G l a b) : BCut w q G l a b (.pointer (some ⟨wr.heap.size, 0, none⟩)) (wr.alloc (.cells #[.int .i64 xs, .int .i64 xt, .bool xh, .bool xf] 27)) :=
  ⟨_, ⟨xs, xt, xh, xf⟩, rfl, Bx.made _ _ _, by have := h.box.lt; have := h.gl; omega, h.allocK⟩
theorem bCutOld {w0 : World} {q0 g : Nat} {xs xt : Int} {xh xf : Bool} {c0 c1 c2 c3 : Value} (h : BLk w wr q G l a b) (h0 : BLk w w0 q0 G l a b) (hg : w0.heap.size ≤ g) (hx : Bx wr g 27 #[c0, c1, c2, c3]) :
    BCut w q G l a b (.pointer (some ⟨g, 0, none⟩)) ((((wr.setCell ⟨g, 0, none⟩ (.int .i64 xs)).setCell ⟨g, 1, none⟩ (.int .i64 xt)).setCell ⟨g, 2, none⟩ (.bool xh)).setCell ⟨g, 3, none⟩ (.bool xf)) :=
  ⟨g, ⟨xs, xt, xh, xf⟩, rfl, ⟨heap_setCell_same _ _ _ _ _ _ (heap_setCell_same _ _ _ _ _ _ (heap_setCell_same _ _ _ _ _ _ (heap_setCell_same _ _ _ _ _ _ hx.row)))⟩, by have := h0.box.lt; have := h0.gl; omega, (((h.setNew h0 hg _ _).setNew h0 hg _ _).setNew h0 hg _ _).setNew h0 hg _ _⟩
theorem BLk.endL {slot : Int} {H W : List Hd} (h : BLk w wr q G ⟨slot, H, W⟩ a b) (wz : World) (hz : wz = (((wr.setCell ⟨w.heap.size, 0, none⟩ (.int .i64 slot)).setCell ⟨w.heap.size, 1, none⟩ a).setCell ⟨w.heap.size, 2, none⟩ b)) :
    wz.heap[w.heap.size]? = some (.cells #[.int .i64 slot, a, b] 25 (0, 0)) ∧ LkAt wz ⟨slot, H, W⟩ a b ∧ Below w.heap.size w wz := by
  subst hz
  have g1 := grown3 wr w.heap.size (.int .i64 slot) a b
  exact ⟨heap_setCell_same _ _ _ _ _ _ (heap_setCell_same _ _ _ _ _ _ (heap_setCell_same _ _ _ _ _ _ h.resL.row)), ⟨h.lk.held.far g1 (.inr (fun e => by have := h.ga _ e; omega)), h.lk.waits.far g1 (.inr (fun e => by have := h.gb _ e; omega))⟩, ((h.bel.setCell (by simp) _).setCell (by simp) _).setCell (by simp) _⟩
end

set_option maxRecDepth 100000 in
set_option maxHeartbeats 4000000 in
theorem drawLockFirm_any (v : Value) (n : Nat) (w : World) (hv : BytesAt w v n) :
    Calls Try.prog 25 #[v] w fun e w' => ∃ (l : Lk) (a b : Value) (s t : Int), e = .returned (.tuple #[lkV l a b, .int .i64 s, .int .i64 t]) ∧ LkAt w' l a b ∧ l.held.length ≤ 100 ∧ l.waits.length ≤ 100 ∧ (∀ k, a.ownBlock = some k → w.heap.size ≤ k) ∧ (∀ k, b.ownBlock = some k → w.heap.size ≤ k) ∧ Below w.heap.size w w' := by
  have HV := hide hv
  clear hv
  go_enter Try.func25, Try.ntmps25
  go_wp2_with fail
  have bA : Below w.heap.size w (w.alloc (.cells #[.int .i64 0, .slice none 0 0, .slice none 0 0] 25)) := (Below.refl _ _).alloc (Nat.le_refl _) _
  refine (open_any v n _ (BytesAt.keptE (unhide HV) bA)).mono ?_; rintro e w1 ⟨rfl, r1, b1, z1⟩
  have hsz : (w.alloc (.cells #[.int .i64 0, .slice none 0 0, .slice none 0 0] 25)).heap.size = w.heap.size + 1 := by simp
  rw [hsz] at r1 z1
  rw [hsz]
  have HR1 := hide r1
  have HXL := hide ((Bx.made w 25 #[.int .i64 0, .slice none 0 0, .slice none 0 0]).kept b1)
  have HB1 := hide (bA.trans (b1.mono bA.size))
  have HZ1 := hide z1
  clear r1 b1 bA hsz z1 HV
  go_wp2_with fail
  refine (l72Lock_any (w.heap.size + 1) 0 _ (unhide HR1) (by omega)).mono ?_; rintro e w2 ⟨l, a, b, q, rfl, hk2, hn2, hm2, r2, hq2, g2, ga2, gb2⟩
  obtain ⟨a0, c0, rfl, -⟩ := hk2.held.shape
  obtain ⟨a1, c1, rfl, -⟩ := hk2.waits.shape
  obtain ⟨slot, H, W⟩ := l
  have z1 := unhide HZ1
  have s2 := g2.size
  have HA2 : Hid (BLk w (w2.alloc (.cells #[.int .i64 slot, .slice a0 H.length c0, .slice a1 W.length c1] 25)) q w2.heap.size ⟨slot, H, W⟩ (.slice a0 H.length c0) (.slice a1 W.length c1)) :=
    ⟨((unhide HXL).far g2 (fun e => by simp at e)).allocK, Bx.made _ _ _, hk2.kept ((Below.refl _ _).alloc (Nat.le_refl _) _), fun k e => by have := ga2 k e; omega, fun k e => by have := gb2 k e; omega, by omega, r2.allocK, (Below.grown (unhide HB1) g2 (unhide HB1).size (fun k e => by simp at e; omega)).alloc (by have := (unhide HB1).size; omega) _, hn2, hm2⟩
  simp only [lkV]
  clear hk2 r2 g2 ga2 gb2 z1 s2 HXL HB1 HR1 HZ1
  obtain ⟨q0, q1, q2⟩ := (unhide HA2).box.three
  obtain ⟨f0, f1, f2⟩ := (unhide HA2).box.free3
  have l2 := (unhide HA2).gl
  have hrest : ∀ (wz : World) (q' : Nat), q' ≤ 900000 → BLk w wz q' w2.heap.size ⟨slot, H, W⟩ (.slice a0 H.length c0) (.slice a1 W.length c1) → True := fun _ _ _ _ => trivial
  clear hrest
  by_cases hH : 0 < H.length
  case neg =>
    have hH' : ¬ (0 : Int) < (H.length : Int) := by omega
    go_wp2_with fail
    clear q0 q1 q2 f0 f1 f2
    refine wp_region_held_drew (S := fun w' => Bx w' w2.heap.size 25 #[.int .i64 slot, .slice a0 H.length c0, .slice a1 W.length c1]) (by kernel_rfl) ⟨(unhide HA2).box.row⟩ (fun hHeld => ?_)
    refine wpAnyH_take (i := 0) (v := .agg #[.int .i64 slot, .slice a0 H.length c0, .slice a1 W.length c1]) rfl (by kernel_rfl) (by kernel_rfl) (by kernel_rfl) (fun _ _ _ h => h) (Or.inl ⟨by rfl, ?h1⟩) (by assumption) ?_
    case h1 => exact fun w0 hSw => load_yieldsB 25 (.tmp 6) rfl rfl hSw Try.underlying25 (by kernel_rfl)
    try simp only [Act.put]
    refine wpAnyH_take (i := 1) (v := ?v2) rfl (by kernel_rfl) (by kernel_rfl) (by kernel_rfl) (fun _ _ _ h => h) (Or.inl ⟨by rfl, ?h2⟩) (by assumption) ?_
    case h2 => (intro w0 hSw; go_simp; try (with_reducible rfl))
    try simp only [Act.put]
    refine wpAnyH_take (i := 4) (v := ?v3) rfl (by kernel_rfl) (by kernel_rfl) (by kernel_rfl) (fun _ _ _ h => h) (Or.inl ⟨by rfl, ?h3⟩) (by assumption) ?_
    case h3 => (intro w0 hSw; go_simp; try (with_reducible rfl))
    try simp only [Act.put]
    refine wpAnyH_ready (rs := [2]) (by kernel_rfl) (by simp) ?_
    refine AllReadyH.cons rfl (fun K hK => ?_) AllReadyH.nil
    go_simp
    go_at_call 40
    refine (BLk.pickAny (unhide HA2).drewK (by omega) 7 (by omega) (by omega)).mono ?_; rintro e w5 ⟨k5, rfl, b5, d5, g5⟩
    have HD5 := hide d5
    clear d5 g5
    try go_wp2_with fail
    clear hHeld
    refine hK.out _ _ (unhide HD5).box (fun hHeld => ?_)
    clear hK K
    refine wpAnyH_take (i := 3) (v := ?v4) rfl (by kernel_rfl) (by kernel_rfl) (by kernel_rfl) (fun _ _ _ h => h) (Or.inl ⟨by rfl, ?h4⟩) (by assumption) ?_
    case h4 => (intro w0 hSw; go_simp; try (with_reducible rfl))
    try simp only [Act.put]
    refine wpAnyH_ready (rs := [5]) (by kernel_rfl) (by simp) ?_
    refine AllReadyH.cons rfl (fun K hK => ?_) AllReadyH.nil
    go_simp
    go_at_call 40
    refine (BLk.pickAny (unhide HD5) (by omega) 3 (by omega) (by omega)).mono ?_; rintro e w6 ⟨k6, rfl, b6, d6, g6⟩
    have HD6 := hide d6
    clear d6 g6
    try go_wp2_with fail
    clear hHeld
    refine hK.out _ _ (unhide HD6).box (fun hHeld => ?_)
    clear hK K
    refine wpAnyH_take (i := 6) (v := ?v5) rfl (by kernel_rfl) (by kernel_rfl) (by kernel_rfl) (fun _ _ _ h => h) (Or.inl ⟨by rfl, ?h5⟩) (by assumption) ?_
    case h5 => (intro w0 hSw; go_simp; try (with_reducible rfl))
    try simp only [Act.put]
    have HEND := hide ((unhide HD6).endL _ rfl)
    obtain ⟨z0, z1, z2⟩ := (unhide HD6).resL.three
    obtain ⟨z3, z4, z5⟩ := (unhide HD6).resL.free3
    refine wpAnyH_ready (rs := [7]) (by kernel_rfl) (by simp) ?_
    refine AllReadyH.cons rfl (fun K hK => ?_) AllReadyH.nil
    go_simp
    try go_wp2_with fail
    clear hHeld
    refine hK.out _ _ (((unhide HD6).box).far (grown3 _ w.heap.size (.int .i64 slot) (.slice a0 H.length c0) (.slice a1 W.length c1)) (fun e => by have := (unhide HD6).gl; simp at e; omega)) (fun hHeld => ?_)
    clear hK K
    clear z0 z1 z2 z3 z4 z5
    refine wpAnyH_ready (rs := [8]) (by kernel_rfl) (by simp) ?_
    refine AllReadyH.cons rfl (fun K hK => ?_) AllReadyH.nil
    go_simp
    try go_wp2_with fail
    refine hK.out _ _ (by assumption) (fun hHeld' => ?_)
    clear hK K hHeld
    have hHeld := hHeld'
    clear hHeld'
    refine wpAnyH_ready (rs := [9]) (by kernel_rfl) (by simp) ?_
    refine AllReadyH.cons rfl (fun K hK => ?_) AllReadyH.nil
    go_simp
    try go_wp2_with fail
    refine hK.out _ _ (by assumption) (fun hHeld' => ?_)
    clear hK K hHeld
    have hHeld := hHeld'
    clear hHeld'
    refine wpAnyH_done (by kernel_rfl) ?_ _
    go_wp2_with fail
    obtain ⟨e1, e2, e3⟩ := unhide HEND
    refine bodyPost_ret (results_row_tmp2 rfl _ _ w.heap.size _ _ _ _ rfl (Bx.mk e1).row Try.underlying25 rfl (by kernel_rfl)) rfl ?_
    exact ⟨⟨slot, H, W⟩, _, _, _, _, rfl, e2, hn2, hm2, fun k e => by have := (unhide HD6).ga k e; omega, fun k e => by have := (unhide HD6).gb k e; omega, e3⟩
  have hH' : (0 : Int) < (H.length : Int) := by omega
  obtain ⟨bh, oh, rfl⟩ := (unhide HA2).lk.held.some_of hH
  go_wp2_with fail
  refine (BLk.pickAny (unhide HA2) (by omega) 3 (by omega) (by omega)).mono ?_; rintro e w3 ⟨k3, rfl, b3, d3, g3⟩
  have HA3 := hide d3
  have l3 := (unhide HA3).box.lt
  clear d3 g3 HA2 q0 q1 q2 f0 f1 f2
  obtain ⟨q0, q1, q2⟩ := (unhide HA3).box.three
  obtain ⟨f0, f1, f2⟩ := (unhide HA3).box.free3
  by_cases hk3 : (0 : Int) < (k3 : Int)
  case neg =>
    go_wp2_with fail
    clear q0 q1 q2 f0 f1 f2
    refine wp_region_held_drew (S := fun w' => Bx w' w2.heap.size 25 #[.int .i64 slot, .slice (some ⟨bh, oh, none⟩) H.length c0, .slice a1 W.length c1]) (by kernel_rfl) ⟨(unhide HA3).box.row⟩ (fun hHeld => ?_)
    refine wpAnyH_take (i := 0) (v := .agg #[.int .i64 slot, .slice (some ⟨bh, oh, none⟩) H.length c0, .slice a1 W.length c1]) rfl (by kernel_rfl) (by kernel_rfl) (by kernel_rfl) (fun _ _ _ h => h) (Or.inl ⟨by rfl, ?h6⟩) (by assumption) ?_
    case h6 => exact fun w0 hSw => load_yieldsB 25 (.tmp 6) rfl rfl hSw Try.underlying25 (by kernel_rfl)
    try simp only [Act.put]
    refine wpAnyH_take (i := 1) (v := ?v7) rfl (by kernel_rfl) (by kernel_rfl) (by kernel_rfl) (fun _ _ _ h => h) (Or.inl ⟨by rfl, ?h7⟩) (by assumption) ?_
    case h7 => (intro w0 hSw; go_simp; try (with_reducible rfl))
    try simp only [Act.put]
    refine wpAnyH_take (i := 4) (v := ?v8) rfl (by kernel_rfl) (by kernel_rfl) (by kernel_rfl) (fun _ _ _ h => h) (Or.inl ⟨by rfl, ?h8⟩) (by assumption) ?_
    case h8 => (intro w0 hSw; go_simp; try (with_reducible rfl))
    try simp only [Act.put]
    refine wpAnyH_ready (rs := [2]) (by kernel_rfl) (by simp) ?_
    refine AllReadyH.cons rfl (fun K hK => ?_) AllReadyH.nil
    go_simp
    go_at_call 40
    refine (BLk.pickAny (unhide HA3).drewK (by omega) 7 (by omega) (by omega)).mono ?_; rintro e w5 ⟨k5, rfl, b5, d5, g5⟩
    have HD5 := hide d5
    clear d5 g5
    try go_wp2_with fail
    clear hHeld
    refine hK.out _ _ (unhide HD5).box (fun hHeld => ?_)
    clear hK K
    refine wpAnyH_take (i := 3) (v := ?v9) rfl (by kernel_rfl) (by kernel_rfl) (by kernel_rfl) (fun _ _ _ h => h) (Or.inl ⟨by rfl, ?h9⟩) (by assumption) ?_
    case h9 => (intro w0 hSw; go_simp; try (with_reducible rfl))
    try simp only [Act.put]
    refine wpAnyH_ready (rs := [5]) (by kernel_rfl) (by simp) ?_
    refine AllReadyH.cons rfl (fun K hK => ?_) AllReadyH.nil
    go_simp
    go_at_call 40
    refine (BLk.pickAny (unhide HD5) (by omega) 3 (by omega) (by omega)).mono ?_; rintro e w6 ⟨k6, rfl, b6, d6, g6⟩
    have HD6 := hide d6
    clear d6 g6
    try go_wp2_with fail
    clear hHeld
    refine hK.out _ _ (unhide HD6).box (fun hHeld => ?_)
    clear hK K
    refine wpAnyH_take (i := 6) (v := ?v10) rfl (by kernel_rfl) (by kernel_rfl) (by kernel_rfl) (fun _ _ _ h => h) (Or.inl ⟨by rfl, ?h10⟩) (by assumption) ?_
    case h10 => (intro w0 hSw; go_simp; try (with_reducible rfl))
    try simp only [Act.put]
    have HEND := hide ((unhide HD6).endL _ rfl)
    obtain ⟨z0, z1, z2⟩ := (unhide HD6).resL.three
    obtain ⟨z3, z4, z5⟩ := (unhide HD6).resL.free3
    refine wpAnyH_ready (rs := [7]) (by kernel_rfl) (by simp) ?_
    refine AllReadyH.cons rfl (fun K hK => ?_) AllReadyH.nil
    go_simp
    try go_wp2_with fail
    clear hHeld
    refine hK.out _ _ (((unhide HD6).box).far (grown3 _ w.heap.size (.int .i64 slot) (.slice (some ⟨bh, oh, none⟩) H.length c0) (.slice a1 W.length c1)) (fun e => by have := (unhide HD6).gl; simp at e; omega)) (fun hHeld => ?_)
    clear hK K
    clear z0 z1 z2 z3 z4 z5
    refine wpAnyH_ready (rs := [8]) (by kernel_rfl) (by simp) ?_
    refine AllReadyH.cons rfl (fun K hK => ?_) AllReadyH.nil
    go_simp
    try go_wp2_with fail
    refine hK.out _ _ (by assumption) (fun hHeld' => ?_)
    clear hK K hHeld
    have hHeld := hHeld'
    clear hHeld'
    refine wpAnyH_ready (rs := [9]) (by kernel_rfl) (by simp) ?_
    refine AllReadyH.cons rfl (fun K hK => ?_) AllReadyH.nil
    go_simp
    try go_wp2_with fail
    refine hK.out _ _ (by assumption) (fun hHeld' => ?_)
    clear hK K hHeld
    have hHeld := hHeld'
    clear hHeld'
    refine wpAnyH_done (by kernel_rfl) ?_ _
    go_wp2_with fail
    obtain ⟨e1, e2, e3⟩ := unhide HEND
    refine bodyPost_ret (results_row_tmp2 rfl _ _ w.heap.size _ _ _ _ rfl (Bx.mk e1).row Try.underlying25 rfl (by kernel_rfl)) rfl ?_
    exact ⟨⟨slot, H, W⟩, _, _, _, _, rfl, e2, hn2, hm2, fun k e => by have := (unhide HD6).ga k e; omega, fun k e => by have := (unhide HD6).gb k e; omega, e3⟩
  go_wp2_with fail
  go_cut [7] (fun s wz => BCut w (q + 1 + 1) w2.heap.size ⟨slot, H, W⟩ (.slice (some ⟨bh, oh, none⟩) H.length c0) (.slice a1 W.length c1) s wz)
  case first =>
    clear q0 q1 q2 f0 f1 f2
    refine wp_region_held_drew (S := fun w' => Bx w' w2.heap.size 25 #[.int .i64 slot, .slice (some ⟨bh, oh, none⟩) H.length c0, .slice a1 W.length c1] ∧ RowAt hdE w' (.slice (some ⟨bh, oh, none⟩) H.length c0) H) (by kernel_rfl) ⟨⟨(unhide HA3).box.row⟩, (unhide HA3).drewK.lk.held⟩ (fun hHeld => ?_)
    refine wpAnyH_take (i := 0) (v := ?v11) rfl (by kernel_rfl) (by kernel_rfl) (by kernel_rfl) (fun _ _ _ h => h) (Or.inl ⟨by rfl, ?h11⟩) (by assumption) ?_
    case h11 => (intro w0 hSw; obtain ⟨s0, s1, s2⟩ := hSw.1.three; go_simp; try (with_reducible rfl))
    try simp only [Act.put]
    refine wpAnyH_take (i := 1) (v := ?v12) rfl (by kernel_rfl) (by kernel_rfl) (by kernel_rfl) (fun _ _ _ h => h) (Or.inl ⟨by rfl, ?h12⟩) (by assumption) ?_
    case h12 => (intro w0 hSw; obtain ⟨s0, s1, s2⟩ := hSw.1.three; go_simp; try (with_reducible rfl))
    try simp only [Act.put]
    refine wpAnyH_take (i := 2) (v := ?v13) rfl (by kernel_rfl) (by kernel_rfl) (by kernel_rfl) (fun _ _ _ h => h) (Or.inl ⟨by rfl, ?h13⟩) (by assumption) ?_
    case h13 => (intro w0 hSw; obtain ⟨s0, s1, s2⟩ := hSw.1.three; go_simp; try (with_reducible rfl))
    try simp only [Act.put]
    refine wpAnyH_take (i := 3) (v := ?v14) rfl (by kernel_rfl) (by kernel_rfl) (by kernel_rfl) (fun _ _ _ h => h) (Or.inl ⟨by rfl, ?h14⟩) (by assumption) ?_
    case h14 => (intro w0 hSw; obtain ⟨s0, s1, s2⟩ := hSw.1.three; go_simp; try (with_reducible rfl))
    try simp only [Act.put]
    refine wpAnyH_take (i := 4) (v := ?v15) rfl (by kernel_rfl) (by kernel_rfl) (by kernel_rfl) (fun _ _ _ h => h) (Or.inl ⟨by rfl, ?h15⟩) (by assumption) ?_
    case h15 => (intro w0 hSw; obtain ⟨s0, s1, s2⟩ := hSw.1.three; go_simp; try (with_reducible rfl))
    try simp only [Act.put]
    refine wpAnyH_take (i := 5) (v := ?v16) rfl (by kernel_rfl) (by kernel_rfl) (by kernel_rfl) (fun _ _ _ h => h) (Or.inl ⟨by rfl, ?h16⟩) (by assumption) ?_
    case h16 => (intro w0 hSw; obtain ⟨s0, s1, s2⟩ := hSw.1.three; go_simp; try (with_reducible rfl))
    try simp only [Act.put]
    refine wpAnyH_ready (rs := [6, 9]) (by kernel_rfl) (by simp) ?_
    refine AllReadyH.cons rfl (fun K hK => ?_) (AllReadyH.cons rfl (fun K hK => ?_) AllReadyH.nil)
    ·
      go_simp
      go_at_call 40
      refine (BLk.pickAny (unhide HA3).drewK (by omega) (H.length : Int) (by omega) (by omega)).mono ?_; rintro e w4 ⟨Kx, rfl, b4, d4, g4⟩
      have HD4 := hide d4
      have hKx : Kx < H.length := by omega
      have l4 := g4.size
      (try simp at l4)
      clear d4 g4
      try go_wp2_with fail
      clear hHeld
      refine hK.out _ _ ⟨(unhide HD4).box, (unhide HD4).lk.held⟩ (fun hHeld => ?_)
      clear hK K
      have hk0 : (0 : Int) ≤ (Kx : Int) := by omega
      refine wpAnyH_take (i := 7) (v := ?v17) rfl (by kernel_rfl) (by kernel_rfl) (by kernel_rfl) (fun _ _ _ h => h) (Or.inl ⟨by rfl, ?h17⟩) (by assumption) ?_
      case h17 => (intro w0 hSw; obtain ⟨s0, s1, s2⟩ := hSw.1.three; go_simp; try (with_reducible rfl))
      try simp only [Act.put]
      refine wpAnyH_take (i := 8) (v := ?v18) rfl (by kernel_rfl) (by kernel_rfl) (by kernel_rfl) (fun _ _ _ h => h) (Or.inl ⟨by rfl, ?h18⟩) (by assumption) ?_
      case h18 => (intro w0 hSw; obtain ⟨t0', t1', t2', t3'⟩ := hd_cells hSw.2 (i := Kx) hKx; go_simp; try (with_reducible rfl))
      try simp only [Act.put]
      refine wpAnyH_ready (rs := [9]) (by kernel_rfl) (by simp) ?_
      refine AllReadyH.cons rfl (fun K hK => ?_) AllReadyH.nil
      go_simp
      try go_wp2_with fail
      clear hHeld
      refine hK.out _ _ ⟨BLk.box (unhide HD4).allocK, (BLk.lk (unhide HD4).allocK).held⟩ (fun hHeld => ?_)
      clear hK K
      refine wpAnyH_ready (rs := [10]) (by kernel_rfl) (by simp) ?_
      refine AllReadyH.cons rfl (fun K hK => ?_) AllReadyH.nil
      go_simp
      try go_wp2_with fail
      clear hHeld
      refine hK.out _ _ ⟨BLk.box (unhide HD4).allocK, (BLk.lk (unhide HD4).allocK).held⟩ (fun hHeld => ?_)
      clear hK K
      refine wpAnyH_done (by kernel_rfl) ?_ _
      try go_wp2_with fail
      go_meet
      case rel => exact bCutNew (unhide HD4)
    ·
      go_simp
      try go_wp2_with fail
      clear hHeld
      refine hK.out _ _ ⟨BLk.box (unhide HA3).drewK.allocK, (BLk.lk (unhide HA3).drewK.allocK).held⟩ (fun hHeld => ?_)
      clear hK K
      refine wpAnyH_ready (rs := [6]) (by kernel_rfl) (by simp) ?_
      refine AllReadyH.cons rfl (fun K hK => ?_) AllReadyH.nil
      go_simp
      go_at_call 40
      refine (BLk.pickAny (unhide HA3).drewK.allocK (by omega) (H.length : Int) (by omega) (by omega)).mono ?_; rintro e w4 ⟨Kx, rfl, b4, d4, g4⟩
      have HZ : Hid (Bx w4 w3.heap.size 27 #[.int .i64 0, .int .i64 0, .bool false, .bool false]) := ((Bx.made w3.drew 27 #[.int .i64 0, .int .i64 0, .bool false, .bool false]).far g4 (fun e => by simp at e; omega))
      have HD4 := hide d4
      have hKx : Kx < H.length := by omega
      have l4 := g4.size
      (try simp at l4)
      clear d4 g4
      try go_wp2_with fail
      clear hHeld
      refine hK.out _ _ ⟨(unhide HD4).box, (unhide HD4).lk.held⟩ (fun hHeld => ?_)
      clear hK K
      have hk0 : (0 : Int) ≤ (Kx : Int) := by omega
      refine wpAnyH_take (i := 7) (v := ?v19) rfl (by kernel_rfl) (by kernel_rfl) (by kernel_rfl) (fun _ _ _ h => h) (Or.inl ⟨by rfl, ?h19⟩) (by assumption) ?_
      case h19 => (intro w0 hSw; obtain ⟨s0, s1, s2⟩ := hSw.1.three; go_simp; try (with_reducible rfl))
      try simp only [Act.put]
      refine wpAnyH_take (i := 8) (v := ?v20) rfl (by kernel_rfl) (by kernel_rfl) (by kernel_rfl) (fun _ _ _ h => h) (Or.inl ⟨by rfl, ?h20⟩) (by assumption) ?_
      case h20 => (intro w0 hSw; obtain ⟨t0', t1', t2', t3'⟩ := hd_cells hSw.2 (i := Kx) hKx; go_simp; try (with_reducible rfl))
      try simp only [Act.put]
      refine wpAnyH_ready (rs := [10]) (by kernel_rfl) (by simp) ?_
      refine AllReadyH.cons rfl (fun K hK => ?_) AllReadyH.nil
      have lz := (unhide HZ).lt
      have HCU := hide (fun xs xt xh xf => bCutOld (xs := xs) (xt := xt) (xh := xh) (xf := xf) (unhide HD4) (unhide HA3) (Nat.le_refl _) (unhide HZ))
      obtain ⟨z0, z1, z2, z3⟩ := (unhide HZ).four
      have z4 := (unhide HZ).free 0
      have z5 := (unhide HZ).free 1
      have z6 := (unhide HZ).free 2
      have z7 := (unhide HZ).free 3
      go_simp
      try go_wp2_with fail
      clear hHeld
      refine hK.out _ _ ?_ (fun hHeld => ?_)
      · obtain ⟨g, x, h1, h2, h3, h4⟩ := unhide HCU _ _ _ _; exact ⟨h4.box, h4.lk.held⟩
      clear hK K
      refine wpAnyH_done (by kernel_rfl) ?_ _
      try go_wp2_with fail
      go_meet
      case rel => exact unhide HCU _ _ _ _
  case rest =>
    rename World => w5
    obtain ⟨gh, x, rfl, hbx, hgh, hd5⟩ := hcut
    obtain ⟨xs, xt, xh, xf⟩ := x
    have HD5 := hide hd5
    have HH5 := hide hbx
    clear q0 q1 q2 f0 f1 f2 hd5 hbx
    go_wp2_with fail
    refine wp_region_held_drew (S := fun w' => Bx w' w2.heap.size 25 #[.int .i64 slot, .slice (some ⟨bh, oh, none⟩) H.length c0, .slice a1 W.length c1] ∧ Bx w' gh 27 #[.int .i64 xs, .int .i64 xt, .bool xh, .bool xf]) (by kernel_rfl) ⟨⟨(unhide HD5).box.row⟩, ⟨(unhide HH5).row⟩⟩ (fun hHeld => ?_)
    refine wpAnyH_take (i := 0) (v := .agg #[.int .i64 slot, .slice (some ⟨bh, oh, none⟩) H.length c0, .slice a1 W.length c1]) rfl (by kernel_rfl) (by kernel_rfl) (by kernel_rfl) (fun _ _ _ h => h) (Or.inl ⟨by rfl, ?h21⟩) (by assumption) ?_
    case h21 => exact fun w0 hSw => load_yieldsB 25 (.tmp 6) rfl rfl hSw.1 Try.underlying25 (by kernel_rfl)
    try simp only [Act.put]
    refine wpAnyH_take (i := 1) (v := ?v22) rfl (by kernel_rfl) (by kernel_rfl) (by kernel_rfl) (fun _ _ _ h => h) (Or.inl ⟨by rfl, ?h22⟩) (by assumption) ?_
    case h22 => (intro w0 hSw; obtain ⟨s0, s1, s2, s3⟩ := hSw.2.four; go_simp; try (with_reducible rfl))
    try simp only [Act.put]
    refine wpAnyH_take (i := 2) (v := ?v23) rfl (by kernel_rfl) (by kernel_rfl) (by kernel_rfl) (fun _ _ _ h => h) (Or.inl ⟨by rfl, ?h23⟩) (by assumption) ?_
    case h23 => (intro w0 hSw; obtain ⟨s0, s1, s2, s3⟩ := hSw.2.four; go_simp; try (with_reducible rfl))
    try simp only [Act.put]
    refine wpAnyH_take (i := 3) (v := ?v24) rfl (by kernel_rfl) (by kernel_rfl) (by kernel_rfl) (fun _ _ _ h => h) (Or.inl ⟨by rfl, ?h24⟩) (by assumption) ?_
    case h24 => (intro w0 hSw; obtain ⟨s0, s1, s2, s3⟩ := hSw.2.four; go_simp; try (with_reducible rfl))
    try simp only [Act.put]
    refine wpAnyH_take (i := 4) (v := ?v25) rfl (by kernel_rfl) (by kernel_rfl) (by kernel_rfl) (fun _ _ _ h => h) (Or.inl ⟨by rfl, ?h25⟩) (by assumption) ?_
    case h25 => (intro w0 hSw; obtain ⟨s0, s1, s2, s3⟩ := hSw.2.four; go_simp; try (with_reducible rfl))
    try simp only [Act.put]
    refine wpAnyH_take (i := 5) (v := ?v26) rfl (by kernel_rfl) (by kernel_rfl) (by kernel_rfl) (fun _ _ _ h => h) (Or.inl ⟨by rfl, ?h26⟩) (by assumption) ?_
    case h26 => (intro w0 hSw; obtain ⟨s0, s1, s2, s3⟩ := hSw.2.four; go_simp; try (with_reducible rfl))
    try simp only [Act.put]
    refine wpAnyH_ready (rs := [6]) (by kernel_rfl) (by simp) ?_
    refine AllReadyH.cons rfl (fun K hK => ?_) AllReadyH.nil
    go_simp
    go_at_call 40
    refine (BLk.pickAny (unhide HD5).drewK (by omega) 4 (by omega) (by omega)).mono ?_; rintro e w6 ⟨k6, rfl, b6, d6, g6⟩
    have HD6 := hide d6
    have HH6 := hide ((unhide HH5).drewK.far g6 (fun e => by simp at e; omega))
    clear d6 g6
    try go_wp2_with fail
    clear hHeld
    refine hK.out _ _ ⟨(unhide HD6).box, unhide HH6⟩ (fun hHeld => ?_)
    clear hK K
    have hk60 : (0 : Int) ≤ (k6 : Int) := by omega
    refine wpAnyH_take (i := 7) (v := ?v27) rfl (by kernel_rfl) (by kernel_rfl) (by kernel_rfl) (fun _ _ _ h => h) (Or.inl ⟨by rfl, ?h27⟩) (by assumption) ?_
    case h27 => (intro w0 hSw; go_simp; try (with_reducible rfl))
    try simp only [Act.put]
    refine wpAnyH_take (i := 8) (v := ?v28) rfl (by kernel_rfl) (by kernel_rfl) (by kernel_rfl) (fun _ _ _ h => h) (Or.inl ⟨by rfl, ?h28⟩) (by assumption) ?_
    case h28 => (intro w0 hSw; go_simp; try (with_reducible rfl))
    try simp only [Act.put]
    have HEND := hide ((unhide HD6).endL _ rfl)
    obtain ⟨z0, z1, z2⟩ := (unhide HD6).resL.three
    obtain ⟨z3, z4, z5⟩ := (unhide HD6).resL.free3
    refine wpAnyH_ready (rs := [9]) (by kernel_rfl) (by simp) ?_
    refine AllReadyH.cons rfl (fun K hK => ?_) AllReadyH.nil
    go_simp
    try go_wp2_with fail
    clear hHeld
    refine hK.out _ _ ⟨(((unhide HD6).box).far (grown3 _ w.heap.size (.int .i64 slot) (.slice (some ⟨bh, oh, none⟩) H.length c0) (.slice a1 W.length c1)) (fun e => by have := (unhide HD6).gl; simp at e; omega)), ((unhide HH6).far (grown3 _ w.heap.size (.int .i64 slot) (.slice (some ⟨bh, oh, none⟩) H.length c0) (.slice a1 W.length c1)) (fun e => by simp at e; omega))⟩ (fun hHeld => ?_)
    clear hK K
    clear z0 z1 z2 z3 z4 z5
    refine wpAnyH_ready (rs := [10]) (by kernel_rfl) (by simp) ?_
    refine AllReadyH.cons rfl (fun K hK => ?_) AllReadyH.nil
    go_simp
    try go_wp2_with fail
    refine hK.out _ _ (by assumption) (fun hHeld' => ?_)
    clear hK K hHeld
    have hHeld := hHeld'
    clear hHeld'
    refine wpAnyH_ready (rs := [11]) (by kernel_rfl) (by simp) ?_
    refine AllReadyH.cons rfl (fun K hK => ?_) AllReadyH.nil
    go_simp
    try go_wp2_with fail
    refine hK.out _ _ (by assumption) (fun hHeld' => ?_)
    clear hK K hHeld
    have hHeld := hHeld'
    clear hHeld'
    refine wpAnyH_done (by kernel_rfl) ?_ _
    go_wp2_with fail
    obtain ⟨e1, e2, e3⟩ := unhide HEND
    refine bodyPost_ret (results_row_tmp2 rfl _ _ w.heap.size _ _ _ _ rfl (Bx.mk e1).row Try.underlying25 rfl (by kernel_rfl)) rfl ?_
    exact ⟨⟨slot, H, W⟩, _, _, _, _, rfl, e2, hn2, hm2, fun k e => by have := (unhide HD6).ga k e; omega, fun k e => by have := (unhide HD6).gb k e; omega, e3⟩

set_option maxRecDepth 100000 in
set_option maxHeartbeats 1000000 in
theorem drawLockFree_any (v : Value) (n : Nat) (w : World) (hv : BytesAt w v n) :
    Calls Try.prog 22 #[v] w fun e w' => ∃ (l : Lk) (a b : Value) (s t : Int), e = .returned (.tuple #[lkV l a b, .int .i64 s, .int .i64 t]) ∧ LkAt w' l a b ∧ l.held.length ≤ 100 ∧ l.waits.length ≤ 100 ∧ Below w.heap.size w w' := by
  have HV := hide hv
  clear hv
  go_enter Try.func22, Try.ntmps22
  go_wp2_with fail
  have bA : Below w.heap.size w (w.alloc (.cells #[.int .i64 0, .slice none 0 0, .slice none 0 0] 25)) := (Below.refl _ _).alloc (Nat.le_refl _) _
  refine (drawLockFirm_any v n _ (BytesAt.keptE (unhide HV) bA)).mono ?_; rintro e w1 ⟨l, a, b, s, t, rfl, hk, hn, hm, ga, gb, b1⟩
  have hx := (Bx.made w 25 #[.int .i64 0, .slice none 0 0, .slice none 0 0]).kept b1
  have hbb := bA.trans (b1.mono bA.size)
  have g1 := fun u0 u1 u2 => grown3 w1 w.heap.size u0 u1 u2
  have HEND : Hid (∀ wz, wz = (((w1.setCell ⟨w.heap.size, 0, none⟩ (.int .i64 l.slot)).setCell ⟨w.heap.size, 1, none⟩ a).setCell ⟨w.heap.size, 2, none⟩ b) → wz.heap[w.heap.size]? = some (.cells #[.int .i64 l.slot, a, b] 25 (0, 0)) ∧ LkAt wz l a b ∧ Below w.heap.size w wz) := by
    intro wz hz
    subst hz
    exact ⟨heap_setCell_same _ _ _ _ _ _ (heap_setCell_same _ _ _ _ _ _ (heap_setCell_same _ _ _ _ _ _ hx.row)), ⟨hk.held.far (g1 _ _ _) (.inr (fun e => by have := ga _ e; simp at this; omega)), hk.waits.far (g1 _ _ _) (.inr (fun e => by have := gb _ e; simp at this; omega))⟩, ((hbb.setCell (by simp) _).setCell (by simp) _).setCell (by simp) _⟩
  obtain ⟨a0, c0, rfl, -⟩ := hk.held.shape
  obtain ⟨a1, c1, rfl, -⟩ := hk.waits.shape
  obtain ⟨slot, H, W⟩ := l
  simp only [lkV]
  obtain ⟨z0, z1, z2⟩ := hx.three
  obtain ⟨z3, z4, z5⟩ := hx.free3
  clear hx hk b1 bA hbb g1 ga gb
  go_wp2_with fail
  obtain ⟨e1, e2, e3⟩ := unhide HEND _ rfl
  refine bodyPost_ret (results_row_tmp2 rfl _ _ w.heap.size _ _ _ _ rfl (Bx.mk e1).row Try.underlying25 rfl (by kernel_rfl)) rfl ?_
  exact ⟨⟨slot, H, W⟩, _, _, ⟨_, _, rfl⟩, e2, hn, hm, e3⟩

end Go.Proofs.Ytoojnhodjkpecaa

namespace Go.Proofs.Ytoojnhodjkpecaa
open Go.RowKit

set_option maxRecDepth 100000 in
set_option maxHeartbeats 1000000 in
theorem lawLockFirmD_any (v u : Value) (n m : Nat) (w : World) (hv : BytesAt w v n) (hu : BytesAt w u m) :
    Calls Try.prog 6 #[v, u] w fun e w' => e = .returned (.bool true) ∧ Below w.heap.size w w' := by
  have HV := hide hv
  have HU := hide hu
  obtain ⟨a, cap, rfl, h1, h2, h3⟩ := hv
  obtain ⟨a', cap', rfl, h1', h2', h3'⟩ := hu
  unfold maxLen at h2 h2'
  clear h3 h3'
  by_cases hn : 1048576 < (n : Int)
  · go_enter Try.func6, Try.ntmps6
    go_wp2_with fail
    go_ret
    exact ⟨rfl, Below.refl _ _⟩
  by_cases hm : 1048576 < (m : Int)
  · go_enter Try.func6, Try.ntmps6
    go_wp2_with fail
    go_ret
    exact ⟨rfl, Below.refl _ _⟩
  go_enter Try.func6, Try.ntmps6
  go_wp2_with fail
  refine (drawLockFirm_any _ n w (unhide HV)).mono ?_; rintro e w1 ⟨l, la, lb, s, t, rfl, hk1, hln, hlm, -, -, b1⟩
  clear HV h1 h2
  obtain ⟨a0, c0, rfl, -⟩ := hk1.held.shape
  obtain ⟨a1, c1, rfl, -⟩ := hk1.waits.shape
  obtain ⟨slot, H, W⟩ := l
  simp only [lkV] at *
  have HK := hide hk1
  have HB := hide b1
  clear hk1 b1
  go_wp2_with fail
  obtain ⟨wA, hwA⟩ : ∃ z, z = (w1.alloc (.cells #[.int .i64 slot, .slice a0 H.length c0, .slice a1 W.length c1] 25)) := ⟨_, rfl⟩
  have hbn : Below w1.heap.size w1 wA := by rw [hwA]; exact (Below.refl _ _).alloc (Nat.le_refl _) _
  have HL : Hid (Bx wA (w1.heap.size) 25 #[.int .i64 slot, .slice a0 H.length c0, .slice a1 W.length c1]) := by rw [hwA]; exact Bx.made _ _ _
  rw [← hwA]
  clear hwA
  replace HK := hide ((unhide HK).kept hbn)
  replace HB := hide ((unhide HB).trans (hbn.mono (unhide HB).size))
  clear hbn
  refine (drawLockAsk_any _ m wA (BytesAt.keptE (unhide HU) (unhide HB))).mono ?_; rintro e w2 ⟨l2, lc, ld, x, rfl, hk2, -, -, -, h2⟩
  clear HU h1' h2'
  obtain ⟨u0, v0, rfl, -⟩ := hk2.held.shape
  obtain ⟨u1, v1, rfl, -⟩ := hk2.waits.shape
  obtain ⟨slot2, H2, W2⟩ := l2
  obtain ⟨xs, xt, xh, xf⟩ := x
  simp only [lkV, hdV] at *
  clear hk2
  replace HK := hide ((unhide HK).kept h2)
  replace HL := hide ((unhide HL).kept h2)
  replace HB := hide ((unhide HB).trans (h2.mono (unhide HB).size))
  clear h2
  have HCS := hide (fun ww hk => firmS_law (⟨slot, H, W⟩ : Lk) (.slice a0 H.length c0) (.slice a1 W.length c1) s t ww hk hln hlm)
  have HCI := hide (fun ww hk => firmI_law (⟨slot, H, W⟩ : Lk) (.slice a0 H.length c0) (.slice a1 W.length c1) s t ww hk hln hlm)
  have hle := firm_40 (⟨slot, H, W⟩ : Lk) s t
  have HCA := hide (fun ww a b hk => askI_law (firmL (⟨slot, H, W⟩ : Lk) s t) a b (⟨xs, xt, xh, xf⟩ : Hd) ww hk (by omega) (by omega))
  have hly := ask_40 (firmL (⟨slot, H, W⟩ : Lk) s t) (⟨xs, xt, xh, xf⟩ : Hd)
  have hT : (askT (firmL (⟨slot, H, W⟩ : Lk) s t) (⟨xs, xt, xh, xf⟩ : Hd)).length ≤ 1048576 := (ask_le (firmL (⟨slot, H, W⟩ : Lk) s t) (⟨xs, xt, xh, xf⟩ : Hd)).2.2
  have HM1 : Hid ((firmC (⟨slot, H, W⟩ : Lk) s t) = true → ∀ j, j < (askT (firmL (⟨slot, H, W⟩ : Lk) s t) (⟨xs, xt, xh, xf⟩ : Hd)).length → ((askT (firmL (⟨slot, H, W⟩ : Lk) s t) (⟨xs, xt, xh, xf⟩ : Hd)).getD j Hd.z).stamp ≠ s) := fun h j hj => by
    obtain ⟨ok, y, hy, e1, e2, e3⟩ := firm_ok h
    have := (firm_kept (h := (⟨xs, xt, xh, xf⟩ : Hd)) ok hy e3).1 _ (getD_in hj)
    rwa [e1] at this
  have HM2 : Hid ((firmC (⟨slot, H, W⟩ : Lk) s t) = true → ∃ j, j < (askL (firmL (⟨slot, H, W⟩ : Lk) s t) (⟨xs, xt, xh, xf⟩ : Hd)).held.length ∧ ((askL (firmL (⟨slot, H, W⟩ : Lk) s t) (⟨xs, xt, xh, xf⟩ : Hd)).held.getD j Hd.z).stamp = s ∧ ((askL (firmL (⟨slot, H, W⟩ : Lk) s t) (⟨xs, xt, xh, xf⟩ : Hd)).held.getD j Hd.z).try_ = t ∧ ((askL (firmL (⟨slot, H, W⟩ : Lk) s t) (⟨xs, xt, xh, xf⟩ : Hd)).held.getD j Hd.z).firm = true) := fun h => by
    obtain ⟨ok, y, hy, e1, e2, e3⟩ := firm_ok h
    obtain ⟨j, hj, e⟩ := List.getElem_of_mem (firm_kept (h := (⟨xs, xt, xh, xf⟩ : Hd)) ok hy e3).2
    refine ⟨j, hj, ?_⟩
    rw [show (askL (firmL (⟨slot, H, W⟩ : Lk) s t) (⟨xs, xt, xh, xf⟩ : Hd)).held.getD j Hd.z = y from by simp [List.getD, hj, e]]
    exact ⟨e1, e2, e3⟩
  generalize (askT (firmL (⟨slot, H, W⟩ : Lk) s t) (⟨xs, xt, xh, xf⟩ : Hd)) = T at *
  generalize (askL (firmL (⟨slot, H, W⟩ : Lk) s t) (⟨xs, xt, xh, xf⟩ : Hd)) = Y at *
  generalize askC (firmL (⟨slot, H, W⟩ : Lk) s t) (⟨xs, xt, xh, xf⟩ : Hd) = YC at *
  generalize (firmL (⟨slot, H, W⟩ : Lk) s t) = X at *
  generalize (firmC (⟨slot, H, W⟩ : Lk) s t) = C at *
  obtain ⟨xslot, XH, XW⟩ := X
  obtain ⟨yslot, YH, YW⟩ := Y
  simp only [lkV, hdV] at *
  obtain ⟨hXH, hXW⟩ := hle
  obtain ⟨hYH, hYW⟩ := hly
  have hcc : (C != C) = false := by simp
  have hce : (C == C) = true := by simp
  have lA := (unhide HL).lt
  obtain ⟨hl0, hl1, hl2⟩ := (unhide HL).three
  have hlt := (unhide HL).lt
  go_wp2_with fail
  clear hl0 hl1 hl2 hlt
  obtain ⟨wB, hwB⟩ : ∃ z, z = ((w2.alloc (.cells #[.int .i64 slot2, .slice u0 H2.length v0, .slice u1 W2.length v1] 25)).alloc (.cells #[.int .i64 xs, .int .i64 xt, .bool xh, .bool xf] 27)) := ⟨_, rfl⟩
  have hbn : Below w2.heap.size w2 wB := by rw [hwB]; exact ((Below.refl _ _).alloc (Nat.le_refl _) _).alloc (by simp; try omega) _
  have HH : Hid (Bx wB (w2.heap.size + 1) 27 #[.int .i64 xs, .int .i64 xt, .bool xh, .bool xf]) := by rw [hwB]; exact ⟨heap_alloc2_new w2 (.cells #[.int .i64 slot2, .slice u0 H2.length v0, .slice u1 W2.length v1] 25) (.cells #[.int .i64 xs, .int .i64 xt, .bool xh, .bool xf] 27)⟩
  rw [← hwB]
  clear hwB
  replace HK := hide ((unhide HK).kept hbn)
  replace HL := hide ((unhide HL).kept hbn)
  replace HB := hide ((unhide HB).trans (hbn.mono (unhide HB).size))
  clear hbn
  refine (unhide HCS _ (unhide HK)).mono ?_; rintro e w3 ⟨sa, sb, sc, sd, rfl, hx2, h3⟩
  replace HK := hide ((unhide HK).kept h3)
  replace HL := hide ((unhide HL).kept h3)
  replace HH := hide ((unhide HH).kept h3)
  replace HB := hide ((unhide HB).trans (h3.mono (unhide HB).size))
  clear h3
  have HSX := hide hx2
  clear hx2 HCS
  obtain ⟨hl0, hl1, hl2⟩ := (unhide HL).three
  have hlt := (unhide HL).lt
  go_wp2_with fail
  clear hl0 hl1 hl2 hlt
  obtain ⟨wC, hwC⟩ : ∃ z, z = (w3.alloc (.cells #[.int .i64 xslot, .slice sa XH.length sb, .slice sc XW.length sd] 25)) := ⟨_, rfl⟩
  have hbn : Below w3.heap.size w3 wC := by rw [hwC]; exact (Below.refl _ _).alloc (Nat.le_refl _) _
  have HS : Hid (Bx wC (w3.heap.size) 25 #[.int .i64 xslot, .slice sa XH.length sb, .slice sc XW.length sd]) := by rw [hwC]; exact Bx.made _ _ _
  rw [← hwC]
  clear hwC
  replace HK := hide ((unhide HK).kept hbn)
  replace HL := hide ((unhide HL).kept hbn)
  replace HH := hide ((unhide HH).kept hbn)
  replace HSX := hide ((unhide HSX).kept hbn)
  replace HB := hide ((unhide HB).trans (hbn.mono (unhide HB).size))
  clear hbn
  refine (unhide HCI _ (unhide HK)).mono ?_; rintro e w4 ⟨ta, tb, tc, td, rfl, hx4, h4⟩
  replace HK := hide ((unhide HK).kept h4)
  replace HL := hide ((unhide HL).kept h4)
  replace HH := hide ((unhide HH).kept h4)
  replace HSX := hide ((unhide HSX).kept h4)
  replace HS := hide ((unhide HS).kept h4)
  replace HB := hide ((unhide HB).trans (h4.mono (unhide HB).size))
  clear h4
  have HTX := hide hx4
  clear hx4 HCI
  obtain ⟨hs0, hs1, hs2⟩ := (unhide HS).three
  have hst := (unhide HS).lt
  go_wp2_with fail
  clear hs0 hs1 hs2 hst
  obtain ⟨wD, hwD⟩ : ∃ z, z = (w4.alloc (.cells #[.int .i64 xslot, .slice ta XH.length tb, .slice tc XW.length td] 25)) := ⟨_, rfl⟩
  have hbn : Below w4.heap.size w4 wD := by rw [hwD]; exact (Below.refl _ _).alloc (Nat.le_refl _) _
  have HT_ : Hid (Bx wD (w4.heap.size) 25 #[.int .i64 xslot, .slice ta XH.length tb, .slice tc XW.length td]) := by rw [hwD]; exact Bx.made _ _ _
  rw [← hwD]
  clear hwD
  replace HK := hide ((unhide HK).kept hbn)
  replace HL := hide ((unhide HL).kept hbn)
  replace HH := hide ((unhide HH).kept hbn)
  replace HSX := hide ((unhide HSX).kept hbn)
  replace HS := hide ((unhide HS).kept hbn)
  replace HTX := hide ((unhide HTX).kept hbn)
  replace HB := hide ((unhide HB).trans (hbn.mono (unhide HB).size))
  clear hbn
  refine (loLock_same ⟨xslot, XH, XW⟩ _ _ _ _ _ (unhide HTX) (unhide HSX)).mono ?_; rintro e w5 ⟨rfl, h5⟩
  replace HK := hide ((unhide HK).kept h5)
  replace HL := hide ((unhide HL).kept h5)
  replace HH := hide ((unhide HH).kept h5)
  replace HSX := hide ((unhide HSX).kept h5)
  replace HS := hide ((unhide HS).kept h5)
  replace HTX := hide ((unhide HTX).kept h5)
  replace HT_ := hide ((unhide HT_).kept h5)
  replace HB := hide ((unhide HB).trans (h5.mono (unhide HB).size))
  clear h5
  cases C
  ·
    obtain ⟨ht_0, ht_1, ht_2⟩ := (unhide HT_).three
    have ht_t := (unhide HT_).lt
    obtain ⟨hs0, hs1, hs2⟩ := (unhide HS).three
    have hst := (unhide HS).lt
    go_wp2_with fail
    clear ht_0 ht_1 ht_2 ht_t hs0 hs1 hs2 hst
    refine (loLock_same ⟨xslot, XH, XW⟩ _ _ _ _ _ (unhide HTX) (unhide HSX)).mono ?_; rintro e w6 ⟨rfl, h5⟩
    replace HK := hide ((unhide HK).kept h5)
    replace HL := hide ((unhide HL).kept h5)
    replace HH := hide ((unhide HH).kept h5)
    replace HSX := hide ((unhide HSX).kept h5)
    replace HS := hide ((unhide HS).kept h5)
    replace HTX := hide ((unhide HTX).kept h5)
    replace HT_ := hide ((unhide HT_).kept h5)
    replace HB := hide ((unhide HB).trans (h5.mono (unhide HB).size))
    clear h5
    go_wp2_with fail
    go_ret
    exact ⟨rfl, unhide HB⟩
  ·
    obtain ⟨ht_0, ht_1, ht_2⟩ := (unhide HT_).three
    have ht_t := (unhide HT_).lt
    obtain ⟨hh0, hh1, hh2, hh3⟩ := (unhide HH).four
    have hht := (unhide HH).lt
    go_wp2_with fail
    clear ht_0 ht_1 ht_2 ht_t hh0 hh1 hh2 hh3 hht
    refine (unhide HCA _ _ _ (unhide HTX)).mono ?_; rintro e w7 ⟨ya, yb, yc, yd, yr, yt, rfl, hx7, ht7, h7⟩
    replace HK := hide ((unhide HK).kept h7)
    replace HL := hide ((unhide HL).kept h7)
    replace HH := hide ((unhide HH).kept h7)
    replace HSX := hide ((unhide HSX).kept h7)
    replace HS := hide ((unhide HS).kept h7)
    replace HTX := hide ((unhide HTX).kept h7)
    replace HT_ := hide ((unhide HT_).kept h7)
    replace HB := hide ((unhide HB).trans (h7.mono (unhide HB).size))
    clear h7
    have HYX := hide hx7
    have HYT := hide ht7
    clear hx7 ht7 HCA
    go_wp2_with fail
    obtain ⟨wE, hwE⟩ : ∃ z, z = (w7.alloc (.cells #[.int .i64 yslot, .slice ya YH.length yb, .slice yc YW.length yd] 25)) := ⟨_, rfl⟩
    have hbn : Below w7.heap.size w7 wE := by rw [hwE]; exact (Below.refl _ _).alloc (Nat.le_refl _) _
    have HY : Hid (Bx wE (w7.heap.size) 25 #[.int .i64 yslot, .slice ya YH.length yb, .slice yc YW.length yd]) := by rw [hwE]; exact Bx.made _ _ _
    rw [← hwE]
    clear hwE
    replace HK := hide ((unhide HK).kept hbn)
    replace HL := hide ((unhide HL).kept hbn)
    replace HH := hide ((unhide HH).kept hbn)
    replace HSX := hide ((unhide HSX).kept hbn)
    replace HS := hide ((unhide HS).kept hbn)
    replace HTX := hide ((unhide HTX).kept hbn)
    replace HT_ := hide ((unhide HT_).kept hbn)
    replace HYX := hide ((unhide HYX).kept hbn)
    replace HYT := hide ((unhide HYT).kept hbn)
    replace HB := hide ((unhide HB).trans (hbn.mono (unhide HB).size))
    clear hbn
    have HN1 := hide (unhide HM1 (by first | rfl | trivial))
    have HN2 := hide (unhide HM2 (by first | rfl | trivial))
    clear HM1 HM2 HSX HTX HK HS HT_ HH HL
    generalize hN : T.length = N at *
    have HN := hide hN
    clear hN
    generalize hM : YH.length = M at *
    have HM := hide hM
    clear hM
    go_loopw [17] (fun i wr => ∃ k : Nat, k ≤ N ∧ i = .int .i64 k ∧ Below wE.heap.size wE wr) (fun i _ => N - (intOf i).toNat)
    case atStart => exact ⟨0, Nat.zero_le _, rfl, Below.refl _ _⟩
    case round =>
      obtain ⟨k, hk, rfl, hb⟩ := hrel
      have HBR := hide hb
      clear hb
      by_cases hlt : k < N
      ·
        obtain ⟨bt, ot, rfl⟩ := (unhide HYT).some_of (by rw [unhide HN]; omega)
        obtain ⟨d0, d1, d2, d3⟩ := hd_cells ((unhide HYT).kept (unhide HBR)) (i := k) (by rw [unhide HN]; exact hlt)
        have hne := unhide HN1 k hlt
        generalize T.getD k Hd.z = x at *
        have hneb : (x.stamp == s) = false := by simpa using hne
        clear hne
        have ia : (k : Int) < (N : Int) := by omega
        have ib : (0 : Int) ≤ (k : Int) := by omega
        go_wp2_with fail
        go_roundw
        case rel => exact ⟨k + 1, hlt, by go_num, unhide HBR⟩
        case measure => simp [intOf]; omega
      ·
        rename World => wo
        go_wp2_with fail
        go_loopw [18] (fun i wr => ∃ q : Nat, q ≤ M ∧ i = .int .i64 q ∧ Below wE.heap.size wE wr ∧ ∀ j, j < q → ¬ ((YH.getD j Hd.z).stamp = s ∧ (YH.getD j Hd.z).try_ = t ∧ (YH.getD j Hd.z).firm = true)) (fun i _ => M - (intOf i).toNat)
        case atStart => exact ⟨0, Nat.zero_le _, rfl, unhide HBR, fun j hj => by omega⟩
        case round =>
          obtain ⟨q, hq, rfl, hb2, hall⟩ := hrel
          obtain ⟨t0, t1, t2⟩ := ((unhide HY).kept hb2).three
          have HB2 := hide hb2
          have HALL := hide hall
          clear hb2 hall
          by_cases hlt2 : q < M
          ·
            obtain ⟨bx, ox, rfl⟩ := ((unhide HYX).held).some_of (by rw [unhide HM]; omega)
            obtain ⟨f0, f1, f2, f3⟩ := hd_cells (((unhide HYX).held).kept (unhide HB2)) (i := q) (by rw [unhide HM]; exact hlt2)
            generalize hy : YH.getD q Hd.z = y at *
            have HYQ := hide hy
            clear hy
            have iqa : (q : Int) < (M : Int) := by omega
            have iqb : (0 : Int) ≤ (q : Int) := by omega
            by_cases e1 : y.stamp = s
            case neg =>
              have b1 : (y.stamp == s) = false := by simpa using e1
              have HE := hide e1
              clear e1
              go_wp2_with fail
              go_roundw
              case rel =>
                refine ⟨q + 1, hlt2, by go_num, unhide HB2, fun j hj => ?_⟩
                by_cases hjq : j = q
                · rw [hjq, unhide HYQ]; exact fun h => unhide HE h.1
                · exact unhide HALL j (by omega)
              case measure => simp [intOf]; omega
            have b1 : (y.stamp == s) = true := by simpa using e1
            clear e1
            by_cases e2 : y.try_ = t
            case neg =>
              have b2 : (y.try_ == t) = false := by simpa using e2
              have HE := hide e2
              clear e2
              go_wp2_with fail
              go_roundw
              case rel =>
                refine ⟨q + 1, hlt2, by go_num, unhide HB2, fun j hj => ?_⟩
                by_cases hjq : j = q
                · rw [hjq, unhide HYQ]; exact fun h => unhide HE h.2.1
                · exact unhide HALL j (by omega)
              case measure => simp [intOf]; omega
            have b2 : (y.try_ == t) = true := by simpa using e2
            clear e2
            cases e3 : y.firm
            · rw [e3] at f3
              have HE := hide e3
              clear e3
              go_wp2_with fail
              go_roundw
              case rel =>
                refine ⟨q + 1, hlt2, by go_num, unhide HB2, fun j hj => ?_⟩
                by_cases hjq : j = q
                · rw [hjq, unhide HYQ]; exact fun h => by rw [unhide HE] at h; cases h.2.2
                · exact unhide HALL j (by omega)
              case measure => simp [intOf]; omega
            · rw [e3] at f3
              clear e3
              go_wp2_with fail
              go_ret
              exact ⟨rfl, (unhide HB).trans ((unhide HB2).mono (unhide HB).size)⟩
          ·
            exfalso
            obtain ⟨j, hj, h⟩ := unhide HN2
            exact unhide HALL j (by omega) h

end Go.Proofs.Ytoojnhodjkpecaa

namespace Go.Proofs.Ytoojnhodjkpecaa
open Go.ChangeShapes Go.WideShapes Go.ChangeAt Go.RowKit Go.Deep

section
variable {H : Type} {enc : TypeId × Value → H} {P : Program} {w : World} {base : Nat} {spare : Nat → Bool} {held : Bool}

theorem open_bytes {t e : TypeId} {fuel : Nat} {a : Option Addr} {len cap : Nat} {x : DataW H × List MemPlace}
    (ht : P.underlying t = some (.slice e)) (he : P.underlying e = some (.int .u8)) (ce : P.cellsOf e = 1)
    (h : DataW.trod enc P w base spare held fuel t [.slice a len cap] = some x) : ∃ n, BytesAt w (.slice a len cap) n := by
  rcases open_ints ht he ce h with ⟨h0, _⟩ | ⟨ad, l, c, zs, h0, hb, hl, hm, hz, _, hc, hwf⟩
  · simp at h0
    obtain ⟨rfl, rfl, rfl⟩ := h0
    exact ⟨0, none, 0, rfl, by omega, by simp [maxLen], .inl rfl⟩
  · simp at h0
    obtain ⟨rfl, rfl, rfl⟩ := h0
    have hlm : len ≤ zs.length := by rw [hz]; split <;> omega
    refine ⟨len, some ad, cap, rfl, hl, hm, ?_⟩
    by_cases hl0 : len = 0
    · exact .inl hl0
    · right
      obtain ⟨b, off, spot⟩ := ad
      have hspot : spot = none := by
        have := World.cell?_spot (hc 0 (by omega))
        simpa [Addr.add] using this
      subst hspot
      refine ⟨b, off, rfl, fun i => zs.getD i 0, fun i hi => ?_⟩
      have h1 := hc i (by omega)
      rw [add_plain] at h1
      have hw := hwf (zs.getD i 0) (by
        have : zs.getD i 0 = zs[i]'(by omega) := by simp [List.getD, show i < zs.length by omega]
        rw [this]; exact List.getElem_mem _)
      refine ⟨h1, ?_⟩
      show 0 ≤ zs.getD i 0 ∧ zs.getD i 0 ≤ 255
      generalize zs.getD i 0 = z at hw
      simp only [Lit.wf, Bool.and_eq_true, decide_eq_true_eq] at hw
      have e1 : IntKind.u8.min = 0 := by decide
      have e2 : IntKind.u8.max = 255 := by decide
      rw [e1, e2] at hw
      exact hw

end
end Go.Proofs.Ytoojnhodjkpecaa

namespace Go.Proofs.Ytoojnhodjkpecaa
namespace PfLkFirm
open Go.ChangeShapes Go.WideShapes Go.ChangeAt Go.RowKit
open Go.ChangeMaps (open_string shut_string)
set_option linter.unusedVariables false

theorem own : ownKnob Try.prog.godebug = none := by kernel_rfl
theorem laidOut : laidOutB Try.prog = true := by kernel_rfl

set_option maxRecDepth 100000 in
theorem lifted (os : Os) (started : os.Started) (H : Type) (enc : TypeId × Value → H) :
    ReturnsInHanded {} Try.checked os 6 .any (Rows.fnLockFirmSpec.pre6 enc Try.prog Try.f6 Rows.fnLockFirmRow.domain false) (Rows.fnLockFirmSpec.post enc Try.prog Try.f6 false true false false) := by
  refine returnsInHanded_of_change (C := Try.checked) own started (by kernel_rfl) Try.func6
    (ChangeSpec.witness6 (enc := enc) (C := Try.checked) false ⟨#[], #[.slice none 0 0, .slice none 0 0], []⟩ 8 (by kernel_rfl) (by kernel_rfl) (by kernel_rfl) (by kernel_rfl)) ?_
  intro W base args ds gs before hval0 hW hcnd _
  have hval : ∀ (j : Nat) t v, Try.f6.params[j]? = some t → args[j]? = some v → Value.okWide Try.prog W .any base t v := hval0
  have hW' := hW
  obtain ⟨p, q, hA0, hV, rfl, hfz, hnd⟩ := hW
  have hA : DataW.TrodAll enc Try.prog W 0 (fun _ => true) true Try.f6.params.toList args.toList ds p := hA0
  rw [Try.params6] at hA hval
  obtain ⟨v0, vs0, d0, ds0, p0, q0, hargs, rfl, rfl, h0, r0⟩ := trodAll_cons hA
  obtain ⟨v1, vs1, d1, ds1, p1, q1, rfl, rfl, rfl, h1, r1⟩ := trodAll_cons r0
  obtain ⟨rfl, rfl, rfl⟩ := trodAll_nil r1
  obtain rfl : args = #[v0, v1] := by cases args; simp_all
  obtain ⟨rfl, rfl⟩ := trodVars_none hV
  obtain ⟨a0, len0, cap0, rfl⟩ := okWide_slice Try.underlying22 (hval 0 22 v0 rfl rfl)
  have k0 := h0
  have lt0 : ∀ x ∈ p0, x.block < W.heap.size := by obtain ⟨m, hm⟩ := k0; exact DataW.trod_lt m _ _ _ hm
  obtain ⟨x0, w0⟩ : ∃ ss, BytesAt W (.slice a0 len0 cap0) ss := by
    obtain ⟨fuel, hf⟩ := h0
    exact open_bytes Try.underlying22 Try.underlying5 (by kernel_rfl) (by simpa [Value.cells] using hf)
  obtain ⟨a1, len1, cap1, rfl⟩ := okWide_slice Try.underlying22 (hval 1 22 v1 rfl rfl)
  have k1 := h1
  have lt1 : ∀ x ∈ p1, x.block < W.heap.size := by obtain ⟨m, hm⟩ := k1; exact DataW.trod_lt m _ _ _ hm
  obtain ⟨x1, w1⟩ : ∃ ss, BytesAt W (.slice a1 len1 cap1) ss := by
    obtain ⟨fuel, hf⟩ := h1
    exact open_bytes Try.underlying22 Try.underlying5 (by kernel_rfl) (by simpa [Value.cells] using hf)
  clear hA0 hval0
  refine (lawLockFirmD_any _ _ x0 x1 W w0 w1).mono fun e W' ⟨he, bel⟩ => ?_
  subst he
  exact ⟨_, rfl, _, _, _, [], _, [], hW', trodAll_mk1 (shut_bool Try.underlying4 _), (trodAll_cons_mk (Below.trod laidOut (by kernel_rfl) (of_decide_eq_true (by kernel_rfl)) k0 bel lt0) (trodAll_cons_mk (Below.trod laidOut (by kernel_rfl) (of_decide_eq_true (by kernel_rfl)) k1 bel lt1) trodAll_mk0)), rfl, bel.frame _, fun h => by cases h⟩

theorem over : Rows.fnLockFirmRow.holds Try.pinned (OpenSpec.ofChange Rows.fnLockFirmSpec) :=
  OpenClaim.holds_of_wide 6 Try.f6 rfl rfl rfl rfl rfl rfl rfl ⟨rfl, rfl, rfl, rfl, rfl⟩ rfl rfl rfl rfl rfl (by kernel_rfl) Try.func6 (by kernel_rfl)
    (of_decide_eq_true (by kernel_rfl)) (by unfold Func.isWrapper; first | (rw [if_pos (by decide +kernel)]; kernel_rfl) | (rw [if_neg (by decide +kernel)]; exact ⟨rfl, rfl⟩))
    (fun os started H enc _ => lifted os started H enc)

end PfLkFirm

theorem fnLockFirm_holds : Rows.FnLockFirmSaid := PfLkFirm.over
#print axioms fnLockFirm_holds
end Go.Proofs.Ytoojnhodjkpecaa
