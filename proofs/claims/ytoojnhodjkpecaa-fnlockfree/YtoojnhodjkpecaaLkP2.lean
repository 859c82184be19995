/- What stays ok of a lock that is let go of, promised, asked for in a later try: plain mathematics. -/
import Derived.Test.YtoojnhodjkpecaaLkP1
namespace Go.Proofs.Ytoojnhodjkpecaa
open Go.RowKit

/-- What holds of a lock while those who wait are let in, one behind the other. -/
structure FInv (z : Int) (H0 W : List Hd) (k : Nat) (I : Lk) (G : List Hd) : Prop where
  ok : LOk I
  slot : I.slot = z
  heldIn : ∀ y ∈ I.held, y ∈ H0 ∨ y ∈ W.take k
  waitIn : ∀ y ∈ I.waits, y ∈ W.take k
  got : G.Sublist (W.take k)
  stuck : ∀ y ∈ I.waits, (I.held.any (meetB y) || I.waits.any (behindB y)) = true
  len : I.held.length + I.waits.length = H0.length + k

theorem any_more {p : Hd → Bool} {A B : List Hd} (h : ∀ y ∈ A, y ∈ B) (ha : A.any p = true) : B.any p = true := by
  obtain ⟨y, hy, hp⟩ := List.any_eq_true.1 ha
  exact List.any_eq_true.2 ⟨y, h y hy, hp⟩

theorem free_inv2 {l : Lk} (s t : Int) (hk : lockOkB l = true) (k : Nat) (hkl : k ≤ (withoutL l.waits s t).length) : FInv l.slot (withoutL l.held s t) (withoutL l.waits s t) k (freeTo l s t k).1 (freeTo l s t k).2 := by
  have hok := lok_of hk
  have hs1 : (withoutL l.held s t).Sublist l.held := List.filter_sublist
  have hs2 : (withoutL l.waits s t).Sublist l.waits := List.filter_sublist
  induction k with
  | zero =>
    refine ⟨hok.sub hs1 (List.nil_sublist _), rfl, fun y hy => .inl hy, fun y hy => (by cases hy), (by simp [freeTo]), fun y hy => (by cases hy), (by simp [freeTo])⟩
  | succ k ih =>
    have i := ih (by omega)
    have hlt : k < (withoutL l.waits s t).length := by omega
    rw [freeTo_step l s t k hlt]
    have hup : Up (withoutL l.waits s t) := hok.wup.sublist hs2
    have hl1 := hs1.length_le
    have hl2 := hs2.length_le
    have hl3 := hok.len
    have hap : ∀ y ∈ withoutL l.held s t, ∀ z ∈ withoutL l.waits s t, y.stamp ≠ z.stamp := fun y hy z hz => hok.apart y (hs1.subset hy) z (hs2.subset hz)
    have hwok : ∀ z ∈ withoutL l.waits s t, holdOkB z = true ∧ z.firm = false := fun z hz => ⟨hok.wok z (hs2.subset hz), hok.soft z (hs2.subset hz)⟩
    obtain ⟨i1, i2, i3, i4, i5, i6, i7⟩ := i
    clear hs1 hs2 ih
    generalize withoutL l.waits s t = W at *
    generalize withoutL l.held s t = H0 at *
    have htake : W.take (k + 1) = W.take k ++ [W.getD k Hd.z] := by rw [List.take_succ_eq_append_getElem hlt]; simp [List.getD, hlt]
    have hsplit : W = W.take k ++ (W.getD k Hd.z :: W.drop (k + 1)) := by
      have : W.drop k = W.getD k Hd.z :: W.drop (k + 1) := by rw [List.drop_eq_getElem_cons hlt]; simp [List.getD, hlt]
      rw [← this]; exact (List.take_append_drop k W).symm
    have hxin : W.getD k Hd.z ∈ W := getD_in hlt
    have hlow : ∀ y ∈ W.take k, y.stamp < (W.getD k Hd.z).stamp := fun y hy => by
      have hp : Up (W.take k ++ (W.getD k Hd.z :: W.drop (k + 1))) := by rw [← hsplit]; exact hup
      exact (List.pairwise_append.1 hp).2.2 y hy _ (by simp)
    have hmt : ∀ y ∈ W.take k, y ∈ W := fun y hy => List.mem_of_mem_take hy
    generalize W.getD k Hd.z = x at *
    generalize freeTo l s t k = I at *
    obtain ⟨⟨si, Ih, Iw⟩, Ig⟩ := I
    simp only at i1 i2 i3 i4 i5 i6 i7 ⊢
    have n1 : ∀ y ∈ Ih, y.stamp ≠ x.stamp := fun y hy => by
      rcases i3 y hy with h | h
      · exact hap y h x hxin
      · have := hlow y h; omega
    have n2 : ∀ y ∈ Iw, y.stamp < x.stamp := fun y hy => hlow y (i4 y hy)
    have hl := i1.letIn (x := x) (hwok x hxin).1 (hwok x hxin).2 n1 (fun y hy => by have := n2 y hy; omega) (by simp only at hl1 hl2 ⊢; omega)
    cases hc : (Ih.any (meetB x) || Iw.any (behindB x))
    · have hI : freeStepI (⟨si, Ih, Iw⟩, Ig) x = (⟨si, putI Ih x, Iw⟩, Ig ++ [x]) := by simp [freeStepI, letInL, letInC, hc]
      have hL : letInL ⟨si, Ih, Iw⟩ x = ⟨si, putI Ih x, Iw⟩ := by simp [letInL, hc]
      rw [hL] at hl
      rw [hI]
      refine ⟨hl, i2, fun y hy => ?_, fun y hy => ?_, ?_, fun y hy => ?_, ?_⟩
      · simp only at hy
        rw [putI_insR n1] at hy
        rw [htake]
        rcases mem_insR hy with rfl | hy
        · exact .inr (by simp)
        · rcases i3 y hy with h | h
          · exact .inl h
          · exact .inr (by simp [h])
      · rw [htake]; simp [i4 y hy]
      · rw [htake]; exact i5.append (List.Sublist.refl _)
      · have h0 := i6 y hy
        simp only [Bool.or_eq_true] at h0 ⊢
        rcases h0 with h0 | h0
        · left
          rw [putI_insR n1]
          exact any_more (fun z hz => in_insR (.inr hz)) h0
        · exact .inr h0
      · simp only [putI, insAt_length]; omega
    · have hI : freeStepI (⟨si, Ih, Iw⟩, Ig) x = (⟨si, Ih, putI Iw x⟩, Ig) := by simp [freeStepI, letInL, letInC, hc]
      have hL : letInL ⟨si, Ih, Iw⟩ x = ⟨si, Ih, putI Iw x⟩ := by simp [letInL, hc]
      rw [hL] at hl
      rw [hI]
      rw [putI_end n2] at hl ⊢
      refine ⟨hl, i2, fun y hy => ?_, fun y hy => ?_, ?_, fun y hy => ?_, ?_⟩
      · rw [htake]
        rcases i3 y hy with h | h
        · exact .inl h
        · exact .inr (by simp [h])
      · rw [htake]
        simp only [List.mem_append, List.mem_singleton] at hy ⊢
        rcases hy with hy | hy
        · exact .inl (i4 y hy)
        · exact .inr hy
      · rw [htake]; exact i5.trans (List.sublist_append_left _ _)
      · simp only [List.mem_append, List.mem_singleton] at hy
        rw [List.any_append]
        rcases hy with hy | rfl
        · have h0 := i6 y hy
          simp only [Bool.or_eq_true] at h0 ⊢
          rcases h0 with h0 | h0
          · exact .inl h0
          · exact .inr (.inl h0)
        · simp only [Bool.or_eq_true] at hc ⊢
          rcases hc with h0 | h0
          · exact .inl h0
          · exact .inr (.inl h0)
      · simp only [List.length_append, List.length_singleton]; omega

theorem free_all {l : Lk} (s t : Int) (hk : lockOkB l = true) : FInv l.slot (withoutL l.held s t) (withoutL l.waits s t) (withoutL l.waits s t).length (freeL l s t) (freeG l s t) := by
  have h := free_inv2 s t hk _ (Nat.le_refl _)
  have e1 : freeL l s t = (freeTo l s t (withoutL l.waits s t).length).1 := by simp [freeL, hk]
  have e2 : freeG l s t = (freeTo l s t (withoutL l.waits s t).length).2 := by simp [freeG, hk]
  rw [e1, e2]; exact h

theorem free_ok {l : Lk} (s t : Int) (hk : lockOkB l = true) : LOk (freeL l s t) := (free_all s t hk).ok

theorem keep_not {s t : Int} {y : Hd} (h : keepB s t y = true) : ¬ (y.stamp = s ∧ y.try_ ≤ t) := by
  rintro ⟨h1, h2⟩
  have : (y.stamp != s) = false := by simpa using h1
  simp [keepB, this] at h
  omega

theorem free_held {l : Lk} {s t : Int} (hk : lockOkB l = true) {y : Hd} (hy : y ∈ (freeL l s t).held) : keepB s t y = true := by
  rcases (free_all s t hk).heldIn y hy with h | h
  · exact (List.mem_filter.1 h).2
  · exact (List.mem_filter.1 (List.mem_of_mem_take h)).2
theorem free_waits {l : Lk} {s t : Int} (hk : lockOkB l = true) {y : Hd} (hy : y ∈ (freeL l s t).waits) : keepB s t y = true :=
  (List.mem_filter.1 (List.mem_of_mem_take ((free_all s t hk).waitIn y hy))).2

theorem free_got {l : Lk} {s t : Int} (hk : lockOkB l = true) : (∀ y ∈ freeG l s t, y ∈ l.waits) ∧ Up (freeG l s t) := by
  have h := (free_all s t hk).got
  have h2 : (freeG l s t).Sublist l.waits := (h.trans (List.take_sublist _ _)).trans List.filter_sublist
  exact ⟨fun y hy => h2.subset hy, (lok_of hk).wup.sublist h2⟩

/-- Who lets go twice. -/
theorem free_twice {l : Lk} (s t : Int) (hk : lockOkB l = true) : freeL (freeL l s t) s t = freeL l s t ∧ freeG (freeL l s t) s t = [] := by
  have hf := free_all s t hk
  have hok := hf.ok
  have k1 : withoutL (freeL l s t).held s t = (freeL l s t).held := filter_all (fun y hy => free_held hk hy)
  have k2 : withoutL (freeL l s t).waits s t = (freeL l s t).waits := filter_all (fun y hy => free_waits hk hy)
  have hst := hf.stuck
  generalize freeL l s t = L at *
  have gen : ∀ k, k ≤ L.waits.length → freeTo L s t k = (⟨L.slot, L.held, L.waits.take k⟩, []) := by
    intro k
    induction k with
    | zero => intro _; simp [freeTo, k1]
    | succ k ih =>
      intro hkl
      have hlt : k < L.waits.length := by omega
      rw [freeTo_step L s t k (by rw [k2]; omega), k2, ih (by omega)]
      have htake : L.waits.take (k + 1) = L.waits.take k ++ [L.waits.getD k Hd.z] := by rw [List.take_succ_eq_append_getElem hlt]; simp [List.getD, hlt]
      have hsplit : L.waits = L.waits.take k ++ (L.waits.getD k Hd.z :: L.waits.drop (k + 1)) := by
        have : L.waits.drop k = L.waits.getD k Hd.z :: L.waits.drop (k + 1) := by rw [List.drop_eq_getElem_cons hlt]; simp [List.getD, hlt]
        rw [← this]; exact (List.take_append_drop k L.waits).symm
      have hp : Up (L.waits.take k ++ (L.waits.getD k Hd.z :: L.waits.drop (k + 1))) := by rw [← hsplit]; exact hok.wup
      have hlow : ∀ y ∈ L.waits.take k, y.stamp < (L.waits.getD k Hd.z).stamp := fun y hy => (List.pairwise_append.1 hp).2.2 y hy _ (by simp)
      have hhigh : ∀ y ∈ L.waits.drop (k + 1), (L.waits.getD k Hd.z).stamp < y.stamp := (List.pairwise_cons.1 (List.pairwise_append.1 hp).2.1).1
      have hx := hst _ (getD_in hlt)
      have hc : (L.held.any (meetB (L.waits.getD k Hd.z)) || (L.waits.take k).any (behindB (L.waits.getD k Hd.z))) = true := by
        simp only [Bool.or_eq_true] at hx ⊢
        rcases hx with hx | hx
        · exact .inl hx
        · right
          obtain ⟨y, hy, hb⟩ := List.any_eq_true.1 hx
          refine List.any_eq_true.2 ⟨y, ?_, hb⟩
          have hlt2 : y.stamp < (L.waits.getD k Hd.z).stamp := by
            simp only [behindB, Bool.and_eq_true, decide_eq_true_eq] at hb; exact hb.2
          rw [hsplit] at hy
          simp only [List.mem_append, List.mem_cons] at hy
          rcases hy with hy | hy | hy
          · exact hy
          · rw [hy] at hlt2; omega
          · have := hhigh y hy; omega
      rw [htake]
      simp only [freeStepI, letInL, letInC, hc, if_true, Bool.not_true, Bool.false_eq_true, if_false, putI_end hlow]
  have h := gen L.waits.length (Nat.le_refl _)
  rw [List.take_of_length_le (Nat.le_refl _)] at h
  refine ⟨?_, ?_⟩
  · simp only [freeL, hok.ok, if_true, k2, h]
  · simp only [freeG, hok.ok, if_true, k2, h]

/-- A promise: the lock stays ok, and the hold is there. -/
theorem firm_ok {l : Lk} {s t : Int} (hc : firmC l s t = true) : LOk (firmL l s t) ∧ ∃ x ∈ (firmL l s t).held, x.stamp = s ∧ x.try_ = t ∧ x.firm = true := by
  simp only [firmC, Bool.and_eq_true, decide_eq_true_eq] at hc
  obtain ⟨hk, h0⟩ := hc
  have hok := lok_of hk
  rcases idxL_cases (fun h => h.stamp == s && h.try_ == t) l.held with ⟨e, -⟩ | ⟨k, hkl, e, hp, -⟩
  · unfold firmAt at h0; rw [e] at h0; omega
  · obtain ⟨f1, -⟩ := firm_at hk (k := k) e
    rw [f1]
    simp only [Bool.and_eq_true, beq_iff_eq] at hp
    have hgx : l.held.getD k Hd.z = l.held[k] := by simp [List.getD, hkl]
    have hst : ∀ i (hi : i < (setFirm l.held k).length), ((setFirm l.held k)[i]).stamp = (l.held[i]'(by simpa [setFirm] using hi)).stamp ∧ ((setFirm l.held k)[i]).share = (l.held[i]'(by simpa [setFirm] using hi)).share ∧ ((setFirm l.held k)[i]).try_ = (l.held[i]'(by simpa [setFirm] using hi)).try_ := fun i hi => by
      simp only [setFirm, List.getElem_set]
      split
      · rename_i hik; subst hik; exact ⟨show (l.held.getD k Hd.z).stamp = _ from congrArg Hd.stamp hgx, show (l.held.getD k Hd.z).share = _ from congrArg Hd.share hgx, show (l.held.getD k Hd.z).try_ = _ from congrArg Hd.try_ hgx⟩
      · exact ⟨rfl, rfl, rfl⟩
    have hlen : (setFirm l.held k).length = l.held.length := by simp [setFirm]
    have hmem : ∀ x ∈ setFirm l.held k, ∃ y ∈ l.held, x.stamp = y.stamp ∧ x.share = y.share ∧ x.try_ = y.try_ := fun x hx => by
      obtain ⟨i, hi, rfl⟩ := List.getElem_of_mem hx
      exact ⟨_, List.getElem_mem (by simpa [setFirm] using hi), hst i hi⟩
    refine ⟨⟨hok.slot, by simp only [hlen]; exact hok.len, fun x hx => ?_, hok.wok, ?_, hok.wup, fun x hx y hy => ?_, hok.soft, fun x hx y hy => ?_⟩, (setFirm l.held k)[k]'(by rw [hlen]; exact hkl), List.getElem_mem _, ?_⟩
    · obtain ⟨y, hy, a, b, c⟩ := hmem x hx
      have := hok.hok y hy
      simpa [holdOkB, a, c] using this
    · rw [Up, List.pairwise_iff_getElem]
      intro i j hi hj hij
      rw [(hst i hi).1, (hst j hj).1]
      exact (List.pairwise_iff_getElem.1 hok.hup) i j _ _ hij
    · obtain ⟨x', hx', a, b, -⟩ := hmem x hx
      obtain ⟨y', hy', a', b', -⟩ := hmem y hy
      have := hok.meet x' hx' y' hy'
      simpa [meetB, a, b, a', b'] using this
    · obtain ⟨x', hx', a, -, -⟩ := hmem x hx
      rw [a]; exact hok.apart x' hx' y hy
    · have := hst k (by rw [hlen]; exact hkl)
      rw [hgx] at hp
      exact ⟨this.1.trans hp.1, this.2.2.trans hp.2, by simp [setFirm]⟩

/-- What is promised is never taken. -/
theorem firm_kept {l : Lk} {h x : Hd} (hok : LOk l) (hx : x ∈ l.held) (hf : x.firm = true) : (∀ y ∈ askT l h, y.stamp ≠ x.stamp) ∧ x ∈ (askL l h).held := by
  have hk := hok.ok
  refine ⟨fun y hy e => ?_, ?_⟩
  · obtain ⟨h1, -, h3, -⟩ := ask_taken hk hy
    have := up_same hok.hup h3 hx e
    subst this
    rw [hf] at h1; cases h1
  · rcases ask_ways l h hk with ⟨e, -, -⟩ | ⟨hb, hs, hfu, e, -, -⟩
    · rw [e]; exact hx
    · rw [e]
      have k := lets_of hk hb hs hfu
      have hne : x.stamp ≠ h.stamp := fun es => by
        have := (stands_held hok hx es).1
        rw [hs, hf] at this; simp at this
      refine held_letIn k.h1 (List.mem_filter.2 ⟨List.mem_filter.2 ⟨hx, keep_other hne⟩, ?_⟩)
      simp [takesB, hf]

theorem one_of {L : List Hd} {s : Int} (hp : L.Pairwise (fun a b => a.stamp ≠ b.stamp)) {x : Hd} (hx : x ∈ L) (e : x.stamp = s) : (L.filter (fun y => y.stamp == s)).length = 1 := by
  induction L with
  | nil => cases hx
  | cons y r ih =>
    obtain ⟨h1, h2⟩ := List.pairwise_cons.1 hp
    by_cases hy : y.stamp = s
    · have h0 : r.filter (fun y => y.stamp == s) = [] := filter_none (fun z hz => by have := h1 z hz; simp; omega)
      rw [List.filter_cons]
      simp [hy, h0]
    · have hxr : x ∈ r := by
        simp only [List.mem_cons] at hx
        rcases hx with rfl | hx
        · exact absurd e hy
        · exact hx
      rw [List.filter_cons]
      simp only [show (y.stamp == s) = false by simpa using hy, Bool.false_eq_true, if_false]
      exact ih h2 hxr

theorem all_apart {l : Lk} (h : LOk l) : (l.held ++ l.waits).Pairwise (fun a b => a.stamp ≠ b.stamp) := by
  rw [List.pairwise_append]
  exact ⟨h.hup.imp (fun h => by omega), h.wup.imp (fun h => by omega), h.apart⟩

/-- A later try stands instead of an elder one. -/
theorem ask_try {l : Lk} {h : Hd} (hk : lockOkB l = true) (hb : badB h = false) (hl : l.held.length + l.waits.length < 16) :
    (((askL l h).held ++ (askL l h).waits).filter (fun y => y.stamp == h.stamp)).length = 1 ∨ (∃ x ∈ l.held, x.stamp = h.stamp ∧ x.firm = true) := by
  have hok := ask_ok h hk
  have hap := all_apart hok
  rcases ask_ways l h hk with ⟨e, -, h3⟩ | ⟨-, hs, hf, e, -, -⟩
  · rw [e] at hap ⊢
    have hok' := lok_of hk
    rcases h3 with h3 | h3 | h3
    · rw [hb] at h3; cases h3
    · left
      unfold standsB at h3
      rcases idxL_cases (sameB h) l.held with ⟨i1, -⟩ | ⟨k, hkl, i1, i2, -⟩
      · rw [i1] at h3
        simp only [show ¬ ((0 : Int) ≤ -1) by omega, if_false] at h3
        rcases idxL_cases (sameB h) l.waits with ⟨j1, -⟩ | ⟨k, hkl, j1, j2, -⟩
        · rw [j1] at h3; simp at h3
        · exact one_of hap (x := l.waits.getD k Hd.z) (by simp only [List.mem_append]; exact .inr (getD_in hkl)) (by simp only [sameB, beq_iff_eq] at j2; exact j2.symm)
      · exact one_of hap (x := l.held.getD k Hd.z) (by simp only [List.mem_append]; exact .inl (getD_in hkl)) (by simp only [sameB, beq_iff_eq] at i2; exact i2.symm)
    · have e1 := (rest_sub l h).1.length_le
      have e2 := (rest_sub l h).2.length_le
      simp only [fullB, decide_eq_true_eq] at h3; omega
  · left
    have k := lets_of hk hb hs hf
    refine one_of hap (x := h) ?_ rfl
    rw [e]
    unfold letInL
    rw [putI_insR k.h1, putI_insR k.h2]
    simp only [List.mem_append]
    split
    · exact .inr (in_insR (.inl rfl))
    · exact .inl (in_insR (.inl rfl))

theorem ask_try_ge {l : Lk} {h : Hd} (hk : lockOkB l = true) (hb : badB h = false) (hl : l.held.length + l.waits.length < 16) (hn : ∀ x ∈ l.held, x.stamp = h.stamp → x.firm = false) :
    ∀ y ∈ (askL l h).held ++ (askL l h).waits, y.stamp = h.stamp → h.try_ ≤ y.try_ := by
  intro y hy es
  have hok' := lok_of hk
  rcases ask_ways l h hk with ⟨e, -, h3⟩ | ⟨-, hs, hf, e, -, -⟩
  · rw [e] at hy
    rcases h3 with h3 | h3 | h3
    · rw [hb] at h3; cases h3
    · simp only [List.mem_append] at hy
      rcases hy with hy | hy
      · have := (stands_held hok' hy es).1
        rw [h3, hn y hy es] at this
        simpa using this.symm
      · have hno : ∀ z ∈ l.held, z.stamp ≠ h.stamp := fun z hz e2 => hok'.apart z hz y hy (by rw [e2, es])
        unfold standsB at h3
        rw [idx_no hno] at h3
        simp only [show ¬ ((0 : Int) ≤ -1) by omega, if_false] at h3
        obtain ⟨k, k1, k2⟩ := idx_of hok'.wup hy es
        rw [k1] at h3
        simp only [Int.toNat_natCast, k2, Bool.and_eq_true, decide_eq_true_eq] at h3
        omega
    · have e1 := (rest_sub l h).1.length_le
      have e2 := (rest_sub l h).2.length_le
      simp only [fullB, decide_eq_true_eq] at h3; omega
  · have k := lets_of hk hb hs hf
    rw [e] at hy
    unfold letInL at hy
    rw [putI_insR k.h1, putI_insR k.h2] at hy
    simp only [List.mem_append] at hy
    split at hy
    · rcases hy with hy | hy
      · exact absurd es (k.h1 y hy)
      · rcases mem_insR hy with rfl | hy
        · exact Int.le_refl _
        · exact absurd es (k.h2 y hy)
    · rcases hy with hy | hy
      · rcases mem_insR hy with rfl | hy
        · exact Int.le_refl _
        · exact absurd es (k.h1 y hy)
      · exact absurd es (k.h2 y hy)

/-- One who has promised stays. -/
theorem ask_firm_same {l : Lk} {h x : Hd} (hk : lockOkB l = true) (hx : x ∈ l.held) (e : x.stamp = h.stamp) (hf : x.firm = true) : askL l h = l := by
  have hs : standsB l h = true := by rw [(stands_held (lok_of hk) hx e).1, hf]; rfl
  cases hb : badB h
  · exact (ask_stands hk hb hs).1
  · exact (ask_bad hk hb).1

end Go.Proofs.Ytoojnhodjkpecaa
