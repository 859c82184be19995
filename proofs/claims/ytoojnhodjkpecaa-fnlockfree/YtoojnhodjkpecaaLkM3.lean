/- Both ask for a lock alike: plain mathematics. -/
import Derived.Test.YtoojnhodjkpecaaLkSH
namespace Go.Proofs.Ytoojnhodjkpecaa
open Go.RowKit

theorem same_eq (h x : Hd) : sameB h x = (x.stamp == h.stamp) := by
  simp only [sameB]
  by_cases e : h.stamp = x.stamp
  · rw [e]
  · have e' : x.stamp ≠ h.stamp := fun k => e k.symm
    rw [(by simpa using e : (h.stamp == x.stamp) = false), (by simpa using e' : (x.stamp == h.stamp) = false)]
theorem idx_at (h : Hd) (hs : List Hd) : idxL (sameB h) hs = atL hs h.stamp := by
  have : sameB h = (fun x : Hd => x.stamp == h.stamp) := funext (same_eq h)
  unfold idxL atL
  rw [this]
  cases hs.findIdx? (fun x : Hd => x.stamp == h.stamp) <;> rfl
theorem takes_eq (h : Hd) : takesS h = takesB h := by
  funext x
  unfold takesS takesB
  rw [meetB_comm x h]
  cases meetB h x <;> cases x.firm <;> cases decide (h.stamp < x.stamp) <;> rfl
theorem rest_eq (l : Lk) (h : Hd) : sRest l h = askRest l h := by unfold sRest askRest; rw [takes_eq]
theorem gone_eq (l : Lk) (h : Hd) : sGone l h = askGone l h := by unfold sGone askGone; rw [takes_eq]
theorem full_eq (l : Lk) (h : Hd) : sFull l h = fullB l h := by
  unfold sFull fullB
  rw [rest_eq, decide_eq_decide]
  omega

/-- Who stands in held does not wait. -/
theorem stands_eq {l : Lk} {h : Hd} (hk : lockOkB l = true) : (sHeld l h || sWait l h) = standsB l h ∧ (sHeld l h = true → sSame l h = standsH l h) ∧ (sHeld l h = false → standsB l h = true → standsH l h = false) := by
  unfold sHeld sWait standsB standsH sSame
  rw [idx_at, idx_at]
  rcases atL_cases l.held h.stamp with ⟨h1, _⟩ | ⟨i, hi, h1, h2, _⟩
  · rw [h1]; simp
  · have hw : atL l.waits h.stamp = -1 := atL_none (fun j hj e => by
      have := held_waits hk (l.held.getD i Hd.z) (by simp [List.getD, hi]) (l.waits.getD j Hd.z) (by simp [List.getD, hj])
      exact this (h2.trans e.symm))
    rw [h1, hw]
    have e0 : (0 : Int) ≤ (i : Int) := by omega
    simp only [e0, if_true, decide_true, Bool.true_and, Int.toNat_natCast]
    refine ⟨by simp, fun _ => trivial, fun a b => ?_⟩
    rw [a] at b; cases b

theorem without_ne {hs : List Hd} {s t : Int} (h : ∀ y ∈ hs, y.stamp = s → y.try_ ≤ t) : ∀ y ∈ withoutL hs s t, y.stamp ≠ s := fun y hy e => by
  have hy' := List.mem_filter.1 hy
  have h1 := h y hy'.1 e
  have h2 := hy'.2
  have : (y.stamp != s) = false := by simpa using e
  simp [keepB, this] at h2
  omega

theorem not_stands {l : Lk} {h : Hd} (hk : lockOkB l = true) (hs : standsB l h = false) : (∀ y ∈ l.held, y.stamp = h.stamp → y.try_ ≤ h.try_) ∧ (∀ y ∈ l.waits, y.stamp = h.stamp → y.try_ ≤ h.try_) := by
  obtain ⟨-, -, hho, hwo, -, -⟩ := lockOk_parts hk
  have hall : ∀ (L : List Hd) (ha : ascB L = true) (i : Nat), i < L.length → (L.getD i Hd.z).stamp = h.stamp → ∀ y ∈ L, y.stamp = h.stamp → y = L.getD i Hd.z := fun L ha i hi hst y hy e => by
    obtain ⟨j, hj, rfl⟩ := List.getElem_of_mem hy
    by_cases hij : j = i
    · subst hij; simp [List.getD, hj]
    · have := asc_ne ha hj hi hij
      rw [hst] at this
      exact absurd (by simpa [List.getD, hj] using e) this
  unfold standsB at hs
  rw [idx_at, idx_at] at hs
  rcases atL_cases l.held h.stamp with ⟨h1, hn⟩ | ⟨i, hi, h1, h2, _⟩
  · rw [h1] at hs
    simp only [show ¬ ((0 : Int) ≤ -1) by omega, if_false] at hs
    refine ⟨fun y hy e => ?_, fun y hy e => ?_⟩
    · obtain ⟨j, hj, rfl⟩ := List.getElem_of_mem hy
      exact absurd (by simpa [List.getD, hj] using e) (hn j hj)
    · rcases atL_cases l.waits h.stamp with ⟨h3, hn3⟩ | ⟨k, hk', h3, h4, _⟩
      · obtain ⟨j, hj, rfl⟩ := List.getElem_of_mem hy
        exact absurd (by simpa [List.getD, hj] using e) (hn3 j hj)
      · rw [h3] at hs
        have e0 : (0 : Int) ≤ (k : Int) := by omega
        simp only [e0, decide_true, Bool.true_and, Int.toNat_natCast, decide_eq_false_iff_not] at hs
        rw [hall l.waits (asc_of_holds hwo) k hk' h4 y hy e]
        omega
  · rw [h1] at hs
    have e0 : (0 : Int) ≤ (i : Int) := by omega
    simp only [e0, if_true, Int.toNat_natCast, Bool.or_eq_false_iff, decide_eq_false_iff_not] at hs
    refine ⟨fun y hy e => ?_, fun y hy e => ?_⟩
    · rw [hall l.held (asc_of_holds hho) i hi h2 y hy e]; omega
    · have := held_waits hk (l.held.getD i Hd.z) (by simp [List.getD, hi]) y hy
      exact absurd (h2.trans e.symm) this

theorem in_eq {l : Lk} {h : Hd} (hk : lockOkB l = true) (hs : standsB l h = false) : sIn l h = letInL (askRest l h) h ∧ mayB (askRest l h) h = letInC (askRest l h) h := by
  obtain ⟨n1, n2⟩ := not_stands hk hs
  have m1 := without_ne n1
  have m2 := without_ne n2
  have hm : mayB (askRest l h) h = !((askRest l h).held.any (meetB h) || (askRest l h).waits.any (behindB h)) := by
    have := may_letIn (slot := (askRest l h).slot) (held := (askRest l h).held) (waits := (askRest l h).waits) (rest := []) (x := h) (by simp)
    rw [List.append_nil] at this
    exact this
  have p1 : putI (askRest l h).held h = putL (askRest l h).held h := putI_putL (fun y hy => m1 y (List.mem_filter.1 hy).1)
  have p2 : putI (askRest l h).waits h = putL (askRest l h).waits h := putI_putL m2
  refine ⟨?_, hm⟩
  unfold sIn letInL
  rw [rest_eq, hm, p1, p2]
  have hsl : (askRest l h).slot = l.slot := rfl
  cases (askRest l h).held.any (meetB h) || (askRest l h).waits.any (behindB h)
  · simp [hsl]
  · simp [hsl]

theorem ask_eq (l : Lk) (h : Hd) : askL l h = askSL l h ∧ askC l h = askSC l h ∧ askT l h = askST l h := by
  cases hk : lockOkB l
  · rw [(ask_no hk).1, (ask_no hk).2.1, (ask_no hk).2.2, (sask_no hk).1, (sask_no hk).2.1, (sask_no hk).2.2]; exact ⟨rfl, rfl, rfl⟩
  cases hb : badB h
  case true => rw [(ask_bad hk hb).1, (ask_bad hk hb).2.1, (ask_bad hk hb).2.2, (sask_bad hk hb).1, (sask_bad hk hb).2.1, (sask_bad hk hb).2.2]; exact ⟨rfl, rfl, rfl⟩
  obtain ⟨e1, e2, e3⟩ := stands_eq (h := h) hk
  cases hst : standsB l h
  case true =>
    rw [(ask_stands hk hb hst).1, (ask_stands hk hb hst).2.1, (ask_stands hk hb hst).2.2]
    cases hh : sHeld l h
    · have hw : sWait l h = true := by rw [hh, hst] at e1; simpa using e1
      rw [(sask_wait hk hb hh hw).1, (sask_wait hk hb hh hw).2.1, (sask_wait hk hb hh hw).2.2, e3 hh hst]; exact ⟨rfl, rfl, rfl⟩
    · rw [(sask_held hk hb hh).1, (sask_held hk hb hh).2.1, (sask_held hk hb hh).2.2, e2 hh]; exact ⟨rfl, rfl, rfl⟩
  have hh : sHeld l h = false ∧ sWait l h = false := by rw [hst] at e1; simpa using e1
  cases hf : fullB l h
  case true =>
    have hf' : sFull l h = true := by rw [full_eq]; exact hf
    rw [(ask_full hk hb hst hf).1, (ask_full hk hb hst hf).2.1, (ask_full hk hb hst hf).2.2, (sask_full hk hb hh.1 hh.2 hf').1, (sask_full hk hb hh.1 hh.2 hf').2.1, (sask_full hk hb hh.1 hh.2 hf').2.2]; exact ⟨rfl, rfl, rfl⟩
  have hf' : sFull l h = false := by rw [full_eq]; exact hf
  rw [(ask_let hk hb hst hf).1, (ask_let hk hb hst hf).2.1, (ask_let hk hb hst hf).2.2, (sask_in hk hb hh.1 hh.2 hf').1, (sask_in hk hb hh.1 hh.2 hf').2.1, (sask_in hk hb hh.1 hh.2 hf').2.2, (in_eq hk hst).1, rest_eq, (in_eq hk hst).2, gone_eq]
  exact ⟨rfl, rfl, rfl⟩

theorem specAskI_any (l : Lk) (a b : Value) (h : Hd) (w : World) (hv : LkAt w l a b) (hn : l.held.length ≤ 1048576) (hm : l.waits.length ≤ 1048576) :
    Calls Try.prog 16 #[lkV l a b, hdV h] w fun e w' => ∃ a' b' r, e = .returned (.tuple #[lkV (askL l h) a' b', .bool (askC l h), r]) ∧ OwnLk w' w.heap.size (askL l h) a' b' ∧ (OwnR w' w.heap.size (askT l h) r ∧ (r.ownBlock = none ∨ r.ownBlock ≠ a'.ownBlock) ∧ (r.ownBlock = none ∨ r.ownBlock ≠ b'.ownBlock)) ∧ Below w.heap.size w w' := by
  rw [(ask_eq l h).1, (ask_eq l h).2.1, (ask_eq l h).2.2]
  exact specAsk_any l a b h w hv hn hm

end Go.Proofs.Ytoojnhodjkpecaa
