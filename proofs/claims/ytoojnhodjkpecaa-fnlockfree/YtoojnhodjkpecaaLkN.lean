/- Locks of one's own, and a lock made firm: plain mathematics and memory. -/
import Derived.Test.YtoojnhodjkpecaaLkM1
import Derived.Test.YtoojnhodjkpecaaLkI6
import Derived.Test.YtoojnhodjkpecaaHkC
import Derived.Laws.OwnMore
namespace Go.Proofs.Ytoojnhodjkpecaa
open Go.RowKit

/-- A lock whose rows the call owns, each for itself. -/
structure OwnLk (w : World) (base : Nat) (l : Lk) (a b : Value) : Prop where
  held : w.ownsRow base 27 4 a l.held.length (l.held.flatMap hdE)
  waits : w.ownsRow base 27 4 b l.waits.length (l.waits.flatMap hdE)
  ne : a.ownBlock = none ∨ a.ownBlock ≠ b.ownBlock

section
variable {w w' : World} {base : Nat} {l : Lk} {a b : Value}
theorem OwnLk.at (h : OwnLk w base l a b) : LkAt w l a b := ⟨RowAt.of_own h.held, RowAt.of_own h.waits⟩
theorem OwnLk.kept (h : OwnLk w base l a b) (hb : Below w.heap.size w w') : OwnLk w' base l a b := ⟨ownsRow_below h.held hb, ownsRow_below h.waits hb, h.ne⟩
theorem OwnLk.low {base' : Nat} (h : OwnLk w base l a b) (hb : base' ≤ base) : OwnLk w base' l a b := ⟨ownsRow_base h.held hb, ownsRow_base h.waits hb, h.ne⟩
theorem OwnLk.zero (w : World) (base : Nat) : OwnLk w base ⟨0, [], []⟩ (.slice none 0 0) (.slice none 0 0) := ⟨World.ownsRow_nil _ _ _ _, World.ownsRow_nil _ _ _ _, .inl rfl⟩
theorem OwnLk.set (h : OwnLk w base l a b) {g : Nat} (hg : g < base) (j : Nat) (u : Value) : OwnLk (w.setCell ⟨g, j, none⟩ u) base l a b :=
  ⟨ownsRow_setCell_other h.held (fun e => by have := (h.held.lt _ e).1; omega), ownsRow_setCell_other h.waits (fun e => by have := (h.waits.lt _ e).1; omega), h.ne⟩
theorem OwnLk.alloc (h : OwnLk w base l a b) (o : Obj) : OwnLk (w.alloc o) base l a b := h.kept ((Below.refl _ _).alloc (Nat.le_refl _) o)
theorem OwnLk.shape (h : OwnLk w base l a b) : ∃ a0 c0 a1 c1, a = .slice a0 l.held.length c0 ∧ b = .slice a1 l.waits.length c1 := by
  obtain ⟨a0, c0, rfl, -⟩ := h.at.held.shape
  obtain ⟨a1, c1, rfl, -⟩ := h.at.waits.shape
  exact ⟨a0, c0, a1, c1, rfl, rfl⟩
end

theorem flat_set_firm (H : List Hd) (i : Nat) (x : Hd) (hx : H.getD i Hd.z = x) (hi : i < H.length) :
    (H.flatMap hdE).set (i * 4 + 3) (.bool true) = (H.set i ⟨x.stamp, x.try_, x.share, true⟩).flatMap hdE := by
  induction H generalizing i with
  | nil => simp at hi
  | cons y r ih =>
    cases i with
    | zero => simp at hx; subst hx; simp [hdE]
    | succ i =>
      have := ih i (by simpa using hx) (by simpa using hi)
      rw [List.flatMap_cons, show (i + 1) * 4 + 3 = (hdE y).length + (i * 4 + 3) from by simp [hdE]; omega, List.set_append_right _ _ (by omega), Nat.add_sub_cancel_left, this]
      simp

/-- Where a stamp's try is held. -/
def firmAt (H : List Hd) (s t : Int) : Int := idxL (fun h => h.stamp == s && h.try_ == t) H
def setFirm (H : List Hd) (i : Nat) : List Hd := H.set i ⟨(H.getD i Hd.z).stamp, (H.getD i Hd.z).try_, (H.getD i Hd.z).share, true⟩
def firmL (l : Lk) (s t : Int) : Lk := if lockOkB l = true then (if 0 ≤ firmAt l.held s t then ⟨l.slot, setFirm l.held (firmAt l.held s t).toNat, l.waits⟩ else l) else ⟨0, [], []⟩
def firmC (l : Lk) (s t : Int) : Bool := lockOkB l && decide (0 ≤ firmAt l.held s t)

theorem firm_no {l : Lk} {s t : Int} (h : lockOkB l = false) : firmL l s t = ⟨0, [], []⟩ ∧ firmC l s t = false := by simp [firmL, firmC, h]
theorem firm_none {l : Lk} {s t : Int} (h : lockOkB l = true) (h1 : firmAt l.held s t = -1) : firmL l s t = l ∧ firmC l s t = false := by simp [firmL, firmC, h, h1]
theorem firm_at {l : Lk} {s t : Int} {k : Nat} (h : lockOkB l = true) (h1 : firmAt l.held s t = k) : firmL l s t = ⟨l.slot, setFirm l.held k, l.waits⟩ ∧ firmC l s t = true := by simp [firmL, firmC, h, h1]

theorem lockOk_parts {l : Lk} (h : lockOkB l = true) : inB l.slot 0 7 = true ∧ l.held.length + l.waits.length ≤ 16 ∧ holdsB l.held = true ∧ holdsB l.waits = true ∧ heldOkB l.held = true ∧ waitsOkB l.waits l.held = true := by
  rw [← lockOk_eq] at h
  simp only [lockOkI, Bool.and_eq_true, decide_eq_true_eq] at h
  exact ⟨h.1, h.2.1, h.2.2.1, h.2.2.2.1, h.2.2.2.2.1, h.2.2.2.2.2⟩
theorem asc_of_holds {H : List Hd} (h : holdsB H = true) : ascB H = true := by simp only [holdsB, Bool.and_eq_true] at h; exact h.2
theorem asc_ne {H : List Hd} (ha : ascB H = true) {i j : Nat} (hi : i < H.length) (hj : j < H.length) (hij : i ≠ j) : (H.getD i Hd.z).stamp ≠ (H.getD j Hd.z).stamp := by
  rcases Nat.lt_or_gt_of_ne hij with h | h
  · have := asc_lt ha j i h hj; omega
  · have := asc_lt ha i j h hi; omega

theorem atL_cases (hs : List Hd) (s : Int) : (atL hs s = -1 ∧ ∀ j, j < hs.length → (hs.getD j Hd.z).stamp ≠ s) ∨ ∃ k : Nat, k < hs.length ∧ atL hs s = k ∧ (hs.getD k Hd.z).stamp = s ∧ ∀ j, j < k → (hs.getD j Hd.z).stamp ≠ s := by
  unfold atL
  cases h : hs.findIdx? (fun h => h.stamp == s) with
  | none =>
    left
    refine ⟨rfl, fun j hj => ?_⟩
    rw [List.findIdx?_eq_none_iff] at h
    have := h (hs[j]) (List.getElem_mem hj)
    simpa [List.getD, hj] using this
  | some i =>
    right
    rw [List.findIdx?_eq_some_iff_getElem] at h
    obtain ⟨hi, hp, hn⟩ := h
    refine ⟨i, hi, rfl, by simpa [List.getD, hi] using hp, fun j hj => ?_⟩
    have := hn j hj
    simpa [List.getD, show j < hs.length by omega] using this

theorem no_stamp {x : Hd} {s t : Int} (h : x.stamp ≠ s) : (x.stamp == s && x.try_ == t) = false := by rw [beq_eq_false_iff_ne.2 h]; rfl
theorem no_try {x : Hd} {s t : Int} (h : x.try_ ≠ t) : (x.stamp == s && x.try_ == t) = false := by rw [beq_eq_false_iff_ne.2 h]; simp
theorem firmAt_none {H : List Hd} {s t : Int} (h : ∀ j, j < H.length → (H.getD j Hd.z).stamp ≠ s) : firmAt H s t = -1 :=
  idxL_none fun j hj => no_stamp (h j hj)
theorem firmAt_found {H : List Hd} {s t : Int} {k : Nat} (hk : k < H.length) (h : (H.getD k Hd.z).stamp = s) (ht : (H.getD k Hd.z).try_ = t) (hn : ∀ j, j < k → (H.getD j Hd.z).stamp ≠ s) : firmAt H s t = k :=
  idxL_found hk (by rw [h, ht]; simp) fun j hj => no_stamp (hn j hj)
theorem firmAt_other {H : List Hd} {s t : Int} {k : Nat} (ha : ascB H = true) (hk : k < H.length) (h : (H.getD k Hd.z).stamp = s) (ht : (H.getD k Hd.z).try_ ≠ t) : firmAt H s t = -1 :=
  idxL_none fun j hj => by
    by_cases e : j = k
    · subst e; exact no_try ht
    · have := asc_ne ha hj hk e; rw [h] at this; exact no_stamp this

end Go.Proofs.Ytoojnhodjkpecaa
