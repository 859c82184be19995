/- Locks that a law has of its own: what stays of them. -/
import Derived.Test.YtoojnhodjkpecaaLkN
import Derived.Test.YtoojnhodjkpecaaHkD
namespace Go.Proofs.Ytoojnhodjkpecaa
open Go.RowKit

theorem ne_symm {p q : Option Nat} (h : p = none ∨ p ≠ q) : q = none ∨ q ≠ p := by
  rcases h with h | h
  · subst h
    cases q with
    | none => exact .inl rfl
    | some x => exact .inr (by simp)
  · exact .inr (Ne.symm h)

/-- A lock whose rows may be written, each for itself. -/
structure OwnX (w : World) (lo : Nat) (l : Lk) (a b : Value) : Prop where
  at' : LkAt w l a b
  oa : OwnK w a l.held.length lo 4
  ob : OwnK w b l.waits.length lo 4
  ne : a.ownBlock = none ∨ a.ownBlock ≠ b.ownBlock

section
variable {w w' : World} {lo : Nat} {l : Lk} {a b : Value}
theorem LkAt.far {row : Option Nat} (h : LkAt w l a b) (hg : w.grownBy w' row) (ha : a.ownBlock = none ∨ a.ownBlock ≠ row) (hb : b.ownBlock = none ∨ b.ownBlock ≠ row) : LkAt w' l a b := ⟨h.held.far hg ha, h.waits.far hg hb⟩
theorem OwnX.kept (h : OwnX w lo l a b) (hb : Below w.heap.size w w') : OwnX w' lo l a b := ⟨h.at'.kept hb, h.oa.kept hb, h.ob.kept hb, h.ne⟩
theorem OwnX.far {row : Option Nat} (h : OwnX w lo l a b) (hg : w.grownBy w' row) (ha : a.ownBlock = none ∨ a.ownBlock ≠ row) (hb : b.ownBlock = none ∨ b.ownBlock ≠ row) : OwnX w' lo l a b := ⟨h.at'.far hg ha hb, h.oa.far hg ha, h.ob.far hg hb, h.ne⟩
theorem OwnLk.x (h : OwnLk w lo l a b) : OwnX w lo l a b := ⟨h.at, OwnK.of_own h.held, OwnK.of_own h.waits, h.ne⟩
theorem OwnX.slices (h : OwnX w lo l a b) : ∃ a0 c0 a1 c1, a = .slice a0 l.held.length c0 ∧ b = .slice a1 l.waits.length c1 := by
  obtain ⟨a0, c0, rfl⟩ := h.oa.slice
  obtain ⟨a1, c1, rfl⟩ := h.ob.slice
  exact ⟨a0, c0, a1, c1, rfl, rfl⟩
end

theorem toLockX_any (l : Lk) (a b : Value) (w : World) (h : LkAt w l a b) (hn : l.held.length ≤ 1048576) (hm : l.waits.length ≤ 1048576) :
    Calls Try.prog 29 #[lkV l a b] w fun e w' => ∃ a' b', e = .returned (lkV l a' b') ∧ OwnX w' w.heap.size l a' b' ∧ Below w.heap.size w w' := by
  refine (toLock_any l a b w h hn hm).mono ?_
  rintro e w' ⟨g1, g2, rfl, hat, h1, h2, h3, hr1, hr2, hb⟩
  exact ⟨_, _, rfl, ⟨hat, .inr ⟨g1, _, rfl, h1, by omega, hr1⟩, .inr ⟨g2, _, rfl, by omega, h3, hr2⟩, .inr (by simp [Value.ownBlock]; omega)⟩, hb⟩

/-- A row of holds that may be written. -/
structure OwnR (w : World) (lo : Nat) (hs : List Hd) (a : Value) : Prop where
  at' : RowAt hdE w a hs
  oa : OwnK w a hs.length lo 4
theorem OwnR.kept {w w' : World} {lo : Nat} {hs : List Hd} {a : Value} (h : OwnR w lo hs a) (hb : Below w.heap.size w w') : OwnR w' lo hs a := ⟨h.at'.kept hb, h.oa.kept hb⟩
theorem OwnR.far {w w' : World} {lo : Nat} {hs : List Hd} {a : Value} {row : Option Nat} (h : OwnR w lo hs a) (hg : w.grownBy w' row) (ha : a.ownBlock = none ∨ a.ownBlock ≠ row) : OwnR w' lo hs a := ⟨h.at'.far hg ha, h.oa.far hg ha⟩

theorem firmL_le (l : Lk) (s t : Int) : (firmL l s t).held.length ≤ 1048576 ∧ (firmL l s t).waits.length ≤ 1048576 := by
  unfold firmL
  split
  · rename_i h
    have := (lockOk_parts h).2.1
    split
    · simp [setFirm]; omega
    · omega
  · simp

end Go.Proofs.Ytoojnhodjkpecaa
