/- Statements read: the program's way. -/
import Derived.Test.YtedlhepbbefikaaGreatDoorDcI3
import Derived.Lib.AtoiErrMem
namespace Go.Proofs.YtedlhepbbefikaaGreatDoor
open Go.RowKit

theorem list_bytes {S : ByteArray} {l : List UInt8} (h : S.data.toList = l) : S = ⟨l.toArray⟩ := by
  apply ByteArray.ext; apply Array.toList_inj.1; simpa using h

set_option maxRecDepth 100000 in
set_option maxHeartbeats 1000000 in
theorem doOf_any (l : List UInt8) (w : World) :
    Calls Tryz.prog 66 #[.string ⟨l.toArray⟩] w fun e w' => e = .returned (.int .i64 (opV l)) ∧ w' = w := by
  by_cases h1 : l = [103, 101, 116]
  · subst h1
    go_enter Tryz.func66, Tryz.ntmps66
    go_wp2_with fail
    go_ret
    exact ⟨rfl, rfl⟩
  by_cases h2 : l = [112, 117, 116]
  · subst h2
    go_enter Tryz.func66, Tryz.ntmps66
    go_wp2_with fail
    go_ret
    exact ⟨rfl, rfl⟩
  by_cases h3 : l = [97, 100, 100]
  · subst h3
    go_enter Tryz.func66, Tryz.ntmps66
    go_wp2_with fail
    go_ret
    exact ⟨rfl, rfl⟩
  by_cases h4 : l = [110, 101, 101, 100]
  · subst h4
    go_enter Tryz.func66, Tryz.ntmps66
    go_wp2_with fail
    go_ret
    exact ⟨rfl, rfl⟩
  have hv : opV l = 0 := by simp [opV, h1, h2, h3, h4]
  have HV := hide hv
  have e1 : (l == [103, 101, 116]) = false := beq_eq_false_iff_ne.2 h1
  have e2 : (l == [112, 117, 116]) = false := beq_eq_false_iff_ne.2 h2
  have e3 : (l == [97, 100, 100]) = false := beq_eq_false_iff_ne.2 h3
  have e4 : (l == [110, 101, 101, 100]) = false := beq_eq_false_iff_ne.2 h4
  clear h1 h2 h3 h4 hv
  go_enter Tryz.func66, Tryz.ntmps66
  go_wp2_with fail
  go_ret
  exact ⟨ret_int (unhide HV).symm, rfl⟩

/-- What Atoi answers. -/
def AtoiR (l : List UInt8) (v : Int) (err : Value) : Prop := (Lib.atoiAll l = .ok v ∧ err = .nilIface) ∨ ((∀ u, Lib.atoiAll l ≠ .ok u) ∧ ∃ t p, err = .iface t p)

theorem atoi_any (l : List UInt8) (w : World) (h : GW w) (hl : l.length ≤ 1000) :
    Calls Tryz.prog 67 #[.string ⟨l.toArray⟩] w fun e w' => ∃ v err, e = .returned (.tuple #[.int .i64 v, err]) ∧ AtoiR l v err ∧ Below w.heap.size w w' := by
  have hs : (⟨l.toArray⟩ : ByteArray).size = l.length := by simp [ByteArray.size]
  cases hr : Lib.atoiAll l with
  | ok v =>
    refine (Tryz.strconv_Atoi_ok ⟨l.toArray⟩ (by omega) v (by simpa using hr) w).mono ?_
    rintro e w' ⟨rfl, hw⟩
    refine ⟨v, _, rfl, .inl ⟨hr, rfl⟩, ?_⟩
    rcases hw with rfl | ⟨t, rfl⟩
    · exact Below.refl _ _
    · exact Lib.bytesWorld_below _ _ _
  | «syntax» =>
    obtain ⟨t, p, he⟩ := h.sy
    refine (Tryz.strconv_Atoi_syntax ⟨l.toArray⟩ (by omega) (by simpa using hr) _ w he (.inr ⟨t, p, rfl⟩)).mono ?_
    rintro e w' ⟨N, rfl, -, -, hb⟩
    exact ⟨0, _, rfl, .inr ⟨fun u e => (by rw [hr] at e; cases e), _, _, rfl⟩, hb⟩
  | range =>
    obtain ⟨t, p, he⟩ := h.rg
    refine (Tryz.strconv_Atoi_range ⟨l.toArray⟩ (by omega) (by simpa using hr) _ w he (.inr ⟨t, p, rfl⟩)).mono ?_
    rintro e w' ⟨N, rfl, -, -, hb⟩
    exact ⟨_, _, rfl, .inr ⟨fun u e => (by rw [hr] at e; cases e), _, _, rfl⟩, hb⟩

end Go.Proofs.YtedlhepbbefikaaGreatDoor
