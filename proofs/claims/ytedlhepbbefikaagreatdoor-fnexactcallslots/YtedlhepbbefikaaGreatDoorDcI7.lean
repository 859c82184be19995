/- Deals read: what both answer. The program's. -/
import Derived.Test.YtedlhepbbefikaaGreatDoorDcI6
namespace Go.Proofs.YtedlhepbbefikaaGreatDoor
open Go.RowKit

/-- What DealRead answers: the deal in a row of its own, and true; or nothing, and false. -/
def DRes (e : Ending) (w : World) (base : Nat) (t : List UInt8) : Prop :=
  (∃ D r, readL t = some D ∧ e = .returned (.tuple #[r, .bool true]) ∧ w.ownsRow base 35 3 r D.length (D.flatMap stE)) ∨
  (∃ r, readL t = none ∧ e = .returned (.tuple #[r, .bool false]) ∧ w.ownsRow base 35 3 r 0 [])

theorem ownsRow_nilS (w : World) (base : Nat) : w.ownsRow base 35 3 (.slice none 0 0) 0 [] := ⟨rfl, .inl ⟨rfl, rfl⟩⟩
theorem iWriteA_any (v : Value) (ss : List St) (w : World) (hv : StsAt w v ss) (hg : GW w) :
    Calls Tryz.prog 30 #[v] w fun e w' => e = .returned (.string ⟨(wrL ss).toArray⟩) ∧ Below w.heap.size w w' := iWrite_any v ss w hv hg
theorem sWriteA_any (v : Value) (ss : List St) (w : World) (hv : StsAt w v ss) :
    Calls Tryz.prog 38 #[v] w fun e w' => e = .returned (.string ⟨(wrL ss).toArray⟩) ∧ Below w.heap.size w w' := sWrite_any v ss w hv

set_option maxRecDepth 100000 in
set_option maxHeartbeats 2000000 in
theorem iRead_any (t : List UInt8) (w : World) (hg : GW w) :
    Calls Tryz.prog 11 #[.string ⟨t.toArray⟩] w fun e w' => DRes e w' w.heap.size t ∧ Below w.heap.size w w' := by
  have hts : (⟨t.toArray⟩ : ByteArray).size = t.length := by simp [ByteArray.size]
  by_cases hl : 80 < t.length
  · have HR := hide (readL_long hl)
    have hl' : (80 : Int) < (t.length : Int) := by omega
    have hl2 : (80 : Int) < ((⟨t.toArray⟩ : ByteArray).size : Int) := by omega
    go_enter Tryz.func11, Tryz.ntmps11
    go_wp2_with fail
    go_ret2
    exact ⟨.inr ⟨_, unhide HR, rfl, ownsRow_nilS _ _⟩, Below.refl _ _⟩
  have hl' : ¬ (80 : Int) < (t.length : Int) := by omega
  have hl2 : ¬ (80 : Int) < ((⟨t.toArray⟩ : ByteArray).size : Int) := by omega
  have HG := hide hg
  have HRS := hide (readSts_any t w hg (by omega))
  have HWR := hide (fun v ss ww h h2 => iWriteA_any v ss ww h h2)
  have HLE : Hid (t.length ≤ 80) := by show _ ≤ _; omega
  clear hg
  go_enter Tryz.func11, Tryz.ntmps11
  go_wp2_with fail
  refine (unhide HRS).mono ?_; rintro e w1 ⟨⟨r, b, rfl, hR⟩, hb1⟩
  have HB1 := hide hb1
  clear hb1
  rcases hR with ⟨rfl, D, hp, hown⟩ | ⟨rfl, hp, rfl⟩
  · have HST := hide (sts_of_row (RowAt.of_own hown))
    have HOWN := hide hown
    obtain ⟨ra, rc, rfl, -⟩ := ownsRow_slice hown
    have HYES := hide (fun (e : wrL D = t) => readL_yes (unhide HLE) hp e)
    have HNO := hide (fun (e : wrL D ≠ t) => readL_no hp e)
    clear hown hp
    go_wp2_with fail
    refine (unhide HWR _ D _ (unhide HST) ((unhide HG).kept (unhide HB1))).mono ?_; rintro e w2 ⟨rfl, hb2⟩
    have HB2 := hide ((unhide HB1).trans (hb2.mono (unhide HB1).size))
    have HOWN2 := hide (ownsRow_below (unhide HOWN) hb2)
    clear hb2
    by_cases he : wrL D = t
    · have HR := hide (unhide HYES he)
      generalize wrL D = L at *
      have h1 : (L == t) = true := by simpa using he
      clear he
      go_wp2_with fail
      go_ret2
      exact ⟨.inl ⟨D, _, unhide HR, rfl, unhide HOWN2⟩, unhide HB2⟩
    · have HR := hide (unhide HNO he)
      generalize wrL D = L at *
      have h1 : (L == t) = false := by simpa using he
      clear he
      go_wp2_with fail
      go_ret2
      exact ⟨.inr ⟨_, unhide HR, rfl, ownsRow_nilS _ _⟩, unhide HB2⟩
  · have HR := hide (readL_none hp)
    clear hp
    go_wp2_with fail
    go_ret2
    exact ⟨.inr ⟨_, unhide HR, rfl, ownsRow_nilS _ _⟩, unhide HB1⟩

end Go.Proofs.YtedlhepbbefikaaGreatDoor
