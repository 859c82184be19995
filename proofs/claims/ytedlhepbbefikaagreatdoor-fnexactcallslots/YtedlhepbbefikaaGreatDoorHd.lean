/- Who holds a lock: in memory, and the plain mathematics. -/
import Derived.Test.YtedlhepbbefikaaGreatDoorRw
import Derived.Test.YtedlhepbbefikaaGreatDoorLeafI
namespace Go.Proofs.YtedlhepbbefikaaGreatDoor
open Go.RowKit

structure Hd where
  stamp : Int
  try_ : Int
  share : Bool
  firm : Bool

def Hd.z : Hd := ⟨0, 0, false, false⟩
def hdE (h : Hd) : List Value := [.int .i64 h.stamp, .int .i64 h.try_, .bool h.share, .bool h.firm]
def hdV (h : Hd) : Value := .agg #[.int .i64 h.stamp, .int .i64 h.try_, .bool h.share, .bool h.firm]
theorem hdE_len (h : Hd) : (hdE h).length = 4 := rfl

theorem hd_cells {w : World} {b off m c : Nat} {hs : List Hd} (h : RowAt hdE w (.slice (some ⟨b, off, none⟩) m c) hs) {i : Nat} (hi : i < hs.length) :
    w.cell? ⟨b, off + i * 4, none⟩ = some (.int .i64 (hs.getD i Hd.z).stamp) ∧ w.cell? ⟨b, off + i * 4 + 1, none⟩ = some (.int .i64 (hs.getD i Hd.z).try_) ∧
    w.cell? ⟨b, off + i * 4 + 2, none⟩ = some (.bool (hs.getD i Hd.z).share) ∧ w.cell? ⟨b, off + i * 4 + 3, none⟩ = some (.bool (hs.getD i Hd.z).firm) :=
  ⟨h.cellsAt hdE_len Hd.z hi (f := 0) rfl, h.cellsAt hdE_len Hd.z hi (f := 1) rfl, h.cellsAt hdE_len Hd.z hi (f := 2) rfl, h.cellsAt hdE_len Hd.z hi (f := 3) rfl⟩

def holdOkB (h : Hd) : Bool := inB h.stamp 1 9999 && inB h.try_ 1 9999
def meetB (a b : Hd) : Bool := (a.stamp != b.stamp) && !(a.share && b.share)

structure Lk where
  slot : Int
  held : List Hd
  waits : List Hd

def heldAt (H : List Hd) (i : Nat) : Bool := holdOkB (H.getD i Hd.z) && (decide (i = 0) || (decide ((H.getD (i - 1) Hd.z).stamp < (H.getD i Hd.z).stamp) && !meetB (H.getD 0 Hd.z) (H.getD i Hd.z)))
def waitsAt (H W : List Hd) (i : Nat) : Bool := holdOkB (W.getD i Hd.z) && !(W.getD i Hd.z).firm && (decide (i = 0) || decide ((W.getD (i - 1) Hd.z).stamp < (W.getD i Hd.z).stamp)) && H.all (fun h => h.stamp != (W.getD i Hd.z).stamp)
def lockOkB (l : Lk) : Bool := inB l.slot 0 7 && decide (l.held.length + l.waits.length ≤ 16) && (List.range l.held.length).all (heldAt l.held) && (List.range l.waits.length).all (waitsAt l.held l.waits)

def keepB (s t : Int) (h : Hd) : Bool := (h.stamp != s) || decide (t < h.try_)
def withoutL (hs : List Hd) (s t : Int) : List Hd := hs.filter (keepB s t)
def atL (hs : List Hd) (s : Int) : Int := match hs.findIdx? (fun h => h.stamp == s) with | some i => i | none => -1
def mayB (l : Lk) (h : Hd) : Bool := l.held.all (fun x => !meetB x h) && l.waits.all (fun x => !(decide (x.stamp < h.stamp) && meetB x h))

def putStep (h : Hd) (s : List Hd × Bool) (x : Hd) : List Hd × Bool := if (!s.2 && decide (h.stamp < x.stamp)) = true then (s.1 ++ [h] ++ [x], true) else (s.1 ++ [x], s.2)
def putFold (h : Hd) (hs : List Hd) : List Hd × Bool := hs.foldl (putStep h) ([], false)
def putL (hs : List Hd) (h : Hd) : List Hd := if (putFold h hs).2 = true then (putFold h hs).1 else (putFold h hs).1 ++ [h]

theorem putFold_step {h : Hd} {hs : List Hd} {j : Nat} (hj : j < hs.length) : putFold h (hs.take (j + 1)) = putStep h (putFold h (hs.take j)) (hs.getD j Hd.z) := by
  unfold putFold
  rw [List.take_succ_eq_append_getElem hj, List.foldl_append]; simp [List.getD, hj]

theorem putFold_length (h : Hd) (hs : List Hd) : (putFold h hs).1.length ≤ 2 * hs.length := by
  have gen : ∀ (l : List Hd) (s : List Hd × Bool), (l.foldl (putStep h) s).1.length ≤ s.1.length + 2 * l.length := by
    intro l
    induction l with
    | nil => intro s; simp
    | cons x r ih =>
      intro s
      have h1 := ih (putStep h s x)
      have h2 : (putStep h s x).1.length ≤ s.1.length + 2 := by unfold putStep; split <;> simp
      simp only [List.foldl_cons, List.length_cons]; omega
  simpa [putFold] using gen hs ([], false)

/-- A lock in memory. -/
def lkV (l : Lk) (a b : Value) : Value := .agg #[.int .i64 l.slot, a, b]
structure LkAt (w : World) (l : Lk) (a b : Value) : Prop where
  held : RowAt hdE w a l.held
  waits : RowAt hdE w b l.waits
theorem LkAt.kept {w w' : World} {l : Lk} {a b : Value} (h : LkAt w l a b) (hb : Below w.heap.size w w') : LkAt w' l a b := ⟨h.held.kept hb, h.waits.kept hb⟩

end Go.Proofs.YtedlhepbbefikaaGreatDoor
