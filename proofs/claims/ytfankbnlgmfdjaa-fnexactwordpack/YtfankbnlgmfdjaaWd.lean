/- Words: what they are, where they lie, and when they are ok. -/
import Derived.Test.YtfankbnlgmfdjaaSdI
namespace Go.Proofs.Ytfankbnlgmfdjaa
open Go.RowKit

structure Wd where
  kind : Int
  src : Int
  dst : Int
  stamp : Int
  try_ : Int
  what : Int
  yes : Bool
  slots : List Int
  prs : List Pr
  code : Int
  vals : List Int
  ses : Int
  num : Int
  ck : Int
  text : ByteArray
  slot : Int
  house : Int

/-- A word's cells; a, b, c: its slots, pairs and values. -/
def wdC (W : Wd) (a b c : Value) : Array Value :=
  #[.int .i64 W.kind, .int .i64 W.src, .int .i64 W.dst, .int .i64 W.stamp, .int .i64 W.try_, .int .i64 W.what, .bool W.yes, a, b, .int .i64 W.code, c, .int .i64 W.ses, .int .i64 W.num, .int .i64 W.ck, .string W.text, .int .i64 W.slot, .int .i64 W.house]
def wdV (W : Wd) (a b c : Value) : Value := .agg (wdC W a b c)
/-- A call's cells. -/
def clC (W : Wd) : Array Value := #[.int .i64 W.ses, .int .i64 W.num, .int .i64 W.ck, .string W.text, .int .i64 W.slot, .int .i64 W.house]
def clV (W : Wd) : Value := .agg (clC W)

structure WdAt (w : World) (W : Wd) (a b c : Value) : Prop where
  slots : InsAt w a W.slots
  prs : PrsAt w b W.prs
  vals : InsAt w c W.vals
  text : W.text.size ≤ maxLen

theorem WdAt.kept {w w' : World} {W : Wd} {a b c : Value} (h : WdAt w W a b c) (hb : Below w.heap.size w w') : WdAt w' W a b c :=
  ⟨h.slots.kept hb, h.prs.kept hb, h.vals.kept hb, h.text⟩

/-- Small enough to be copied. -/
structure WdFit (W : Wd) : Prop where
  slots : W.slots.length ≤ 1048576
  prs : W.prs.length ≤ 1048576
  vals : W.vals.length ≤ 1048576

theorem Box.seventeen {w : World} {g : Nat} {T : TypeId} {c0 c1 c2 c3 c4 c5 c6 c7 c8 c9 c10 c11 c12 c13 c14 c15 c16 : Value} (h : Box w g T #[c0, c1, c2, c3, c4, c5, c6, c7, c8, c9, c10, c11, c12, c13, c14, c15, c16]) :
    w.cell? ⟨g, 0, none⟩ = some c0 ∧ w.cell? ⟨g, 1, none⟩ = some c1 ∧ w.cell? ⟨g, 2, none⟩ = some c2 ∧ w.cell? ⟨g, 3, none⟩ = some c3 ∧ w.cell? ⟨g, 4, none⟩ = some c4 ∧ w.cell? ⟨g, 5, none⟩ = some c5 ∧ w.cell? ⟨g, 6, none⟩ = some c6 ∧ w.cell? ⟨g, 7, none⟩ = some c7 ∧ w.cell? ⟨g, 8, none⟩ = some c8 ∧ w.cell? ⟨g, 9, none⟩ = some c9 ∧ w.cell? ⟨g, 10, none⟩ = some c10 ∧ w.cell? ⟨g, 11, none⟩ = some c11 ∧ w.cell? ⟨g, 12, none⟩ = some c12 ∧ w.cell? ⟨g, 13, none⟩ = some c13 ∧ w.cell? ⟨g, 14, none⟩ = some c14 ∧ w.cell? ⟨g, 15, none⟩ = some c15 ∧ w.cell? ⟨g, 16, none⟩ = some c16 :=
  ⟨h.cell 0, h.cell 1, h.cell 2, h.cell 3, h.cell 4, h.cell 5, h.cell 6, h.cell 7, h.cell 8, h.cell 9, h.cell 10, h.cell 11, h.cell 12, h.cell 13, h.cell 14, h.cell 15, h.cell 16⟩
theorem Box.six {w : World} {g : Nat} {T : TypeId} {c0 c1 c2 c3 c4 c5 : Value} (h : Box w g T #[c0, c1, c2, c3, c4, c5]) :
    w.cell? ⟨g, 0, none⟩ = some c0 ∧ w.cell? ⟨g, 1, none⟩ = some c1 ∧ w.cell? ⟨g, 2, none⟩ = some c2 ∧ w.cell? ⟨g, 3, none⟩ = some c3 ∧ w.cell? ⟨g, 4, none⟩ = some c4 ∧ w.cell? ⟨g, 5, none⟩ = some c5 :=
  ⟨h.cell 0, h.cell 1, h.cell 2, h.cell 3, h.cell 4, h.cell 5⟩

/-- Places. -/
def placeB (n : Int) : Bool := hsB n || (n == 9 || inB n 100 102)
def numB (n : Int) : Bool := inB n 0 9999

def slAt (xs : List Int) (i : Nat) : Bool := inB (xs.getD i 0) 0 7 && (decide (i = 0) || decide (xs.getD (i - 1) 0 < xs.getD i 0))
def slotsB (xs : List Int) : Bool := (List.range xs.length).all (slAt xs)
theorem slotsB_false {xs : List Int} {i : Nat} (hi : i < xs.length) (h : slAt xs i = false) : slotsB xs = false := by
  unfold slotsB
  rw [List.all_eq_false]
  exact ⟨i, List.mem_range.2 hi, by simp [h]⟩
theorem slAt_in {xs : List Int} {i : Nat} (h : inB (xs.getD i 0) 0 7 = false) : slAt xs i = false := by simp only [slAt, h, Bool.false_and]
theorem slAt_zero {xs : List Int} (h : inB (xs.getD 0 0) 0 7 = true) : slAt xs 0 = true := by simp only [slAt, h]; simp
theorem slAt_up {xs : List Int} {m : Nat} (h : inB (xs.getD (m + 1) 0) 0 7 = true) (h' : ¬ xs.getD (m + 1) 0 ≤ xs.getD m 0) : slAt xs (m + 1) = true := by
  simp only [slAt, h, Nat.add_sub_cancel, Bool.true_and, Bool.or_eq_true, decide_eq_true_eq]; right; omega
theorem slAt_down {xs : List Int} {m : Nat} (h : xs.getD (m + 1) 0 ≤ xs.getD m 0) : slAt xs (m + 1) = false := by
  simp only [slAt, Nat.add_sub_cancel, Bool.and_eq_false_iff, Bool.or_eq_false_iff, decide_eq_false_iff_not]; right; omega

/-- A call's numbers and text are not too great. -/
def callB (W : Wd) : Bool := numB W.ses && (numB W.num && (numB W.ck && (numB W.slot && (numB W.house && decide (W.text.size ≤ 80)))))

/-- When a word is ok. -/
def wordB (W : Wd) : Bool :=
  inB W.kind 1 9 && (placeB W.src && (placeB W.dst && (numB W.stamp && (numB W.try_ && (inB W.what 0 3 && (slotsB W.slots && (inForm W.prs && (inB W.code 0 9 && (valsB W.vals && callB W)))))))))

end Go.Proofs.Ytfankbnlgmfdjaa
