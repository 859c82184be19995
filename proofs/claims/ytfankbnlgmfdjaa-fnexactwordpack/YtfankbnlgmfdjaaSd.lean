/- What was said: how the laws size, copy and compare slices of it. -/
import Derived.Test.YtfankbnlgmfdjaaMapL
import Derived.Test.YtfankbnlgmfdjaaForm2
namespace Go.Proofs.Ytfankbnlgmfdjaa
open Go.RowKit

structure Sd where
  ses : Int
  num : Int
  code : Int
  vals : List Int
def Sd.z : Sd := ⟨0, 0, 0, []⟩

/-- In block b, from offset off on, lie the first n of xs; the rows of what was got lie elsewhere. -/
def SdCells (w : World) (b off n : Nat) (xs : List Sd) : Prop := ∀ i, i < n →
  w.cell? ⟨b, off + i * 4, none⟩ = some (.int .i64 (xs.getD i Sd.z).ses) ∧
  w.cell? ⟨b, off + i * 4 + 1, none⟩ = some (.int .i64 (xs.getD i Sd.z).num) ∧
  w.cell? ⟨b, off + i * 4 + 2, none⟩ = some (.int .i64 (xs.getD i Sd.z).code) ∧
  ∃ u, w.cell? ⟨b, off + i * 4 + 3, none⟩ = some u ∧ InsAt w u (xs.getD i Sd.z).vals

def SdsAt (w : World) (v : Value) (xs : List Sd) : Prop :=
  ∃ a cap, v = .slice a xs.length cap ∧ xs.length ≤ cap ∧ cap ≤ maxLen ∧ (xs = [] ∨ ∃ b off, a = some ⟨b, off, none⟩ ∧ SdCells w b off xs.length xs)

theorem SdCells.kept {w w' : World} {b off n : Nat} {xs : List Sd} (h : SdCells w b off n xs) (hb : Below w.heap.size w w') : SdCells w' b off n xs := fun i hi => by
  obtain ⟨h0, h1, h2, u, h3, h4⟩ := h i hi
  exact ⟨cell_kept hb h0, cell_kept hb h1, cell_kept hb h2, u, cell_kept hb h3, h4.kept hb⟩

theorem SdsAt.kept {w w' : World} {v : Value} {xs : List Sd} (h : SdsAt w v xs) (hb : Below w.heap.size w w') : SdsAt w' v xs := by
  obtain ⟨a, cap, hv, h1, h2, h3⟩ := h
  refine ⟨a, cap, hv, h1, h2, ?_⟩
  rcases h3 with h3 | ⟨b, off, ha, hc⟩
  · exact .inl h3
  · exact .inr ⟨b, off, ha, hc.kept hb⟩

def Sd.tup (x : Sd) : Int × Int × Int × List Int := (x.ses, x.num, x.code, x.vals)
theorem Sd.tup_inj {x y : Sd} (h : x.tup = y.tup) : x = y := by cases x; cases y; simp_all [Sd.tup]
def eqSd (a b : Sd) : Bool := decide (a.tup = b.tup)
def eqSds (xs ys : List Sd) : Bool := decide (xs.map Sd.tup = ys.map Sd.tup)
theorem map_tupS_inj {xs ys : List Sd} (h : xs.map Sd.tup = ys.map Sd.tup) : xs = ys := List.map_inj_right (fun _ _ e => Sd.tup_inj e) |>.1 h
theorem eqSds_self (xs : List Sd) : eqSds xs xs = true := by simp [eqSds]

/-- Small enough to be copied. -/
def SdFit (xs : List Sd) : Prop := ∀ i, i < xs.length → (xs.getD i Sd.z).vals.length ≤ 1048576

theorem InsAt.slice {w : World} {u : Value} {xs : List Int} (h : InsAt w u xs) : ∃ a c, u = .slice a xs.length c ∧ xs.length ≤ maxLen := by
  obtain ⟨a, cap, hv, h1, h2, _⟩ := h
  exact ⟨a, cap, hv, by omega⟩

end Go.Proofs.Ytfankbnlgmfdjaa
