/- How a map that comes in as an argument is opened. -/
import Derived.Test.YtliageaiiciplaaIntsK
import Derived.ProofKit
import Derived.OpenShut
import Derived.ShutString
import Derived.ChangeOld
import Derived.Below
import Derived.Deep.Slices
import Derived.ChangeSame
import Derived.ChangeSlices
import Derived.Lib.SmallJoins
namespace Go.Proofs.Ytliageaiiciplaa
open Go.ChangeShapes Go.WideShapes Go.ChangeAt Go.RowKit Go.Deep Go.Joins

section
variable {H : Type} {enc : TypeId × Value → H} {P : Program} {w : World} {base : Nat} {spare : Nat → Bool} {held : Bool}

theorem open_ins {t e : TypeId} {fuel : Nat} {v : Value} {x : DataW H × List MemPlace}
    (ht : P.underlying t = some (.slice e)) (he : P.underlying e = some (.int .i64)) (ce : P.cellsOf e = 1)
    (h : DataW.trod enc P w base spare held fuel t [v] = some x) : ∃ xs, InsAt w v xs := by
  obtain ⟨a, len, cap, hv⟩ := slice_form ht h
  simp at hv
  subst hv
  rcases open_ints ht he ce h with ⟨h0, _⟩ | ⟨ad, l, c, zs, h0, hb, hl, hm, hz, _, hc, hwf⟩
  · simp at h0
    obtain ⟨rfl, rfl, rfl⟩ := h0
    exact ⟨[], none, 0, rfl, by simp, by simp [maxLen], .inl rfl⟩
  · simp at h0
    obtain ⟨rfl, rfl, rfl⟩ := h0
    have hlm : len ≤ zs.length := by rw [hz]; split <;> omega
    have htl : (zs.take len).length = len := by simp; omega
    refine ⟨zs.take len, some ad, cap, by rw [htl], by rw [htl]; exact hl, hm, ?_⟩
    by_cases hl0 : len = 0
    · left; subst hl0; rfl
    · right
      obtain ⟨b, off, spot⟩ := ad
      have hspot : spot = none := by
        have := World.cell?_spot (hc 0 (by omega))
        simpa [Addr.add] using this
      subst hspot
      refine ⟨b, off, rfl, fun i hi => ?_⟩
      rw [htl] at hi
      have h1 := hc i (by omega)
      rw [add_plain] at h1
      rw [h1]
      simp [List.getD, hi]

theorem open_mapArg {r : Reach} {b0 : Nat} {t ti tl : TypeId} {f0 f1 : Field} {v : Value} {d : DataW H} {p : List MemPlace}
    (hs : P.underlying t = some (.struct #[f0, f1])) (hone : oneCellFields P #[f0, f1] = true) (hC : P.cellsOf t = 2) (t0 : f0.type = ti) (t1 : f1.type = tl)
    (hi : P.underlying ti = some (.int .i64)) (ci : P.cellsOf ti = 1) (hl : P.underlying tl = some (.slice ti))
    (hv : Value.okWide P w r b0 t v) (h : DataW.Trod enc P w base spare held t v d p) : ∃ (x : Int) (u : Value) (xs : List Int), v = .agg #[.int .i64 x, u] ∧ InsAt w u xs := by
  obtain ⟨v0, v1, y0, y1, n, rfl, _, _, g0, g1⟩ := open_agg2 hs hone hC hv h
  rw [t0] at g0; rw [t1] at g1
  obtain ⟨x, e0, _, _⟩ := DataW.trod_int hi g0
  simp at e0
  subst e0
  obtain ⟨xs, hx⟩ := open_ins hl hi ci g1
  exact ⟨x, v1, xs, rfl, hx⟩

end
end Go.Proofs.Ytliageaiiciplaa
