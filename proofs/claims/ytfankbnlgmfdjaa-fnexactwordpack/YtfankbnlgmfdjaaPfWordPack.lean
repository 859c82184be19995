/- Proved: at every word the law FnExactWordPack answers true, and its argument reads behind the call as before (every word, no condition). -/
import Derived.Test.YtfankbnlgmfdjaaIntsK
import Derived.ProofKit
import Derived.OpenShut
import Derived.ShutString
import Derived.ChangeOld
import Derived.Below
import Derived.Deep.Slices
import Derived.ChangeSame
import Derived.ChangeSlices
import Derived.Lib.SmallJoins
import Derived.Test.YtfankbnlgmfdjaaBase
import Derived.Deep.Strs
import Derived.Test.YtfankbnlgmfdjaaSdB
import Derived.Test.YtfankbnlgmfdjaaWd
import Derived.Test.YtfankbnlgmfdjaaLawPk1
namespace Go.Proofs.Ytfankbnlgmfdjaa
open Go.ChangeShapes Go.WideShapes Go.ChangeAt Go.RowKit Go.Deep Go.Joins

section
variable {H : Type} {enc : TypeId × Value → H} {P : Program} {w : World} {base : Nat} {spare : Nat → Bool} {held : Bool}

theorem open_ins {t e : TypeId} {fuel : Nat} {v : Value} {x : DataW H × List MemPlace}
    (ht : P.underlying t = some (.slice e)) (he : P.underlying e = some (.int .i64)) (ce : P.cellsOf e = 1)
    (h : DataW.trod enc P w base spare held fuel t [v] = some x) : ∃ xs, InsAt w v xs := by
  obtain ⟨a, len, cap, hv⟩ := slice_form ht h
  simp at hv
  subst hv
  rcases open_ints ht he ce h with ⟨h0, _⟩ | ⟨ad, l, c, zs, h0, hb, hl, hm, hz, _, hc, hwf⟩
  · simp at h0
    obtain ⟨rfl, rfl, rfl⟩ := h0
    exact ⟨[], none, 0, rfl, by simp, by simp [maxLen], .inl rfl⟩
  · simp at h0
    obtain ⟨rfl, rfl, rfl⟩ := h0
    have hlm : len ≤ zs.length := by rw [hz]; split <;> omega
    have htl : (zs.take len).length = len := by simp; omega
    refine ⟨zs.take len, some ad, cap, by rw [htl], by rw [htl]; exact hl, hm, ?_⟩
    by_cases hl0 : len = 0
    · left; subst hl0; rfl
    · right
      obtain ⟨b, off, spot⟩ := ad
      have hspot : spot = none := by
        have := World.cell?_spot (hc 0 (by omega))
        simpa [Addr.add] using this
      subst hspot
      refine ⟨b, off, rfl, fun i hi => ?_⟩
      rw [htl] at hi
      have h1 := hc i (by omega)
      rw [add_plain] at h1
      rw [h1]
      simp [List.getD, hi]

theorem open_mapArg {r : Reach} {b0 : Nat} {t ti tl : TypeId} {f0 f1 : Field} {v : Value} {d : DataW H} {p : List MemPlace}
    (hs : P.underlying t = some (.struct #[f0, f1])) (hone : oneCellFields P #[f0, f1] = true) (hC : P.cellsOf t = 2) (t0 : f0.type = ti) (t1 : f1.type = tl)
    (hi : P.underlying ti = some (.int .i64)) (ci : P.cellsOf ti = 1) (hl : P.underlying tl = some (.slice ti))
    (hv : Value.okWide P w r b0 t v) (h : DataW.Trod enc P w base spare held t v d p) : ∃ (x : Int) (u : Value) (xs : List Int), v = .agg #[.int .i64 x, u] ∧ InsAt w u xs := by
  obtain ⟨v0, v1, y0, y1, n, rfl, _, _, g0, g1⟩ := open_agg2 hs hone hC hv h
  rw [t0] at g0; rw [t1] at g1
  obtain ⟨x, e0, _, _⟩ := DataW.trod_int hi g0
  simp at e0
  subst e0
  obtain ⟨xs, hx⟩ := open_ins hl hi ci g1
  exact ⟨x, v1, xs, rfl, hx⟩

end
end Go.Proofs.Ytfankbnlgmfdjaa

namespace Go.Proofs.Ytfankbnlgmfdjaa
open Go.ChangeShapes Go.WideShapes Go.ChangeAt Go.RowKit Go.Deep

section
variable {H : Type} {enc : TypeId × Value → H} {P : Program} {w : World} {base : Nat} {spare : Nat → Bool} {held : Bool}

theorem getD_range_map {α : Type} (d : α) (f : Nat → α) (n i : Nat) (h : i < n) : ((List.range n).map f).getD i d = f i := by
  simp [List.getD, h]

theorem open_sts {t e ti : TypeId} {f0 f1 f2 : Field} {fuel : Nat} {a : Option Addr} {len cap : Nat} {x : DataW H × List MemPlace}
    (ht : P.underlying t = some (.slice e)) (he : P.underlying e = some (.struct #[f0, f1, f2])) (ce : P.cellsOf e = 3)
    (o0 : f0.offset = 0) (o1 : f1.offset = 1) (o2 : f2.offset = 2) (t0 : f0.type = ti) (t1 : f1.type = ti) (t2 : f2.type = ti)
    (hi : P.underlying ti = some (.int .i64)) (ci : P.cellsOf ti = 1)
    (h : DataW.trod enc P w base spare held fuel t [.slice a len cap] = some x) : ∃ ss, StsAt w (.slice a len cap) ss := by
  rcases open_slice ht h with ⟨h0, _⟩ | ⟨ad, l, c, m, n, D, Pl, h0, hb, hl, hm, hmm, _, hx⟩
  · simp at h0
    obtain ⟨rfl, rfl, rfl⟩ := h0
    exact ⟨[], none, 0, rfl, by simp, by simp [maxLen], .inl rfl⟩
  · simp at h0
    obtain ⟨rfl, rfl, rfl⟩ := h0
    have hlm : len ≤ m := by rw [hmm]; split <;> omega
    have each : ∀ i, i < len → ∃ s : St, w.cell? (ad.add (i * 3)) = some (.int .i64 s.op) ∧ w.cell? (ad.add (i * 3 + 1)) = some (.int .i64 s.key) ∧ w.cell? (ad.add (i * 3 + 2)) = some (.int .i64 s.num) := fun i hi' => by
      obtain ⟨cs, hcs, htr⟩ := hx i (by omega)
      rw [ce] at hcs
      obtain ⟨_, hlen, hcell⟩ := World.cells?_some hcs
      obtain ⟨y0, y1, y2, n', _, _, g0, g1, g2⟩ := trod_struct3 he htr
      match cs, hlen with
      | [u0, u1, u2], _ =>
        rw [o0, t0, ci] at g0; rw [o1, t1, ci] at g1; rw [o2, t2, ci] at g2
        obtain ⟨z0, e0, _, _⟩ := DataW.trod_int hi g0
        obtain ⟨z1, e1, _, _⟩ := DataW.trod_int hi g1
        obtain ⟨z2, e2, _, _⟩ := DataW.trod_int hi g2
        simp at e0 e1 e2
        subst e0 e1 e2
        refine ⟨⟨z0, z1, z2⟩, ?_, ?_, ?_⟩
        · have := hcell 0 (by omega); rw [Addr.add_add] at this; simpa using this
        · have := hcell 1 (by omega); rw [Addr.add_add] at this; simpa using this
        · have := hcell 2 (by omega); rw [Addr.add_add] at this; simpa using this
    obtain ⟨f, hf⟩ := @choose_lt St ⟨St.z⟩ _ _ each
    refine ⟨(List.range len).map f, some ad, cap, by simp, by simpa using hl, hm, ?_⟩
    by_cases hl0 : len = 0
    · left; subst hl0; rfl
    · right
      obtain ⟨b, off, spot⟩ := ad
      have hspot : spot = none := by
        have := World.cell?_spot (hf 0 (by omega)).1
        simpa [Addr.add] using this
      subst hspot
      refine ⟨b, off, rfl, fun i hi' => ?_⟩
      simp only [List.length_map, List.length_range] at hi'
      rw [getD_range_map St.z f len i hi']
      obtain ⟨g0, g1, g2⟩ := hf i hi'
      rw [add_plain] at g0 g1 g2
      exact ⟨g0, by rw [Nat.add_assoc]; exact g1, by rw [Nat.add_assoc]; exact g2⟩

theorem open_prs {t e ti : TypeId} {f0 f1 : Field} {fuel : Nat} {a : Option Addr} {len cap : Nat} {x : DataW H × List MemPlace}
    (ht : P.underlying t = some (.slice e)) (he : P.underlying e = some (.struct #[f0, f1])) (ce : P.cellsOf e = 2)
    (o0 : f0.offset = 0) (o1 : f1.offset = 1) (t0 : f0.type = ti) (t1 : f1.type = ti)
    (hi : P.underlying ti = some (.int .i64)) (ci : P.cellsOf ti = 1)
    (h : DataW.trod enc P w base spare held fuel t [.slice a len cap] = some x) : ∃ ps, PrsAt w (.slice a len cap) ps := by
  rcases open_slice ht h with ⟨h0, _⟩ | ⟨ad, l, c, m, n, D, Pl, h0, hb, hl, hm, hmm, _, hx⟩
  · simp at h0
    obtain ⟨rfl, rfl, rfl⟩ := h0
    exact ⟨[], none, 0, rfl, by simp, by simp [maxLen], .inl rfl⟩
  · simp at h0
    obtain ⟨rfl, rfl, rfl⟩ := h0
    have hlm : len ≤ m := by rw [hmm]; split <;> omega
    have each : ∀ i, i < len → ∃ s : Pr, w.cell? (ad.add (i * 2)) = some (.int .i64 s.key) ∧ w.cell? (ad.add (i * 2 + 1)) = some (.int .i64 s.val) := fun i hi' => by
      obtain ⟨cs, hcs, htr⟩ := hx i (by omega)
      rw [ce] at hcs
      obtain ⟨_, hlen, hcell⟩ := World.cells?_some hcs
      obtain ⟨y0, y1, n', _, _, g0, g1⟩ := trod_struct2 he htr
      match cs, hlen with
      | [u0, u1], _ =>
        rw [o0, t0, ci] at g0; rw [o1, t1, ci] at g1
        obtain ⟨z0, e0, _, _⟩ := DataW.trod_int hi g0
        obtain ⟨z1, e1, _, _⟩ := DataW.trod_int hi g1
        simp at e0 e1
        subst e0 e1
        refine ⟨⟨z0, z1⟩, ?_, ?_⟩
        · have := hcell 0 (by omega); rw [Addr.add_add] at this; simpa using this
        · have := hcell 1 (by omega); rw [Addr.add_add] at this; simpa using this
    obtain ⟨f, hf⟩ := @choose_lt Pr ⟨Pr.z⟩ _ _ each
    refine ⟨(List.range len).map f, some ad, cap, by simp, by simpa using hl, hm, ?_⟩
    by_cases hl0 : len = 0
    · left; subst hl0; rfl
    · right
      obtain ⟨b, off, spot⟩ := ad
      have hspot : spot = none := by
        have := World.cell?_spot (hf 0 (by omega)).1
        simpa [Addr.add] using this
      subst hspot
      refine ⟨b, off, rfl, fun i hi' => ?_⟩
      simp only [List.length_map, List.length_range] at hi'
      rw [getD_range_map Pr.z f len i hi']
      obtain ⟨g0, g1⟩ := hf i hi'
      rw [add_plain] at g0 g1
      exact ⟨g0, by rw [Nat.add_assoc]; exact g1⟩

end
end Go.Proofs.Ytfankbnlgmfdjaa

namespace Go.Proofs.Ytfankbnlgmfdjaa
open Go.ChangeShapes Go.WideShapes Go.ChangeAt Go.RowKit Go.Deep Go.Joins

section
variable {H : Type} {enc : TypeId × Value → H} {P : Program} {w : World} {base : Nat} {spare : Nat → Bool} {held : Bool}

theorem array5 {cs : Array Value} (h : cs.size = 5) : ∃ a b c d e, cs = #[a, b, c, d, e] := by
  obtain ⟨l⟩ := cs
  match l, h with
  | [a, b, c, d, e], _ => exact ⟨a, b, c, d, e, rfl⟩

theorem open_sds {t e ti tl : TypeId} {f0 f1 f2 f3 : Field} {fuel : Nat} {a : Option Addr} {len cap : Nat} {x : DataW H × List MemPlace}
    (ht : P.underlying t = some (.slice e)) (he : P.underlying e = some (.struct #[f0, f1, f2, f3])) (ce : P.cellsOf e = 4)
    (o0 : f0.offset = 0) (o1 : f1.offset = 1) (o2 : f2.offset = 2) (o3 : f3.offset = 3) (t0 : f0.type = ti) (t1 : f1.type = ti) (t2 : f2.type = ti) (t3 : f3.type = tl)
    (hi : P.underlying ti = some (.int .i64)) (ci : P.cellsOf ti = 1) (hl : P.underlying tl = some (.slice ti)) (cl : P.cellsOf tl = 1)
    (h : DataW.trod enc P w base spare held fuel t [.slice a len cap] = some x) : ∃ ss, SdsAt w (.slice a len cap) ss := by
  rcases open_slice ht h with ⟨h0, _⟩ | ⟨ad, l, c, m, n, D, Pl, h0, hb, hl', hm, hmm, _, hx⟩
  · simp at h0
    obtain ⟨rfl, rfl, rfl⟩ := h0
    exact ⟨[], none, 0, rfl, by simp, by simp [maxLen], .inl rfl⟩
  · simp at h0
    obtain ⟨rfl, rfl, rfl⟩ := h0
    have hlm : len ≤ m := by rw [hmm]; split <;> omega
    have each : ∀ i, i < len → ∃ s : Sd, w.cell? (ad.add (i * 4)) = some (.int .i64 s.ses) ∧ w.cell? (ad.add (i * 4 + 1)) = some (.int .i64 s.num) ∧ w.cell? (ad.add (i * 4 + 2)) = some (.int .i64 s.code) ∧ ∃ u, w.cell? (ad.add (i * 4 + 3)) = some u ∧ InsAt w u s.vals := fun i hi' => by
      obtain ⟨cs, hcs, htr⟩ := hx i (by omega)
      rw [ce] at hcs
      obtain ⟨_, hlen, hcell⟩ := World.cells?_some hcs
      obtain ⟨y0, y1, y2, y3, n', _, _, g0, g1, g2, g3⟩ := trod_struct4 he htr
      match cs, hlen with
      | [u0, u1, u2, u3], _ =>
        rw [o0, t0, ci] at g0; rw [o1, t1, ci] at g1; rw [o2, t2, ci] at g2; rw [o3, t3, cl] at g3
        obtain ⟨z0, e0, _, _⟩ := DataW.trod_int hi g0
        obtain ⟨z1, e1, _, _⟩ := DataW.trod_int hi g1
        obtain ⟨z2, e2, _, _⟩ := DataW.trod_int hi g2
        simp at e0 e1 e2
        subst e0 e1 e2
        obtain ⟨xs, hxs⟩ := open_ins (v := u3) hl hi ci (by simpa using g3)
        refine ⟨⟨z0, z1, z2, xs⟩, ?_, ?_, ?_, u3, ?_, hxs⟩
        · have := hcell 0 (by omega); rw [Addr.add_add] at this; simpa using this
        · have := hcell 1 (by omega); rw [Addr.add_add] at this; simpa using this
        · have := hcell 2 (by omega); rw [Addr.add_add] at this; simpa using this
        · have := hcell 3 (by omega); rw [Addr.add_add] at this; simpa using this
    obtain ⟨f, hf⟩ := @choose_lt Sd ⟨Sd.z⟩ _ _ each
    refine ⟨(List.range len).map f, some ad, cap, by simp, by simpa using hl', hm, ?_⟩
    by_cases hl0 : len = 0
    · left; subst hl0; rfl
    · right
      obtain ⟨b, off, spot⟩ := ad
      have hspot : spot = none := by
        have := World.cell?_spot (hf 0 (by omega)).1
        simpa [Addr.add] using this
      subst hspot
      refine ⟨b, off, rfl, fun i hi' => ?_⟩
      simp only [List.length_map, List.length_range] at hi'
      rw [getD_range_map Sd.z f len i hi']
      obtain ⟨g0, g1, g2, u, g3, g4⟩ := hf i hi'
      rw [add_plain] at g0 g1 g2 g3
      exact ⟨g0, by rw [Nat.add_assoc]; exact g1, by rw [Nat.add_assoc]; exact g2, u, by rw [Nat.add_assoc]; exact g3, g4⟩

theorem open_booksArg {r : Reach} {b0 : Nat} {t ti tl tm tp tpe ts tse : TypeId} {f0 f1 f2 f3 m0 m1 p0 p1 s0 s1 s2 s3 : Field} {v : Value} {d : DataW H} {p : List MemPlace}
    (hs : P.underlying t = some (.struct #[f0, f1, f2, f3])) (hC : P.cellsOf t = 5)
    (o0 : f0.offset = 0) (o1 : f1.offset = 1) (o2 : f2.offset = 3) (o3 : f3.offset = 4) (t0 : f0.type = ti) (t1 : f1.type = tm) (t2 : f2.type = tp) (t3 : f3.type = ts)
    (hi : P.underlying ti = some (.int .i64)) (ci : P.cellsOf ti = 1) (hl : P.underlying tl = some (.slice ti)) (cl : P.cellsOf tl = 1)
    (hm : P.underlying tm = some (.struct #[m0, m1])) (cm : P.cellsOf tm = 2) (mo0 : m0.offset = 0) (mo1 : m1.offset = 1) (mt0 : m0.type = ti) (mt1 : m1.type = tl)
    (hp : P.underlying tp = some (.slice tpe)) (cp : P.cellsOf tp = 1) (hpe : P.underlying tpe = some (.struct #[p0, p1])) (cpe : P.cellsOf tpe = 2) (po0 : p0.offset = 0) (po1 : p1.offset = 1) (pt0 : p0.type = ti) (pt1 : p1.type = ti)
    (hss : P.underlying ts = some (.slice tse)) (cs : P.cellsOf ts = 1) (hse : P.underlying tse = some (.struct #[s0, s1, s2, s3])) (cse : P.cellsOf tse = 4)
    (so0 : s0.offset = 0) (so1 : s1.offset = 1) (so2 : s2.offset = 2) (so3 : s3.offset = 3) (st0 : s0.type = ti) (st1 : s1.type = ti) (st2 : s2.type = ti) (st3 : s3.type = tl)
    (hv : Value.okWide P w r b0 t v) (h : DataW.Trod enc P w base spare held t v d p) :
    ∃ (x y : Int) (u sv dv : Value) (L : List Int) (ps : List Pr) (ss : List Sd), v = .agg #[.int .i64 x, .int .i64 y, u, sv, dv] ∧ BkAt w u sv dv L ps ss := by
  obtain ⟨vs, rfl, hsz⟩ := okWide_struct hs hv
  obtain ⟨c0, c1, c2, c3, c4, rfl⟩ := array5 (hsz.trans hC)
  obtain ⟨fuel, hf⟩ := h
  obtain ⟨y0, y1, y2, y3, n, hx, _, g0, g1, g2, g3⟩ := trod_struct4 hs hf
  rw [o0, t0, ci] at g0; rw [o1, t1, cm] at g1; rw [o2, t2, cp] at g2; rw [o3, t3, cs] at g3
  simp [Value.cells] at g0 g1 g2 g3
  obtain ⟨x, e0, _, _⟩ := DataW.trod_int hi g0
  simp at e0
  subst e0
  obtain ⟨k0, k1, n', _, _, j0, j1⟩ := trod_struct2 hm g1
  rw [mo0, mt0, ci] at j0; rw [mo1, mt1, cl] at j1
  simp at j0 j1
  obtain ⟨y, e1, _, _⟩ := DataW.trod_int hi j0
  simp at e1
  subst e1
  obtain ⟨L, hL⟩ := open_ins hl hi ci j1
  obtain ⟨pa, pl, pc, hpv⟩ := slice_form hp g2
  simp at hpv
  subst hpv
  obtain ⟨ps, hps⟩ := open_prs hp hpe cpe po0 po1 pt0 pt1 hi ci g2
  obtain ⟨sa, sl, sc, hsv⟩ := slice_form hss g3
  simp at hsv
  subst hsv
  obtain ⟨ss, hsd⟩ := open_sds hss hse cse so0 so1 so2 so3 st0 st1 st2 st3 hi ci hl cl g3
  exact ⟨x, y, c2, _, _, L, ps, ss, rfl, hL, hps, hsd⟩

end
end Go.Proofs.Ytfankbnlgmfdjaa

namespace Go.Proofs.Ytfankbnlgmfdjaa
open Go.ChangeShapes Go.WideShapes Go.ChangeAt Go.RowKit Go.Deep Go.Joins

section
variable {H : Type} {enc : TypeId × Value → H} {P : Program} {w : World} {base : Nat} {spare : Nat → Bool} {held : Bool}

theorem array17 {cs : Array Value} (h : cs.size = 17) : ∃ v0 v1 v2 v3 v4 v5 v6 v7 v8 v9 v10 v11 v12 v13 v14 v15 v16, cs = #[v0, v1, v2, v3, v4, v5, v6, v7, v8, v9, v10, v11, v12, v13, v14, v15, v16] := by
  obtain ⟨l⟩ := cs
  match l, h with
  | [v0, v1, v2, v3, v4, v5, v6, v7, v8, v9, v10, v11, v12, v13, v14, v15, v16], _ => exact ⟨v0, v1, v2, v3, v4, v5, v6, v7, v8, v9, v10, v11, v12, v13, v14, v15, v16, rfl⟩

theorem open_callCells {t ti ts : TypeId} {k0 k1 k2 k3 k4 k5 : Field} {fuel : Nat} {x : DataW H × List MemPlace} {c0 c1 c2 c3 c4 c5 : Value}
    (hs : P.underlying t = some (.struct #[k0, k1, k2, k3, k4, k5]))
    (ho : [k0.offset, k1.offset, k2.offset, k3.offset, k4.offset, k5.offset] = [0, 1, 2, 3, 4, 5]) (ht : [k0.type, k1.type, k2.type, k3.type, k4.type, k5.type] = [ti, ti, ti, ts, ti, ti])
    (hi : P.underlying ti = some (.int .i64)) (ci : P.cellsOf ti = 1) (hst : P.underlying ts = some .string) (cst : P.cellsOf ts = 1)
    (h : DataW.trod enc P w base spare held fuel t [c0, c1, c2, c3, c4, c5] = some x) :
    ∃ (z0 z1 z2 : Int) (s : ByteArray) (z4 z5 : Int), c0 = .int .i64 z0 ∧ c1 = .int .i64 z1 ∧ c2 = .int .i64 z2 ∧ c3 = .string s ∧ c4 = .int .i64 z4 ∧ c5 = .int .i64 z5 ∧ s.size ≤ maxLen := by
  obtain ⟨xs, n, _, _, _, hlen, hx⟩ := DataW.trod_struct hs h
  simp only [List.cons.injEq, and_true] at ho ht
  obtain ⟨o0, o1, o2, o3, o4, o5⟩ := ho
  obtain ⟨t0, t1, t2, t3, t4, t5⟩ := ht
  match xs, hlen with
  | [y0, y1, y2, y3, y4, y5], _ =>
    have g0 := hx 0 k0 rfl
    have g1 := hx 1 k1 rfl
    have g2 := hx 2 k2 rfl
    have g3 := hx 3 k3 rfl
    have g4 := hx 4 k4 rfl
    have g5 := hx 5 k5 rfl
    rw [o0, t0, ci] at g0
    rw [o1, t1, ci] at g1
    rw [o2, t2, ci] at g2
    rw [o3, t3, cst] at g3
    rw [o4, t4, ci] at g4
    rw [o5, t5, ci] at g5
    simp only [List.getElem?_cons_zero, List.getElem?_cons_succ, List.drop_succ_cons, List.drop_zero, List.take_succ_cons, List.take_zero] at g0 g1 g2 g3 g4 g5
    obtain ⟨z0, e0, _, _⟩ := DataW.trod_int hi g0
    obtain ⟨z1, e1, _, _⟩ := DataW.trod_int hi g1
    obtain ⟨z2, e2, _, _⟩ := DataW.trod_int hi g2
    obtain ⟨z4, e4, _, _⟩ := DataW.trod_int hi g4
    obtain ⟨z5, e5, _, _⟩ := DataW.trod_int hi g5
    obtain ⟨s, e3, _, hs3⟩ := DataW.trod_string hst g3
    simp only [List.cons.injEq, and_true] at e0 e1 e2 e3 e4 e5
    exact ⟨z0, z1, z2, s, z4, z5, e0, e1, e2, e3, e4, e5, hs3⟩

theorem open_wordArg {r : Reach} {b0 : Nat} {t ti tb tl tp tpe tc ts : TypeId} {f0 f1 f2 f3 f4 f5 f6 f7 f8 f9 f10 f11 k0 k1 k2 k3 k4 k5 p0 p1 : Field} {v : Value} {d : DataW H} {p : List MemPlace}
    (hs : P.underlying t = some (.struct #[f0, f1, f2, f3, f4, f5, f6, f7, f8, f9, f10, f11])) (hC : P.cellsOf t = 17)
    (ho : [f0.offset, f1.offset, f2.offset, f3.offset, f4.offset, f5.offset, f6.offset, f7.offset, f8.offset, f9.offset, f10.offset, f11.offset] = [0, 1, 2, 3, 4, 5, 6, 7, 8, 9, 10, 11]) (ht : [f0.type, f1.type, f2.type, f3.type, f4.type, f5.type, f6.type, f7.type, f8.type, f9.type, f10.type, f11.type] = [ti, ti, ti, ti, ti, ti, tb, tl, tp, ti, tl, tc])
    (hi : P.underlying ti = some (.int .i64)) (ci : P.cellsOf ti = 1) (hb : P.underlying tb = some .bool) (cb : P.cellsOf tb = 1) (hl : P.underlying tl = some (.slice ti)) (cl : P.cellsOf tl = 1)
    (hp : P.underlying tp = some (.slice tpe)) (cp : P.cellsOf tp = 1) (hpe : P.underlying tpe = some (.struct #[p0, p1])) (cpe : P.cellsOf tpe = 2) (po0 : p0.offset = 0) (po1 : p1.offset = 1) (pt0 : p0.type = ti) (pt1 : p1.type = ti)
    (hc : P.underlying tc = some (.struct #[k0, k1, k2, k3, k4, k5])) (cc : P.cellsOf tc = 6)
    (ko : [k0.offset, k1.offset, k2.offset, k3.offset, k4.offset, k5.offset] = [0, 1, 2, 3, 4, 5]) (kt : [k0.type, k1.type, k2.type, k3.type, k4.type, k5.type] = [ti, ti, ti, ts, ti, ti])
    (hst : P.underlying ts = some .string) (cst : P.cellsOf ts = 1)
    (hv : Value.okWide P w r b0 t v) (h : DataW.Trod enc P w base spare held t v d p) :
    ∃ (W : Wd) (a b c : Value), v = wdV W a b c ∧ WdAt w W a b c := by
  obtain ⟨vs, rfl, hsz⟩ := okWide_struct hs hv
  obtain ⟨v0, v1, v2, v3, v4, v5, v6, v7, v8, v9, v10, v11, v12, v13, v14, v15, v16, rfl⟩ := array17 (hsz.trans hC)
  obtain ⟨fuel, hf⟩ := h
  obtain ⟨xs, n, _, _, _, hlen, hx⟩ := DataW.trod_struct hs hf
  simp only [List.cons.injEq, and_true] at ho ht
  obtain ⟨o0, o1, o2, o3, o4, o5, o6, o7, o8, o9, o10, o11⟩ := ho
  obtain ⟨t0, t1, t2, t3, t4, t5, t6, t7, t8, t9, t10, t11⟩ := ht
  match xs, hlen with
  | [y0, y1, y2, y3, y4, y5, y6, y7, y8, y9, y10, y11], _ =>
    have g0 := hx 0 f0 rfl
    have g1 := hx 1 f1 rfl
    have g2 := hx 2 f2 rfl
    have g3 := hx 3 f3 rfl
    have g4 := hx 4 f4 rfl
    have g5 := hx 5 f5 rfl
    have g6 := hx 6 f6 rfl
    have g7 := hx 7 f7 rfl
    have g8 := hx 8 f8 rfl
    have g9 := hx 9 f9 rfl
    have g10 := hx 10 f10 rfl
    have g11 := hx 11 f11 rfl
    rw [o0, t0, ci] at g0
    rw [o1, t1, ci] at g1
    rw [o2, t2, ci] at g2
    rw [o3, t3, ci] at g3
    rw [o4, t4, ci] at g4
    rw [o5, t5, ci] at g5
    rw [o6, t6, cb] at g6
    rw [o7, t7, cl] at g7
    rw [o8, t8, cp] at g8
    rw [o9, t9, ci] at g9
    rw [o10, t10, cl] at g10
    rw [o11, t11, cc] at g11
    simp only [Value.cells, List.getElem?_cons_zero, List.getElem?_cons_succ, List.drop_succ_cons, List.drop_zero, List.take_succ_cons, List.take_zero] at g0 g1 g2 g3 g4 g5 g6 g7 g8 g9 g10 g11
    obtain ⟨z0, e0, _, _⟩ := DataW.trod_int hi g0
    obtain ⟨z1, e1, _, _⟩ := DataW.trod_int hi g1
    obtain ⟨z2, e2, _, _⟩ := DataW.trod_int hi g2
    obtain ⟨z3, e3, _, _⟩ := DataW.trod_int hi g3
    obtain ⟨z4, e4, _, _⟩ := DataW.trod_int hi g4
    obtain ⟨z5, e5, _, _⟩ := DataW.trod_int hi g5
    obtain ⟨z9, e9, _, _⟩ := DataW.trod_int hi g9
    obtain ⟨z6, e6, _⟩ := DataW.trod_bool hb g6
    simp only [List.cons.injEq, and_true] at e0 e1 e2 e3 e4 e5 e6 e9
    obtain ⟨S, hS⟩ := open_ins hl hi ci g7
    obtain ⟨pa, pl, pc, hpv⟩ := slice_form hp g8
    simp only [List.cons.injEq, and_true] at hpv
    subst hpv
    obtain ⟨ps, hps⟩ := open_prs hp hpe cpe po0 po1 pt0 pt1 hi ci g8
    obtain ⟨V, hV⟩ := open_ins hl hi ci g10
    obtain ⟨s0, s1, s2, s, s4, s5, q0, q1, q2, q3, q4, q5, hs3⟩ := open_callCells hc ko kt hi ci hst cst g11
    subst e0 e1 e2 e3 e4 e5 e6 e9 q0 q1 q2 q3 q4 q5
    exact ⟨⟨z0, z1, z2, z3, z4, z5, z6, S, ps, z9, V, s0, s1, s2, s, s4, s5⟩, _, _, _, rfl, hS, hps, hV, hs3⟩

end
end Go.Proofs.Ytfankbnlgmfdjaa

namespace Go.Proofs.Ytfankbnlgmfdjaa
namespace PfWordPack
open Go.ChangeShapes Go.WideShapes Go.ChangeAt Go.RowKit
open Go.ChangeMaps (open_string shut_string)
set_option linter.unusedVariables false

theorem own : ownKnob Try.prog.godebug = none := by kernel_rfl
theorem laidOut : laidOutB Try.prog = true := by kernel_rfl

set_option maxRecDepth 100000 in
theorem lifted (os : Os) (started : os.Started) (H : Type) (enc : TypeId × Value → H) :
    ReturnsInHanded {} Try.checked os 6 .any (Rows.fnExactWordPackSpec.pre6 enc Try.prog Try.f6 Rows.fnExactWordPackRow.domain false) (Rows.fnExactWordPackSpec.post enc Try.prog Try.f6 false true false false) := by
  refine returnsInHanded_of_change (C := Try.checked) own started (by kernel_rfl) Try.func6
    (ChangeSpec.witness6 (enc := enc) (C := Try.checked) false ⟨#[], #[.agg #[.int .i64 0, .int .i64 0, .int .i64 0, .int .i64 0, .int .i64 0, .int .i64 0, .bool false, .slice none 0 0, .slice none 0 0, .int .i64 0, .slice none 0 0, .int .i64 0, .int .i64 0, .int .i64 0, .string ByteArray.empty, .int .i64 0, .int .i64 0]], []⟩ 8 (by kernel_rfl) (by kernel_rfl) (by kernel_rfl) (by kernel_rfl)) ?_
  intro W base args ds gs before hval0 hW hcnd _
  have hval : ∀ (j : Nat) t v, Try.f6.params[j]? = some t → args[j]? = some v → Value.okWide Try.prog W .any base t v := hval0
  have hW' := hW
  obtain ⟨p, q, hA0, hV, rfl, hfz, hnd⟩ := hW
  have hA : DataW.TrodAll enc Try.prog W 0 (fun _ => true) true Try.f6.params.toList args.toList ds p := hA0
  rw [Try.params6] at hA hval
  obtain ⟨v0, vs0, d0, ds0, p0, q0, hargs, rfl, rfl, h0, r0⟩ := trodAll_cons hA
  obtain ⟨rfl, rfl, rfl⟩ := trodAll_nil r0
  obtain rfl : args = #[v0] := by cases args; simp_all
  obtain ⟨rfl, rfl⟩ := trodVars_none hV
  have k0 := h0
  have lt0 : ∀ x ∈ p0, x.block < W.heap.size := by obtain ⟨m, hm⟩ := k0; exact DataW.trod_lt m _ _ _ hm
  obtain ⟨x0, la0, lb0, lc0, rfl, w0⟩ := open_wordArg Try.underlying39 (by kernel_rfl) rfl rfl Try.underlying3 (by kernel_rfl) Try.underlying4 (by kernel_rfl) Try.underlying23 (by kernel_rfl) Try.underlying36 (by kernel_rfl) Try.underlying113 (by kernel_rfl) rfl rfl rfl rfl Try.underlying37 (by kernel_rfl) rfl rfl Try.underlying9 (by kernel_rfl) (hval 0 39 v0 rfl rfl) h0
  clear hA0 hval0
  refine (lawPack_any x0 la0 lb0 lc0  W w0).mono fun e W' ⟨he, bel⟩ => ?_
  subst he
  exact ⟨_, rfl, _, _, _, [], _, [], hW', trodAll_mk1 (shut_bool Try.underlying4 _), (trodAll_cons_mk (Below.trod laidOut (by kernel_rfl) (of_decide_eq_true (by kernel_rfl)) k0 bel lt0) trodAll_mk0), rfl, bel.frame _, fun h => by cases h⟩

theorem over : Rows.fnExactWordPackRow.holds Try.pinned (OpenSpec.ofChange Rows.fnExactWordPackSpec) :=
  OpenClaim.holds_of_wide 6 Try.f6 rfl rfl rfl rfl rfl rfl rfl ⟨rfl, rfl, rfl, rfl, rfl⟩ rfl rfl rfl rfl rfl (by kernel_rfl) Try.func6 (by kernel_rfl)
    (of_decide_eq_true (by kernel_rfl)) (by unfold Func.isWrapper; first | (rw [if_pos (by decide +kernel)]; kernel_rfl) | (rw [if_neg (by decide +kernel)]; exact ⟨rfl, rfl⟩))
    (fun os started H enc _ => lifted os started H enc)

end PfWordPack

theorem fnExactWordPack_holds : Rows.FnExactWordPackSaid := PfWordPack.over
#print axioms fnExactWordPack_holds
end Go.Proofs.Ytfankbnlgmfdjaa
