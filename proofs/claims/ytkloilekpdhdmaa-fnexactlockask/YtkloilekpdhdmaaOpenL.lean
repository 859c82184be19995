/- How a lock, or a hold, that comes in as an argument is opened. -/
import Derived.Test.YtkloilekpdhdmaaHkA
import Derived.Test.YtkloilekpdhdmaaOpenM
import Derived.Test.YtkloilekpdhdmaaOpen
namespace Go.Proofs.Ytkloilekpdhdmaa
open Go.ChangeShapes Go.WideShapes Go.ChangeAt Go.RowKit Go.Deep Go.Joins

section
variable {H : Type} {enc : TypeId × Value → H} {P : Program} {w : World} {base : Nat} {spare : Nat → Bool} {held : Bool}

theorem open_hds {t e ti tb : TypeId} {f0 f1 f2 f3 : Field} {fuel : Nat} {a : Option Addr} {len cap : Nat} {x : DataW H × List MemPlace}
    (ht : P.underlying t = some (.slice e)) (he : P.underlying e = some (.struct #[f0, f1, f2, f3])) (ce : P.cellsOf e = 4)
    (o0 : f0.offset = 0) (o1 : f1.offset = 1) (o2 : f2.offset = 2) (o3 : f3.offset = 3) (t0 : f0.type = ti) (t1 : f1.type = ti) (t2 : f2.type = tb) (t3 : f3.type = tb)
    (hi : P.underlying ti = some (.int .i64)) (ci : P.cellsOf ti = 1) (hbl : P.underlying tb = some .bool) (cb : P.cellsOf tb = 1)
    (h : DataW.trod enc P w base spare held fuel t [.slice a len cap] = some x) : ∃ hs, RowAt hdE w (.slice a len cap) hs := by
  rcases open_slice ht h with ⟨h0, _⟩ | ⟨ad, l, c, m, n, D, Pl, h0, hb, hl', hm, hmm, _, hx⟩
  · simp at h0
    obtain ⟨rfl, rfl, rfl⟩ := h0
    exact ⟨[], RowAt.nil w⟩
  · simp at h0
    obtain ⟨rfl, rfl, rfl⟩ := h0
    have hlm : len ≤ m := by rw [hmm]; split <;> omega
    have each : ∀ i, i < len → ∃ s : Hd, w.cell? (ad.add (i * 4)) = some (.int .i64 s.stamp) ∧ w.cell? (ad.add (i * 4 + 1)) = some (.int .i64 s.try_) ∧ w.cell? (ad.add (i * 4 + 2)) = some (.bool s.share) ∧ w.cell? (ad.add (i * 4 + 3)) = some (.bool s.firm) := fun i hi' => by
      obtain ⟨cs, hcs, htr⟩ := hx i (by omega)
      rw [ce] at hcs
      obtain ⟨_, hlen, hcell⟩ := World.cells?_some hcs
      obtain ⟨y0, y1, y2, y3, n', _, _, g0, g1, g2, g3⟩ := trod_struct4 he htr
      match cs, hlen with
      | [u0, u1, u2, u3], _ =>
        rw [o0, t0, ci] at g0; rw [o1, t1, ci] at g1; rw [o2, t2, cb] at g2; rw [o3, t3, cb] at g3
        obtain ⟨z0, e0, _, _⟩ := DataW.trod_int hi g0
        obtain ⟨z1, e1, _, _⟩ := DataW.trod_int hi g1
        obtain ⟨z2, e2, _⟩ := DataW.trod_bool hbl g2
        obtain ⟨z3, e3, _⟩ := DataW.trod_bool hbl g3
        simp at e0 e1 e2 e3
        subst e0 e1 e2 e3
        refine ⟨⟨z0, z1, z2, z3⟩, ?_, ?_, ?_, ?_⟩
        · have := hcell 0 (by omega); rw [Addr.add_add] at this; simpa using this
        · have := hcell 1 (by omega); rw [Addr.add_add] at this; simpa using this
        · have := hcell 2 (by omega); rw [Addr.add_add] at this; simpa using this
        · have := hcell 3 (by omega); rw [Addr.add_add] at this; simpa using this
    obtain ⟨f, hf⟩ := @choose_lt Hd ⟨Hd.z⟩ _ _ each
    have hlen : ((List.range len).map f).length = len := by simp
    by_cases hl0 : len = 0
    · subst hl0
      exact ⟨[], _, cap, rfl, by simp, hm, .inl rfl⟩
    · obtain ⟨b, off, spot⟩ := ad
      have hspot : spot = none := by
        have := World.cell?_spot (hf 0 (by omega)).1
        simpa [Addr.add] using this
      subst hspot
      refine ⟨(List.range len).map f, ?_⟩
      have := row_of_hdCells (w := w) (b := b) (off := off) (c := cap) (hs := (List.range len).map f) (by rw [hlen]; exact hl') hm (fun i hi' => by
        rw [hlen] at hi'
        rw [getD_range_map Hd.z f len i hi']
        obtain ⟨g0, g1, g2, g3⟩ := hf i hi'
        rw [add_plain] at g0 g1 g2 g3
        exact ⟨g0, by rw [Nat.add_assoc]; exact g1, by rw [Nat.add_assoc]; exact g2, by rw [Nat.add_assoc]; exact g3⟩)
      rwa [hlen] at this

theorem open_lockArg {r : Reach} {b0 : Nat} {t ti tb tl te : TypeId} {f0 f1 f2 h0 h1 h2 h3 : Field} {v : Value} {d : DataW H} {p : List MemPlace}
    (hs : P.underlying t = some (.struct #[f0, f1, f2])) (hone : oneCellFields P #[f0, f1, f2] = true) (hC : P.cellsOf t = 3) (t0 : f0.type = ti) (t1 : f1.type = tl) (t2 : f2.type = tl)
    (hi : P.underlying ti = some (.int .i64)) (ci : P.cellsOf ti = 1) (hbl : P.underlying tb = some .bool) (cb : P.cellsOf tb = 1) (hl : P.underlying tl = some (.slice te))
    (he : P.underlying te = some (.struct #[h0, h1, h2, h3])) (ce : P.cellsOf te = 4)
    (o0 : h0.offset = 0) (o1 : h1.offset = 1) (o2 : h2.offset = 2) (o3 : h3.offset = 3) (e0 : h0.type = ti) (e1 : h1.type = ti) (e2 : h2.type = tb) (e3 : h3.type = tb)
    (hv : Value.okWide P w r b0 t v) (h : DataW.Trod enc P w base spare held t v d p) : ∃ (l : Lk) (a b : Value), v = lkV l a b ∧ LkAt w l a b := by
  obtain ⟨v0, v1, v2, y0, y1, y2, n, rfl, _, _, g0, g1, g2⟩ := open_agg3 hs hone hC hv h
  rw [t0] at g0; rw [t1] at g1; rw [t2] at g2
  obtain ⟨x, k0, _, _⟩ := DataW.trod_int hi g0
  simp at k0
  subst k0
  obtain ⟨pa, pl, pc, hpv⟩ := slice_form hl g1
  simp at hpv
  subst hpv
  obtain ⟨qa, ql, qc, hqv⟩ := slice_form hl g2
  simp at hqv
  subst hqv
  obtain ⟨hs1, hh1⟩ := open_hds hl he ce o0 o1 o2 o3 e0 e1 e2 e3 hi ci hbl cb g1
  obtain ⟨hs2, hh2⟩ := open_hds hl he ce o0 o1 o2 o3 e0 e1 e2 e3 hi ci hbl cb g2
  exact ⟨⟨x, hs1, hs2⟩, _, _, rfl, hh1, hh2⟩

theorem open_holdArg {r : Reach} {b0 : Nat} {t ti tb : TypeId} {h0 h1 h2 h3 : Field} {v : Value} {d : DataW H} {p : List MemPlace}
    (hs : P.underlying t = some (.struct #[h0, h1, h2, h3])) (hone : oneCellFields P #[h0, h1, h2, h3] = true) (hC : P.cellsOf t = 4)
    (e0 : h0.type = ti) (e1 : h1.type = ti) (e2 : h2.type = tb) (e3 : h3.type = tb)
    (hi : P.underlying ti = some (.int .i64)) (hbl : P.underlying tb = some .bool)
    (hv : Value.okWide P w r b0 t v) (h : DataW.Trod enc P w base spare held t v d p) : ∃ (x : Hd), v = hdV x := by
  obtain ⟨v0, v1, v2, v3, y0, y1, y2, y3, n, rfl, _, _, g0, g1, g2, g3⟩ := open_agg4 hs hone hC hv h
  rw [e0] at g0; rw [e1] at g1; rw [e2] at g2; rw [e3] at g3
  obtain ⟨z0, k0, _, _⟩ := DataW.trod_int hi g0
  obtain ⟨z1, k1, _, _⟩ := DataW.trod_int hi g1
  obtain ⟨z2, k2, _⟩ := DataW.trod_bool hbl g2
  obtain ⟨z3, k3, _⟩ := DataW.trod_bool hbl g3
  simp at k0 k1 k2 k3
  subst k0 k1 k2 k3
  exact ⟨⟨z0, z1, z2, z3⟩, rfl⟩

end
end Go.Proofs.Ytkloilekpdhdmaa
