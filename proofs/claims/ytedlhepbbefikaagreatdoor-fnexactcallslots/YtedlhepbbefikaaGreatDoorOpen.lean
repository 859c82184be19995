/- How a slice of structs that comes in as an argument is opened: as a list of statements, of pairs. -/
import Derived.Test.YtedlhepbbefikaaGreatDoorBase
import Derived.ProofKit
import Derived.OpenShut
import Derived.ShutString
import Derived.ChangeOld
import Derived.Below
import Derived.Deep.Slices
import Derived.Deep.Strs
import Derived.ChangeSame
namespace Go.Proofs.YtedlhepbbefikaaGreatDoor
open Go.ChangeShapes Go.WideShapes Go.ChangeAt Go.RowKit Go.Deep

section
variable {H : Type} {enc : TypeId × Value → H} {P : Program} {w : World} {base : Nat} {spare : Nat → Bool} {held : Bool}

theorem getD_range_map {α : Type} (d : α) (f : Nat → α) (n i : Nat) (h : i < n) : ((List.range n).map f).getD i d = f i := by
  simp [List.getD, h]

theorem open_sts {t e ti : TypeId} {f0 f1 f2 : Field} {fuel : Nat} {a : Option Addr} {len cap : Nat} {x : DataW H × List MemPlace}
    (ht : P.underlying t = some (.slice e)) (he : P.underlying e = some (.struct #[f0, f1, f2])) (ce : P.cellsOf e = 3)
    (o0 : f0.offset = 0) (o1 : f1.offset = 1) (o2 : f2.offset = 2) (t0 : f0.type = ti) (t1 : f1.type = ti) (t2 : f2.type = ti)
    (hi : P.underlying ti = some (.int .i64)) (ci : P.cellsOf ti = 1)
    (h : DataW.trod enc P w base spare held fuel t [.slice a len cap] = some x) : ∃ ss, StsAt w (.slice a len cap) ss := by
  rcases open_slice ht h with ⟨h0, _⟩ | ⟨ad, l, c, m, n, D, Pl, h0, hb, hl, hm, hmm, _, hx⟩
  · simp at h0
    obtain ⟨rfl, rfl, rfl⟩ := h0
    exact ⟨[], none, 0, rfl, by simp, by simp [maxLen], .inl rfl⟩
  · simp at h0
    obtain ⟨rfl, rfl, rfl⟩ := h0
    have hlm : len ≤ m := by rw [hmm]; split <;> omega
    have each : ∀ i, i < len → ∃ s : St, w.cell? (ad.add (i * 3)) = some (.int .i64 s.op) ∧ w.cell? (ad.add (i * 3 + 1)) = some (.int .i64 s.key) ∧ w.cell? (ad.add (i * 3 + 2)) = some (.int .i64 s.num) := fun i hi' => by
      obtain ⟨cs, hcs, htr⟩ := hx i (by omega)
      rw [ce] at hcs
      obtain ⟨_, hlen, hcell⟩ := World.cells?_some hcs
      obtain ⟨y0, y1, y2, n', _, _, g0, g1, g2⟩ := trod_struct3 he htr
      match cs, hlen with
      | [u0, u1, u2], _ =>
        rw [o0, t0, ci] at g0; rw [o1, t1, ci] at g1; rw [o2, t2, ci] at g2
        obtain ⟨z0, e0, _, _⟩ := DataW.trod_int hi g0
        obtain ⟨z1, e1, _, _⟩ := DataW.trod_int hi g1
        obtain ⟨z2, e2, _, _⟩ := DataW.trod_int hi g2
        simp at e0 e1 e2
        subst e0 e1 e2
        refine ⟨⟨z0, z1, z2⟩, ?_, ?_, ?_⟩
        · have := hcell 0 (by omega); rw [Addr.add_add] at this; simpa using this
        · have := hcell 1 (by omega); rw [Addr.add_add] at this; simpa using this
        · have := hcell 2 (by omega); rw [Addr.add_add] at this; simpa using this
    obtain ⟨f, hf⟩ := @choose_lt St ⟨St.z⟩ _ _ each
    refine ⟨(List.range len).map f, some ad, cap, by simp, by simpa using hl, hm, ?_⟩
    by_cases hl0 : len = 0
    · left; subst hl0; rfl
    · right
      obtain ⟨b, off, spot⟩ := ad
      have hspot : spot = none := by
        have := World.cell?_spot (hf 0 (by omega)).1
        simpa [Addr.add] using this
      subst hspot
      refine ⟨b, off, rfl, fun i hi' => ?_⟩
      simp only [List.length_map, List.length_range] at hi'
      rw [getD_range_map St.z f len i hi']
      obtain ⟨g0, g1, g2⟩ := hf i hi'
      rw [add_plain] at g0 g1 g2
      exact ⟨g0, by rw [Nat.add_assoc]; exact g1, by rw [Nat.add_assoc]; exact g2⟩

theorem open_prs {t e ti : TypeId} {f0 f1 : Field} {fuel : Nat} {a : Option Addr} {len cap : Nat} {x : DataW H × List MemPlace}
    (ht : P.underlying t = some (.slice e)) (he : P.underlying e = some (.struct #[f0, f1])) (ce : P.cellsOf e = 2)
    (o0 : f0.offset = 0) (o1 : f1.offset = 1) (t0 : f0.type = ti) (t1 : f1.type = ti)
    (hi : P.underlying ti = some (.int .i64)) (ci : P.cellsOf ti = 1)
    (h : DataW.trod enc P w base spare held fuel t [.slice a len cap] = some x) : ∃ ps, PrsAt w (.slice a len cap) ps := by
  rcases open_slice ht h with ⟨h0, _⟩ | ⟨ad, l, c, m, n, D, Pl, h0, hb, hl, hm, hmm, _, hx⟩
  · simp at h0
    obtain ⟨rfl, rfl, rfl⟩ := h0
    exact ⟨[], none, 0, rfl, by simp, by simp [maxLen], .inl rfl⟩
  · simp at h0
    obtain ⟨rfl, rfl, rfl⟩ := h0
    have hlm : len ≤ m := by rw [hmm]; split <;> omega
    have each : ∀ i, i < len → ∃ s : Pr, w.cell? (ad.add (i * 2)) = some (.int .i64 s.key) ∧ w.cell? (ad.add (i * 2 + 1)) = some (.int .i64 s.val) := fun i hi' => by
      obtain ⟨cs, hcs, htr⟩ := hx i (by omega)
      rw [ce] at hcs
      obtain ⟨_, hlen, hcell⟩ := World.cells?_some hcs
      obtain ⟨y0, y1, n', _, _, g0, g1⟩ := trod_struct2 he htr
      match cs, hlen with
      | [u0, u1], _ =>
        rw [o0, t0, ci] at g0; rw [o1, t1, ci] at g1
        obtain ⟨z0, e0, _, _⟩ := DataW.trod_int hi g0
        obtain ⟨z1, e1, _, _⟩ := DataW.trod_int hi g1
        simp at e0 e1
        subst e0 e1
        refine ⟨⟨z0, z1⟩, ?_, ?_⟩
        · have := hcell 0 (by omega); rw [Addr.add_add] at this; simpa using this
        · have := hcell 1 (by omega); rw [Addr.add_add] at this; simpa using this
    obtain ⟨f, hf⟩ := @choose_lt Pr ⟨Pr.z⟩ _ _ each
    refine ⟨(List.range len).map f, some ad, cap, by simp, by simpa using hl, hm, ?_⟩
    by_cases hl0 : len = 0
    · left; subst hl0; rfl
    · right
      obtain ⟨b, off, spot⟩ := ad
      have hspot : spot = none := by
        have := World.cell?_spot (hf 0 (by omega)).1
        simpa [Addr.add] using this
      subst hspot
      refine ⟨b, off, rfl, fun i hi' => ?_⟩
      simp only [List.length_map, List.length_range] at hi'
      rw [getD_range_map Pr.z f len i hi']
      obtain ⟨g0, g1⟩ := hf i hi'
      rw [add_plain] at g0 g1
      exact ⟨g0, by rw [Nat.add_assoc]; exact g1⟩

end
end Go.Proofs.YtedlhepbbefikaaGreatDoor
