/- Two statements change places: the plain mathematics. -/
import Derived.Test.YtimnhgncnhmgcaaDealS
import Derived.Test.YtimnhgncnhmgcaaLawStep
import Derived.Test.YtimnhgncnhmgcaaLoQ
namespace Go.Proofs.Ytimnhgncnhmgcaa
open Go.RowKit

def mkV (x : St) (f : Nat → Int) : Int := if x.op = 3 then f x.key.toNat + x.num else x.num

theorem step_make {x : St} (h : x.op = 2 ∨ x.op = 3) (s : Sta) : stepM x s = if valB (mkV x s.f) = true then .ok ⟨upd s.f x.key.toNat (mkV x s.f), upd s.c x.key.toNat true, s.g⟩ else .error 2 := by
  unfold stepM mkV; rw [if_neg (by omega), if_neg (by omega)]

theorem mkV_other {x : St} {f : Nat → Int} {k : Nat} {v : Int} (h : x.key.toNat ≠ k) : mkV x (upd f k v) = mkV x f := by
  unfold mkV; rw [upd_other _ _ _ _ h]

theorem upd_comm {α : Type} (f : Nat → α) {a b : Nat} (u v : α) (h : a ≠ b) : upd (upd f a u) b v = upd (upd f b v) a u := by
  funext q; unfold upd
  by_cases ha : q = a
  · subst ha; simp [h]
  · simp [ha]

theorem two_swap {x y : St} (hx : x.op = 2 ∨ x.op = 3) (hy : y.op = 2 ∨ y.op = 3) (hk : x.key.toNat ≠ y.key.toNat) {s t : Sta} {r : List St} (h : runM (x :: y :: r) s = .ok t) : runM (y :: x :: r) s = .ok t := by
  simp only [runM] at h ⊢
  rw [step_make hx] at h
  rw [step_make hy]
  by_cases v1 : valB (mkV x s.f) = true
  · rw [if_pos v1] at h
    simp only at h
    rw [step_make hy] at h
    simp only [mkV_other (f := s.f) (v := mkV x s.f) (Ne.symm hk)] at h
    by_cases v2 : valB (mkV y s.f) = true
    · rw [if_pos v2] at h ⊢
      simp only at h ⊢
      rw [step_make hx]
      simp only [mkV_other (f := s.f) (v := mkV y s.f) hk, if_pos v1]
      rw [upd_comm s.f _ _ hk, upd_comm s.c _ _ hk] at h
      exact h
    · rw [if_neg v2] at h; cases h
  · rw [if_neg v1] at h; cases h

theorem runM_made {ss : List St} {s s' : Sta} (hl : ∀ x ∈ ss, x.op = 2 ∨ x.op = 3) (h : runM ss s = .ok s') : s'.g = s.g := by
  induction ss generalizing s with
  | nil => cases h; rfl
  | cons x r ih =>
    simp only [runM] at h
    rw [step_make (hl x (by simp))] at h
    by_cases v1 : valB (mkV x s.f) = true
    · rw [if_pos v1] at h
      exact ih (s := ⟨upd s.f x.key.toNat (mkV x s.f), upd s.c x.key.toNat true, s.g⟩) (fun y hy => hl y (by simp [hy])) h
    · rw [if_neg v1] at h; cases h

theorem swap_fin {D : List St} {ps : List Pr} {s : Sta} (hl : ∀ x ∈ D, x.op = 2 ∨ x.op = 3) (h : dealM D ps = .ok s) (h2 : 2 ≤ D.length) (hne : (D.getD 0 St.z).key ≠ (D.getD 1 St.z).key) :
    dealM (D.getD 1 St.z :: D.getD 0 St.z :: D.drop 2) ps = dealM D ps ∧ gotM (dealM D ps) = [] := by
  obtain ⟨ho, hi, hr⟩ := dealM_ok h
  match D, h2 with
  | x :: y :: r, _ =>
    simp only [List.getD_cons_zero, List.getD_cons_succ, List.drop_succ_cons, List.drop_zero] at *
    have hx := mem_parts ho (x := x) (by simp)
    have hy := mem_parts ho (x := y) (by simp)
    have ho' : dealOk (y :: x :: r) = true := dealOk_part ho (by simp) (by simp) (fun z hz => by simp at hz ⊢; rcases hz with h | h | h <;> simp [h])
    have hsw := two_swap (hl x (by simp)) (hl y (by simp)) (by omega) hr
    refine ⟨by rw [h, dealM_run ho' hi]; exact hsw, ?_⟩
    rw [h]; exact runM_made hl hr

theorem stFlat_len (ss : List St) : (stFlat ss).length = ss.length * 3 := by
  induction ss with
  | nil => rfl
  | cons x r ih =>
    have : stFlat (x :: r) = [.int .i64 x.op, .int .i64 x.key, .int .i64 x.num] ++ stFlat r := by simp [stFlat]
    rw [this, List.length_append, ih]; simp; omega

theorem stFlat_one (ss : List St) : ∀ u ∈ stFlat ss, u.oneCell' = true := fun u hu => by
  simp only [stFlat, List.mem_flatMap] at hu
  obtain ⟨s, _, h⟩ := hu
  simp at h
  rcases h with rfl | rfl | rfl <;> rfl

theorem StsAt.srcS {w : World} {ad : Option Addr} {m c : Nat} {ss : List St} (h : StsAt w (.slice ad m c) ss) : m = ss.length ∧ SrcAt w ad ss.length (stFlat ss) := by
  obtain ⟨a, cap, he, h1, h2, h3⟩ := h
  simp at he
  obtain ⟨rfl, rfl, rfl⟩ := he
  refine ⟨rfl, ?_⟩
  rcases h3 with rfl | ⟨b, off, rfl, hc⟩
  · exact .inl ⟨rfl, rfl⟩
  · rcases Nat.eq_zero_or_pos ss.length with h0 | hp
    · left; exact ⟨h0, by rw [List.eq_nil_of_length_eq_zero h0]; rfl⟩
    · refine .inr ⟨hp, _, rfl, fun j u hj => ?_⟩
      have hlen : (stFlat ss).length = ss.length * 3 := stFlat_len ss
      have hjl : j < ss.length * 3 := by rw [← hlen]; exact (List.getElem?_eq_some_iff.1 hj).1
      obtain ⟨c0, c1, c2⟩ := hc (j / 3) (by omega)
      obtain ⟨e0, e1, e2⟩ := stFlat_at ss (j / 3) (by omega)
      have key : w.cell? ⟨b, off + j, none⟩ = some u := by
        rcases (by omega : j = j / 3 * 3 ∨ j = j / 3 * 3 + 1 ∨ j = j / 3 * 3 + 2) with hj3 | hj3 | hj3
        · rw [hj3] at hj ⊢; rw [e0] at hj; rw [← hj]; simpa [Nat.add_assoc] using c0
        · rw [hj3] at hj ⊢; rw [e1] at hj; rw [← hj]; simpa [Nat.add_assoc] using c1
        · rw [hj3] at hj ⊢; rw [e2] at hj; rw [← hj]; simpa [Nat.add_assoc] using c2
      by_cases h0 : j = 0
      · subst h0; simpa [Addr.add] using key
      · simpa [Addr.add, h0] using key

theorem srcCut {w : World} {b off N cx : Nat} {E : List St} (h : StsAt w (.slice (some ⟨b, off + 2 * 3, none⟩) (N - 2) (cx - 2)) E) (hc : N ≤ cx) : SrcAt w (if cx = 2 then some ⟨b, off, none⟩ else some ⟨b, off + 6, none⟩) (N - 2) (stFlat E) := by
  obtain ⟨h1, h2⟩ := h.srcS
  by_cases e : cx = 2
  · left
    have : E.length = 0 := by omega
    rw [List.eq_nil_of_length_eq_zero this]; exact ⟨by omega, rfl⟩
  · rw [if_neg e, h1]; exact h2

end Go.Proofs.Ytimnhgncnhmgcaa
