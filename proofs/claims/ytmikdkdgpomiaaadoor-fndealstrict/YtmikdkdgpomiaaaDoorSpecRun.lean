/- A deal that is done, as the specification does it: the walk. -/
import Derived.Test.YtmikdkdgpomiaaaDoorSet
namespace Go.Proofs.YtmikdkdgpomiaaaDoor
open Go.RowKit

theorem drop_cons_getD {α : Type} {xs : List α} (d : α) {j : Nat} (hj : j < xs.length) : xs.drop j = xs.getD j d :: xs.drop (j + 1) := by
  rw [List.drop_eq_getElem_cons hj]; simp [List.getD, hj]

theorem runM_ok {ss : List St} {j : Nat} {x : St} {s s' : Sta} (hj : j < ss.length) (hx : ss.getD j St.z = x) (h : stepM x s = .ok s') : runM (ss.drop j) s = runM (ss.drop (j + 1)) s' := by
  rw [drop_cons_getD St.z hj, hx]; simp only [runM, h]

theorem runM_err {ss : List St} {j : Nat} {x : St} {s : Sta} {k : Int} (hj : j < ss.length) (hx : ss.getD j St.z = x) (h : stepM x s = .error k) : runM (ss.drop j) s = .error k := by
  rw [drop_cons_getD St.z hj, hx]; simp only [runM, h]

theorem step_get {x : St} {s : Sta} (h : x.op = 1) : stepM x s = .ok ⟨s.f, s.c, s.g ++ [s.f x.key.toNat]⟩ := by simp [stepM, h]
theorem step_refused {x : St} {s : Sta} (h : x.op = 4) (h1 : s.f x.key.toNat < x.num) : stepM x s = .error 1 := by simp [stepM, h, h1]
theorem step_needed {x : St} {s : Sta} (h : x.op = 4) (h1 : ¬ s.f x.key.toNat < x.num) : stepM x s = .ok s := by simp [stepM, h, h1]
theorem step_add {x : St} {s : Sta} (h : x.op = 3) (h1 : valB (s.f x.key.toNat + x.num) = true) : stepM x s = .ok ⟨upd s.f x.key.toNat (s.f x.key.toNat + x.num), upd s.c x.key.toNat true, s.g⟩ := by simp [stepM, h, h1]
theorem step_over {x : St} {s : Sta} (h : x.op = 3) (h1 : valB (s.f x.key.toNat + x.num) = false) : stepM x s = .error 2 := by simp [stepM, h, h1]
theorem step_put {x : St} {s : Sta} (h : x.op = 2) (h1 : valB x.num = true) : stepM x s = .ok ⟨upd s.f x.key.toNat x.num, upd s.c x.key.toNat true, s.g⟩ := by simp [stepM, h, h1]

theorem dealOk_at {ss : List St} (h : dealOk ss = true) {j : Nat} (hj : j < ss.length) : stOk (ss.getD j St.z) = true := by
  simp only [dealOk, Bool.and_eq_true] at h
  exact List.all_eq_true.1 h.2 _ (by simp [List.getD, hj])

theorem dealOk_len {ss : List St} (h : dealOk ss = true) : 1 ≤ ss.length ∧ ss.length ≤ 6 := by
  simp only [dealOk, Bool.and_eq_true, decide_eq_true_eq] at h
  exact h.1

theorem stOk_parts {x : St} (h : stOk x = true) : 1 ≤ x.op ∧ x.op ≤ 4 ∧ 0 ≤ x.key ∧ x.key ≤ 31 ∧ valB x.num = true := by
  simp only [stOk, Bool.and_eq_true, inB, decide_eq_true_eq] at h
  obtain ⟨⟨⟨a, b⟩, c⟩, _⟩ := h
  exact ⟨a.1, a.2, b.1, b.2, c⟩

theorem valB_bounds {n : Int} (h : valB n = true) : -9999 ≤ n ∧ n ≤ 9999 := by simpa [valB, inB] using h

theorem start_val {ps : List Pr} (h : inForm ps = true) (q : Nat) : valB ((startM ps).f q) = true := by
  show valB (getP ps q) = true
  have : ∀ (l : List Pr), (∀ p ∈ l, valB p.val = true) → valB (getP l q) = true := by
    intro l
    induction l with
    | nil => intro _; show valB 0 = true; decide
    | cons p r ih =>
      intro hl
      simp only [getP]; split
      · exact hl p (by simp)
      · exact ih (fun a ha => hl a (by simp [ha]))
  exact this ps (fun p hp => (inForm_mem h hp).2.2)

theorem upd_val {f : Nat → Int} (h : ∀ q, valB (f q) = true) {k : Nat} {n : Int} (hn : valB n = true) (q : Nat) : valB (upd f k n q) = true := by
  unfold upd; split
  · exact hn
  · exact h q

theorem upd_zero {f : Nat → Int} {P : Nat → Bool} (h : ∀ q, P q = false → f q = 0) {k : Nat} {n : Int} (q : Nat) (hq : upd P k true q = false) : upd f k n q = 0 := by
  unfold upd at hq ⊢
  split at hq
  · cases hq
  · rename_i e; rw [if_neg e]; exact h q hq

theorem getP_hasP_none {ps : List Pr} {q : Nat} (h : hasP ps q = false) : getP ps q = 0 := by
  induction ps with
  | nil => rfl
  | cons p r ih =>
    simp only [hasP, List.any_cons, Bool.or_eq_false_iff, decide_eq_false_iff_not] at h
    simp only [getP, if_neg h.1]
    exact ih (by simpa [hasP] using h.2)

theorem getP_now {f : Nat → Int} {P : Nat → Bool} (h : ∀ q, P q = false → f q = 0) {k M : Nat} (hk : k < M) : getP (chTo f P M) k = f k := by
  rw [getP_chTo]
  cases hp : P k
  · simp [h k hp]
  · simp [hk]

theorem Tryd.infoInt2 : (Tryd.prog.info? 3).map (fun i => (i.zero, i.size, i.bytes)) = some (some (.int .i64 0), 1, 8) := by kernel_rfl

theorem PrsAt.lt {w : World} {v : Value} {ps : List Pr} (h : PrsAt w v ps) : ps = [] ∨ ∃ b, v.ownBlock = some b ∧ b < w.heap.size := by
  obtain ⟨a, cap, rfl, h1, h2, h3⟩ := h
  rcases h3 with h3 | ⟨b, off, rfl, hc⟩
  · exact .inl h3
  · by_cases h0 : ps.length = 0
    · exact .inl (List.eq_nil_of_length_eq_zero h0)
    · exact .inr ⟨b, rfl, lt_of_cell (hc 0 (by omega)).1⟩

theorem PrsAt.far' {w w' : World} {row : Option Nat} {v : Value} {ps : List Pr} (h : PrsAt w v ps) (hg : w.grownBy w' row) (hne : ps = [] ∨ v.ownBlock ≠ row) : PrsAt w' v ps := by
  rcases hne with hne | hne
  · obtain ⟨a, cap, hv, h1, h2, _⟩ := h
    exact ⟨a, cap, hv, h1, h2, .inl hne⟩
  · exact h.far hg (.inr hne)

theorem dist_prs {w : World} {v : Value} {ps : List Pr} {row : Option Nat} {g H : Nat} (h : PrsAt w v ps) (hne : ps = [] ∨ v.ownBlock ≠ row) (hat : row = some g ∨ g = H) (hH : w.heap.size ≤ H) : ps = [] ∨ v.ownBlock ≠ some g := by
  rcases hne with hne | hne
  · exact .inl hne
  · rcases hat with hat | hat
    · right; rw [← hat]; exact hne
    · rcases h.lt with h0 | ⟨b, hb, hlt⟩
      · exact .inl h0
      · right; rw [hb]; intro e; simp at e; omega

theorem dist_own {w : World} {base e s : Nat} {v : Value} {n : Nat} {xs : List Value} {row : Option Nat} {g H : Nat} (h : w.ownsRow base e s v n xs) (hne : v.ownBlock = none ∨ v.ownBlock ≠ row) (hat : row = some g ∨ g = H) (hH : w.heap.size ≤ H) : v.ownBlock = none ∨ v.ownBlock ≠ some g := by
  rcases hne with hne | hne
  · exact .inl hne
  · rcases hat with hat | hat
    · right; rw [← hat]; exact hne
    · cases hv : v.ownBlock with
      | none => exact .inl rfl
      | some b => right; have := (h.lt b hv).2; intro e; simp at e; omega

/-- A row that was made later lies elsewhere. -/
theorem dist_new {w w' : World} {base B e s e' s' : Nat} {v u : Value} {n n' : Nat} {xs ys : List Value} (h : w.ownsRow base e s v n xs) (h' : w'.ownsRow B e' s' u n' ys) (hB : w.heap.size ≤ B) : u.ownBlock = none ∨ u.ownBlock ≠ v.ownBlock := by
  cases hu : u.ownBlock with
  | none => exact .inl rfl
  | some b =>
    right
    have h1 := (h'.lt b hu).1
    cases hv : v.ownBlock with
    | none => simp
    | some c => have h2 := (h.lt c hv).2; intro e; simp at e; omega

theorem dist_symm {a b : Option Nat} (h : b = none ∨ b ≠ a) : a = none ∨ a ≠ b := by
  rcases h with h | h
  · subst h; cases a <;> simp
  · exact .inr (fun e => h e.symm)

/-- What comes of a deal, as values in memory. -/
def RunAt (w : World) (base : Nat) (R : Except Int Sta) (a b : Value) : Prop :=
  w.ownsRow base 3 1 a (gotM R).length ((gotM R).map (Value.int .i64)) ∧ w.ownsRow base 199 2 b (chM R).length (prFlat (chM R)) ∧ (a.ownBlock = none ∨ a.ownBlock ≠ b.ownBlock)

theorem runAt_two (w : World) (base : Nat) (hb : base ≤ w.heap.size) (k : Int) : RunAt ((w.alloc (.cells #[] 3)).alloc (.cells #[] 199)) base (.error k) (.slice (some ⟨w.heap.size, 0, none⟩) 0 0) (.slice (some ⟨w.heap.size + 1, 0, none⟩) 0 0) := by
  refine ⟨(World.ownsRow_made w #[] 0 hb (by simp [maxLen]) (by simp)).alloc _, ?_, .inr (by simp [Value.ownBlock])⟩
  have := World.ownsRow_made (w := w.alloc (.cells #[] 3)) (base := base) (e := 199) (size := 2) #[] 0 (by simp; omega) (by simp [maxLen]) (by simp)
  rw [show (w.alloc (.cells #[] 3)).heap.size = w.heap.size + 1 from by simp] at this
  exact this

theorem runAt_two' (w : World) (base : Nat) (hb : base ≤ w.heap.size) (H : Nat) (hH : w.heap.size = H) (k : Int) : RunAt ((w.alloc (.cells #[] 3)).alloc (.cells #[] 199)) base (.error k) (.slice (some ⟨H, 0, none⟩) 0 0) (.slice (some ⟨H + 1, 0, none⟩) 0 0) := by
  subst hH; exact runAt_two w base hb k

end Go.Proofs.YtmikdkdgpomiaaaDoor
