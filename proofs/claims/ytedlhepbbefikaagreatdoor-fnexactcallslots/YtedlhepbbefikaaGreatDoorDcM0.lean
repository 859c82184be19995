/- Texts cut at a byte, and numbers in decimals: plain mathematics. Nothing of the program's text is named here. -/
import Derived.Lib.ItoaMem
import Derived.Lib.AtoiTie
namespace Go.Proofs.YtedlhepbbefikaaGreatDoor

/-- A text cut at each byte of a kind. -/
def cutL (c : UInt8) : List UInt8 → List (List UInt8)
  | [] => [[]]
  | x :: r => if x = c then [] :: cutL c r else match cutL c r with
    | [] => [[x]]
    | h :: t => (x :: h) :: t

theorem cutL_nil (c : UInt8) : cutL c [] = [[]] := rfl
theorem cutL_eq (c : UInt8) (r : List UInt8) : cutL c (c :: r) = [] :: cutL c r := by rw [cutL, if_pos rfl]
theorem cutL_cons {c x : UInt8} (h : x ≠ c) {r : List UInt8} {a : List UInt8} {t : List (List UInt8)} (e : cutL c r = a :: t) : cutL c (x :: r) = (x :: a) :: t := by
  rw [cutL, if_neg h, e]
theorem cutL_ne (c : UInt8) (l : List UInt8) : cutL c l ≠ [] := by
  cases l with
  | nil => simp [cutL]
  | cons x r =>
    rw [cutL]
    split
    · simp
    · split <;> simp
theorem cutL_none {c : UInt8} : ∀ {l : List UInt8}, c ∉ l → cutL c l = [l]
  | [], _ => rfl
  | x :: r, h => by
    simp only [List.mem_cons, not_or] at h
    exact cutL_cons (fun e => h.1 e.symm) (cutL_none h.2)
theorem cutL_app {c : UInt8} : ∀ {p r : List UInt8}, c ∉ p → cutL c (p ++ c :: r) = p :: cutL c r
  | [], r, _ => cutL_eq c r
  | x :: p, r, h => by
    simp only [List.mem_cons, not_or] at h
    exact cutL_cons (fun e => h.1 e.symm) (cutL_app h.2)
theorem cutL_last (c : UInt8) (l : List UInt8) : cutL c (l ++ [c]) = cutL c l ++ [[]] := by
  induction l with
  | nil => exact cutL_eq c []
  | cons x r ih =>
    obtain ⟨a, t, e⟩ : ∃ a t, cutL c r = a :: t := by
      cases h : cutL c r with
      | nil => exact absurd h (cutL_ne c r)
      | cons a t => exact ⟨a, t, rfl⟩
    by_cases h : x = c
    · subst h
      rw [List.cons_append, cutL_eq, cutL_eq, ih]; rfl
    · rw [List.cons_append, cutL_cons h (ih.trans (by rw [e]; rfl)), cutL_cons h e]; rfl
theorem cutL_length_le (c : UInt8) : ∀ l : List UInt8, (cutL c l).length ≤ l.length + 1
  | [] => Nat.le_refl _
  | x :: r => by
    have ih := cutL_length_le c r
    rw [cutL]
    split
    · simp only [List.length_cons]; omega
    · split
      · simp
      · rename_i h; rw [h] at ih; simp only [List.length_cons] at ih ⊢; omega
theorem cutL_part {c : UInt8} : ∀ {l p : List UInt8}, p ∈ cutL c l → p.length ≤ l.length
  | [], p, h => by simp [cutL] at h; subst h; exact Nat.le_refl _
  | x :: r, p, h => by
    rw [cutL] at h
    split at h
    · rcases List.mem_cons.1 h with rfl | h
      · simp
      · have := cutL_part h; simp only [List.length_cons]; omega
    · split at h
      · rw [List.mem_singleton] at h; subst h; simp
      · rename_i a t e
        rcases List.mem_cons.1 h with rfl | h
        · have := cutL_part (c := c) (l := r) (p := a) (by rw [e]; simp); simp only [List.length_cons]; omega
        · have := cutL_part (c := c) (l := r) (p := p) (by rw [e]; simp [h]); simp only [List.length_cons]; omega

/-- What figures spell. -/
def figV (l : List UInt8) : Int := l.foldl (fun n d => n * 10 + ((d.toNat : Int) - 48)) 0
def figB (l : List UInt8) : Bool := l.all fun d => decide (48 ≤ d.toNat) && decide (d.toNat ≤ 57)
theorem figV_snoc (l : List UInt8) (c : UInt8) : figV (l ++ [c]) = figV l * 10 + ((c.toNat : Int) - 48) := by simp [figV, List.foldl_append]
theorem figB_snoc (l : List UInt8) (c : UInt8) : figB (l ++ [c]) = (figB l && (decide (48 ≤ c.toNat) && decide (c.toNat ≤ 57))) := by simp [figB, List.all_append]

theorem dig_toNat {x : Nat} (h : x < 10) : (UInt8.ofNat (48 + x)).toNat = 48 + x := by
  rw [UInt8.toNat_ofNat']; omega

theorem dec_ind {P : Nat → Prop} (h0 : ∀ u, u < 10 → P u) (h1 : ∀ u, ¬ u < 10 → P (u / 10) → P u) (u : Nat) : P u := by
  induction u using Nat.strongRecOn with
  | ind u ih =>
    by_cases h : u < 10
    · exact h0 u h
    · exact h1 u h (ih (u / 10) (by omega))

theorem decDigits_fig (u : Nat) : figB (Lib.decDigits u) = true ∧ figV (Lib.decDigits u) = u := by
  refine dec_ind (P := fun u => figB (Lib.decDigits u) = true ∧ figV (Lib.decDigits u) = u) ?_ ?_ u
  · intro u h
    rw [Lib.decDigits, dif_pos h]
    have := dig_toNat h
    constructor
    · simp only [figB, List.all_cons, List.all_nil, this]; simp; omega
    · simp only [figV, List.foldl_cons, List.foldl_nil, this]; omega
  · intro u h ih
    rw [Lib.decDigits, dif_neg h]
    have hx : u % 10 < 10 := Nat.mod_lt _ (by omega)
    have := dig_toNat hx
    constructor
    · rw [figB_snoc, ih.1, this]; simp; omega
    · rw [figV_snoc, ih.2, this]; omega
theorem decDigits_len (k u : Nat) (h : u < 10 ^ (k + 1)) : 1 ≤ (Lib.decDigits u).length ∧ (Lib.decDigits u).length ≤ k + 1 := by
  induction k generalizing u with
  | zero => rw [Lib.decDigits, dif_pos (by simpa using h)]; simp
  | succ k ih =>
    by_cases hn : u < 10
    · rw [Lib.decDigits, dif_pos hn]; simp
    · rw [Lib.decDigits, dif_neg hn, List.length_append]
      have := ih (u / 10) (by rw [Nat.div_lt_iff_lt_mul (by omega)]; rwa [Nat.pow_succ] at h)
      simp only [List.length_singleton]; omega
theorem fig_mem {l : List UInt8} (h : figB l = true) {c : UInt8} (hc : c ∈ l) : 48 ≤ c.toNat ∧ c.toNat ≤ 57 := by
  have := List.all_eq_true.1 h c hc
  simpa using this

/-- What l1Num reads. -/
def magL (l : List UInt8) : List UInt8 := if l.head? = some 45 then l.tail else l
def numV (l : List UInt8) : Int :=
  if (magL l).length < 1 ∨ 5 < (magL l).length then 0 else if figB (magL l) = true then (if l.head? = some 45 then -figV (magL l) else figV (magL l)) else 0

theorem itoa_pos {n : Int} (h : 0 ≤ n) : Lib.itoa n = Lib.decDigits n.toNat := by unfold Lib.itoa; rw [if_neg (by omega)]
theorem itoa_min {n : Int} (h : n < 0) : Lib.itoa n = 45 :: Lib.decDigits (-n).toNat := by
  unfold Lib.itoa; rw [if_pos h, show n.natAbs = (-n).toNat by omega]
theorem dec_head (u : Nat) : (Lib.decDigits u).head? ≠ some 45 := by
  intro h
  have hm : (45 : UInt8) ∈ Lib.decDigits u := List.mem_of_mem_head? h
  have := fig_mem (decDigits_fig u).1 hm
  simp at this

theorem numV_itoa {n : Int} (h0 : -99999 ≤ n) (h1 : n ≤ 99999) : numV (Lib.itoa n) = n := by
  by_cases hn : n < 0
  · rw [itoa_min hn]
    obtain ⟨hf, hv⟩ := decDigits_fig (-n).toNat
    have hl := decDigits_len 4 (-n).toNat (by omega)
    unfold numV magL
    simp only [List.head?_cons, List.tail_cons, if_true, hf]
    rw [if_neg (by omega), hv]; omega
  · rw [itoa_pos (by omega)]
    obtain ⟨hf, hv⟩ := decDigits_fig n.toNat
    have hl := decDigits_len 4 n.toNat (by omega)
    unfold numV magL
    simp only [if_neg (dec_head _), hf, if_true]
    rw [if_neg (by omega), hv]; omega

theorem itoa_mem {n : Int} {c : UInt8} (h : c ∈ Lib.itoa n) : c.toNat = 45 ∨ 48 ≤ c.toNat := by
  by_cases hn : n < 0
  · rw [itoa_min hn] at h
    rcases List.mem_cons.1 h with rfl | h
    · exact .inl rfl
    · exact .inr (fig_mem (decDigits_fig _).1 h).1
  · rw [itoa_pos (by omega)] at h
    exact .inr (fig_mem (decDigits_fig _).1 h).1
theorem itoa_len {n : Int} (h0 : -99999 ≤ n) (h1 : n ≤ 99999) : 1 ≤ (Lib.itoa n).length ∧ (Lib.itoa n).length ≤ 6 := by
  by_cases hn : n < 0
  · rw [itoa_min hn]
    have hl := decDigits_len 4 (-n).toNat (by omega)
    simp only [List.length_cons]; omega
  · rw [itoa_pos (by omega)]
    have hl := decDigits_len 4 n.toNat (by omega)
    omega

theorem parseU_app : ∀ (l r : List UInt8) (acc u : Nat), Lib.parseUint10 acc l = .ok u → Lib.parseUint10 acc (l ++ r) = Lib.parseUint10 u r
  | [], r, acc, u, h => by simp only [Lib.parseUint10] at h; injection h with h; subst h; rfl
  | c :: l, r, acc, u, h => by
    simp only [Lib.parseUint10, List.cons_append] at h ⊢
    split at h
    · rename_i hd
      rw [if_pos hd]
      split at h
      · cases h
      · rename_i h2
        rw [if_neg h2]
        split at h
        · cases h
        · rename_i h3
          rw [if_neg h3]
          exact parseU_app l r _ u h
    · cases h
theorem parseU_dec (u : Nat) : u < 1000000000000000000 → Lib.parseUint10 0 (Lib.decDigits u) = .ok u := by
  refine dec_ind (P := fun u => u < 1000000000000000000 → Lib.parseUint10 0 (Lib.decDigits u) = .ok u) ?_ ?_ u
  · intro u h _
    rw [Lib.decDigits, dif_pos h]
    have := dig_toNat h
    simp only [Lib.parseUint10, this]
    rw [if_pos (by omega), if_neg (by omega), if_neg (by omega)]
    congr 1; omega
  · intro u h ih hu
    rw [Lib.decDigits, dif_neg h, parseU_app _ _ _ _ (ih (by omega))]
    have hx : u % 10 < 10 := Nat.mod_lt _ (by omega)
    have := dig_toNat hx
    simp only [Lib.parseUint10, this]
    rw [if_pos (by omega), if_neg (by omega), if_neg (by omega)]
    congr 1; omega
theorem atoi_itoa {n : Int} (h0 : -99999 ≤ n) (h1 : n ≤ 99999) : Lib.atoiAll (Lib.itoa n) = .ok n := by
  by_cases hn : n < 0
  · rw [itoa_min hn]
    have hl := decDigits_len 4 (-n).toNat (by omega)
    have hp := parseU_dec (-n).toNat (by omega)
    have hne : Lib.decDigits (-n).toNat ≠ [] := by intro e; rw [e] at hl; simp at hl
    unfold Lib.atoiAll
    have e45 : ((45 : UInt8).toNat = 43 ∨ (45 : UInt8).toNat = 45) := Or.inr rfl
    simp only [if_pos e45]
    unfold Lib.parseMag
    rw [if_neg hne, hp]
    have e1 : (45 : UInt8).toNat = 45 := rfl
    have h2 : ¬ 9223372036854775808 < (-n).toNat := by omega
    simp only [e1, not_true_eq_false, false_and, if_false, h2, and_false, if_true]
    congr 1; omega
  · rw [itoa_pos (by omega)]
    have hl := decDigits_len 4 n.toNat (by omega)
    have hp := parseU_dec n.toNat (by omega)
    have hf := (decDigits_fig n.toNat).1
    generalize hL : Lib.decDigits n.toNat = L at *
    cases L with
    | nil => simp at hl
    | cons c r =>
      have hc := fig_mem hf (List.mem_cons_self (a := c) (l := r))
      unfold Lib.atoiAll
      simp only
      rw [if_neg (by omega)]
      unfold Lib.parseMag
      rw [if_neg (by simp), hp]
      have h45 : ¬ c.toNat = 45 := by omega
      simp only [h45, not_false_eq_true, true_and, false_and, if_false]
      rw [if_neg (by omega)]
      congr 1; omega

theorem fold_bd : ∀ (l : List UInt8) (a : Int), 0 ≤ a → figB l = true → 0 ≤ l.foldl (fun n d => n * 10 + ((d.toNat : Int) - 48)) a ∧ l.foldl (fun n d => n * 10 + ((d.toNat : Int) - 48)) a + 1 ≤ (a + 1) * 10 ^ l.length
  | [], a, ha, _ => by simp; exact ha
  | d :: l, a, ha, h => by
    have hd := fig_mem h (List.mem_cons_self (a := d) (l := l))
    have hl : figB l = true := by simp only [figB, List.all_cons, Bool.and_eq_true] at h ⊢; exact h.2
    obtain ⟨h1, h2⟩ := fold_bd l (a * 10 + ((d.toNat : Int) - 48)) (by omega) hl
    refine ⟨h1, Int.le_trans h2 ?_⟩
    have h3 : a * 10 + ((d.toNat : Int) - 48) + 1 ≤ (a + 1) * 10 := by omega
    have h4 : (0 : Int) ≤ 10 ^ l.length := Int.le_of_lt (Int.pow_pos (by omega))
    have h5 := Int.mul_le_mul_of_nonneg_right h3 h4
    rw [List.length_cons, Int.pow_succ, Int.mul_comm (10 ^ l.length) 10, ← Int.mul_assoc]
    exact h5
theorem figV_bd {l : List UInt8} (h : figB l = true) (hl : l.length ≤ 5) : 0 ≤ figV l ∧ figV l ≤ 99999 := by
  obtain ⟨h1, h2⟩ := fold_bd l 0 (by omega) h
  refine ⟨h1, ?_⟩
  have h3 : (10 : Int) ^ l.length ≤ 10 ^ 5 := by
    have : (10 : Nat) ^ l.length ≤ 10 ^ 5 := Nat.pow_le_pow_right (by omega) hl
    exact_mod_cast this
  unfold figV
  have h4 : (10 : Int) ^ 5 = 100000 := by decide
  omega
theorem figB_take {l : List UInt8} (h : figB l = true) (k : Nat) : figB (l.take k) = true := by
  unfold figB at h ⊢
  rw [List.all_eq_true] at h ⊢
  exact fun x hx => h x (List.mem_of_mem_take hx)
theorem figB_no {l : List UInt8} {k : Nat} {c : UInt8} (hk : l[k]? = some c) (hc : c.toNat < 48 ∨ 57 < c.toNat) : figB l = false := by
  unfold figB
  rw [List.all_eq_false]
  exact ⟨c, List.mem_of_getElem? hk, by simp; omega⟩
theorem take_snocL {l : List UInt8} {k : Nat} {c : UInt8} (hk : l[k]? = some c) : l.take (k + 1) = l.take k ++ [c] := by
  obtain ⟨h, e⟩ := List.getElem?_eq_some_iff.1 hk
  rw [List.take_succ_eq_append_getElem h, e]

end Go.Proofs.YtedlhepbbefikaaGreatDoor
