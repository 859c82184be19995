/- A text split at a byte: the library's pieces are those of the cut. -/
import Derived.Test.YtedlhepbbefikaaGreatDoorDcM
import Derived.Lib.SplitLaws
namespace Go.Proofs.YtedlhepbbefikaaGreatDoor

theorem index_none {c : UInt8} : ∀ {l : List UInt8}, c ∉ l → Lib.index l [c] = -1
  | [], _ => by simp [Lib.index]
  | x :: r, h => by
    simp only [List.mem_cons, not_or] at h
    have ih := index_none (c := c) (l := r) h.2
    have hp : ([c] : List UInt8).isPrefixOf (x :: r) = false := by simp [List.isPrefixOf, h.1]
    rw [Lib.index, hp, ih]; simp
theorem index_app {c : UInt8} : ∀ {p r : List UInt8}, c ∉ p → Lib.index (p ++ c :: r) [c] = (p.length : Nat)
  | [], r, _ => by
    have hp : ([c] : List UInt8).isPrefixOf (c :: r) = true := by simp [List.isPrefixOf]
    rw [List.nil_append, Lib.index, hp]; simp
  | x :: p, r, h => by
    simp only [List.mem_cons, not_or] at h
    have ih := index_app (c := c) (p := p) (r := r) h.2
    have hp : ([c] : List UInt8).isPrefixOf (x :: (p ++ c :: r)) = false := by simp [List.isPrefixOf, h.1]
    have hne : (((p.length : Nat) : Int) == -1) = false := by simp
    rw [List.cons_append, Lib.index, hp, ih, hne]; simp

theorem mem_split {c : UInt8} : ∀ {l : List UInt8}, c ∈ l → ∃ p r, c ∉ p ∧ l = p ++ c :: r
  | [], h => by simp at h
  | x :: l, h => by
    by_cases e : x = c
    · subst e; exact ⟨[], l, by simp, rfl⟩
    · obtain ⟨p, r, hp, rfl⟩ := mem_split (c := c) (l := l) (by rcases List.mem_cons.1 h with h | h; exact absurd h.symm e; exact h)
      exact ⟨x :: p, r, by simp only [List.mem_cons, not_or]; exact ⟨fun h => e h.symm, hp⟩, rfl⟩

theorem splitK_cut (c : UInt8) : ∀ (n : Nat) (l : List UInt8), l.length ≤ n → Lib.splitK [c] 0 (Lib.count l [c]) l = cutL c l := by
  intro n
  induction n with
  | zero =>
    intro l h
    have : l = [] := List.eq_nil_of_length_eq_zero (by omega)
    subst this
    rw [Lib.count_one]; rfl
  | succ n ih =>
    intro l h
    rw [Lib.count_one]
    by_cases hc : c ∈ l
    · obtain ⟨p, r, hp, rfl⟩ := mem_split hc
      have e0 : p.count c = 0 := List.count_eq_zero.2 hp
      have e1 : (p ++ c :: r).count c = r.count c + 1 := by rw [List.count_append, e0, List.count_cons_self]; omega
      have hix := index_app (c := c) (p := p) (r := r) hp
      have hne : (((p.length : Nat) : Int) == -1) = false := by simp
      have hr := ih r (by simp at h; omega)
      rw [Lib.count_one] at hr
      rw [e1, Lib.splitK, hix, hne, cutL_app hp]
      simp [hr]
    · rw [cutL_none hc, List.count_eq_zero.2 hc]; rfl

theorem splitB_cut (c : UInt8) (l : List UInt8) : Lib.splitB ⟨#[c]⟩ 0 (Lib.countB ⟨l.toArray⟩ ⟨#[c]⟩) ⟨l.toArray⟩ = (cutL c l).map fun p => (⟨p.toArray⟩ : ByteArray) := by
  have h := Lib.splitB_data ⟨#[c]⟩ 0 (Lib.countB ⟨l.toArray⟩ ⟨#[c]⟩) ⟨l.toArray⟩
  have hk : Lib.countB ⟨l.toArray⟩ ⟨#[c]⟩ = Lib.count l [c] := by show Lib.count _ _ = _; simp
  rw [hk] at h ⊢
  simp only at h
  have h2 : Lib.splitK [c] 0 (Lib.count l [c]) l = cutL c l := splitK_cut c l.length l (Nat.le_refl _)
  have h3 : (Lib.splitB ⟨#[c]⟩ 0 (Lib.count l [c]) ⟨l.toArray⟩).map (·.data.toList) = cutL c l := by simpa [h2] using h
  rw [← h3, List.map_map]
  have : ∀ (L : List ByteArray), L = L.map ((fun p => (⟨p.toArray⟩ : ByteArray)) ∘ fun x => x.data.toList) := by
    intro L
    induction L with
    | nil => rfl
    | cons x r ih =>
      rw [List.map_cons, ← ih]
      congr 1
  exact this _
theorem countB_cut (c : UInt8) (l : List UInt8) : Lib.countB ⟨l.toArray⟩ ⟨#[c]⟩ + 1 = (cutL c l).length := by
  have h := congrArg List.length (splitB_cut c l)
  rw [Lib.splitB_all _ (by simp [ByteArray.size]) 0 _ _ rfl, List.length_map] at h
  exact h

/-- What the program reads of a text. -/
def parseI (t : List UInt8) : Option (List St) := if Lib.hasSuffix t [59] = true then stsI (cutL 59 (Lib.trimSuffix t [59])) else none

theorem hasSuffix_last (p : List UInt8) : Lib.hasSuffix (p ++ [59]) [59] = true := by unfold Lib.hasSuffix; simp
theorem trimSuffix_last (p : List UInt8) : Lib.trimSuffix (p ++ [59]) [59] = p := by
  unfold Lib.trimSuffix; rw [hasSuffix_last]; simp
theorem write_last {D : List St} (h : D ≠ []) : ∃ p, writeL D = p ++ [59] := by
  obtain ⟨E, s, rfl⟩ : ∃ E s, D = E ++ [s] := ⟨D.dropLast, D.getLast h, (List.dropLast_concat_getLast h).symm⟩
  exact ⟨writeL E ++ bodyL s, by simp [writeL, stL]⟩
theorem parseI_write {D : List St} (h : dealOk D = true) : parseI (writeL D) = some D := by
  have hl := (dealOk_num h).1
  have hne : D ≠ [] := by intro e; subst e; simp at hl
  obtain ⟨p, hp⟩ := write_last hne
  have hc := cut_write (dealOk_all h)
  rw [hp] at hc
  rw [cutL_last] at hc
  have hc' := List.append_inj_left' hc rfl
  unfold parseI
  rw [hp, hasSuffix_last, if_pos rfl, trimSuffix_last, hc', stsI_body (dealOk_all h)]
theorem parseI_nil : parseI [] = none := by unfold parseI; rfl

/-- What DealRead answers, by what the program reads. -/
theorem readL_yes {t : List UInt8} {D : List St} (hl : t.length ≤ 80) (h : parseI t = some D) (hw : (if dealOk D = true then writeL D else []) = t) : readL t = some D := by
  cases hok : dealOk D
  · rw [hok] at hw
    simp at hw
    subst hw
    rw [parseI_nil] at h; cases h
  · rw [hok, if_pos rfl] at hw
    exact readL_of hok hl hw
theorem readL_no {t : List UInt8} {D : List St} (h : parseI t = some D) (hw : (if dealOk D = true then writeL D else []) ≠ t) : readL t = none := by
  cases hr : readL t with
  | none => rfl
  | some E =>
    obtain ⟨h1, h2, h3⟩ := readL_some hr
    rw [← h3, parseI_write h2] at h
    injection h with h
    subst h
    rw [h2, if_pos rfl] at hw
    exact absurd h3 hw
theorem readL_none {t : List UInt8} (h : parseI t = none) : readL t = none := by
  cases hr : readL t with
  | none => rfl
  | some E =>
    obtain ⟨h1, h2, h3⟩ := readL_some hr
    rw [← h3, parseI_write h2] at h
    cases h
theorem readL_long {t : List UInt8} (h : 80 < t.length) : readL t = none := by unfold readL; rw [if_neg (by omega)]
theorem readL_S {t : List UInt8} (hl : t.length ≤ 80) (hw : (if dealOk (parseS t) = true then writeL (parseS t) else []) = t) (hne : t ≠ []) : readL t = some (parseS t) := by
  cases hok : dealOk (parseS t)
  · rw [hok] at hw; simp at hw; exact absurd hw hne
  · rw [hok, if_pos rfl] at hw
    unfold readL; rw [if_pos ⟨hl, hok, hw⟩]
theorem readL_Sno {t : List UInt8} (hw : (if dealOk (parseS t) = true then writeL (parseS t) else []) ≠ t) : readL t = none := by
  unfold readL
  split
  · rename_i h; rw [h.2.1, if_pos rfl] at hw; exact absurd h.2.2 hw
  · rfl
theorem readL_nil : readL [] = none := by
  cases hr : readL [] with
  | none => rfl
  | some E =>
    obtain ⟨h1, h2, h3⟩ := readL_some hr
    have := parseI_write h2
    rw [h3, parseI_nil] at this; cases this

theorem stsI_step {C : List (List UInt8)} {k : Nat} {D : List St} {x : St} (hk : k < C.length) (h : stsI (C.take k) = some D) (e : stI (C.getD k []) = some x) : stsI (C.take (k + 1)) = some (D ++ [x]) := by
  rw [take_succ_getD C [] k hk, stsI_app, h]
  generalize C.getD k [] = p at *
  simp only [stsI, e]
theorem stsI_none {C : List (List UInt8)} {k : Nat} (hk : k < C.length) (e : stI (C.getD k []) = none) : stsI C = none := by
  rw [← List.take_append_drop k C, stsI_app]
  have : C.drop k = C.getD k [] :: C.drop (k + 1) := by rw [List.drop_eq_getElem_cons hk]; simp [List.getD, hk]
  rw [this]
  generalize C.getD k [] = p at *
  cases stsI (C.take k) <;> simp only [stsI, e]

end Go.Proofs.YtedlhepbbefikaaGreatDoor
