/- Texts of deals: plain mathematics. -/
import Derived.Test.YtedlhepbbefikaaGreatDoorDcM0
import Derived.Test.YtedlhepbbefikaaGreatDoorDealOk
namespace Go.Proofs.YtedlhepbbefikaaGreatDoor

/-- What a statement begins with. -/
def opW (op : Int) : List UInt8 := if op = 1 then [103, 101, 116] else if op = 2 then [112, 117, 116] else if op = 3 then [97, 100, 100] else [110, 101, 101, 100]
def opV (l : List UInt8) : Int := if l = [110, 101, 101, 100] then 4 else if l = [97, 100, 100] then 3 else if l = [112, 117, 116] then 2 else if l = [103, 101, 116] then 1 else 0
/-- A statement without its end. -/
def bodyL (s : St) : List UInt8 := opW s.op ++ 32 :: (if s.op = 1 then Lib.itoa s.key else Lib.itoa s.key ++ 32 :: Lib.itoa s.num)
def stL (s : St) : List UInt8 := bodyL s ++ [59]
def writeL (D : List St) : List UInt8 := D.flatMap stL

/-- What the specification reads of a part, and of a text. -/
def stOfL (part : List UInt8) : St :=
  ⟨opV ((cutL 32 part).getD 0 []), if 1 < (cutL 32 part).length then numV ((cutL 32 part).getD 1 []) else 0, if 2 < (cutL 32 part).length then numV ((cutL 32 part).getD 2 []) else 0⟩
def parseS (t : List UInt8) : List St := (cutL 59 t).dropLast.map stOfL
/-- What a text is read as. -/
def readL (t : List UInt8) : Option (List St) := if t.length ≤ 80 ∧ dealOk (parseS t) = true ∧ writeL (parseS t) = t then some (parseS t) else none

theorem stOk_bds {s : St} (h : stOk s = true) : 1 ≤ s.op ∧ s.op ≤ 4 ∧ 0 ≤ s.key ∧ s.key ≤ 31 ∧ -9999 ≤ s.num ∧ s.num ≤ 9999 ∧ (s.op = 1 → s.num = 0) := by
  unfold stOk valB inB at h
  simp only [Bool.and_eq_true, decide_eq_true_eq, Bool.not_eq_true', Bool.and_eq_false_iff, beq_eq_false_iff_ne, bne_eq_false_iff_eq] at h
  obtain ⟨⟨⟨⟨h1, h2⟩, h3, h4⟩, h5, h6⟩, h7⟩ := h
  refine ⟨h1, h2, h3, h4, h5, h6, fun e => ?_⟩
  rcases h7 with h7 | h7
  · exact absurd e h7
  · exact h7

theorem opW_mem {op : Int} {c : UInt8} (h : c ∈ opW op) : 97 ≤ c.toNat := by
  unfold opW at h
  split at h
  · simp at h; rcases h with rfl | rfl | rfl <;> decide
  · split at h
    · simp at h; rcases h with rfl | rfl | rfl <;> decide
    · split at h
      · simp at h; rcases h with rfl | rfl <;> decide
      · simp at h; rcases h with rfl | rfl | rfl <;> decide
theorem opV_opW {op : Int} (h1 : 1 ≤ op) (h4 : op ≤ 4) : opV (opW op) = op := by
  have : op = 1 ∨ op = 2 ∨ op = 3 ∨ op = 4 := by omega
  rcases this with rfl | rfl | rfl | rfl <;> decide

theorem no32 {n : Int} : (32 : UInt8) ∉ Lib.itoa n := fun h => by have := itoa_mem h; simp at this
theorem no59_itoa {n : Int} (h0 : -99999 ≤ n) (h1 : n ≤ 99999) : (59 : UInt8) ∉ Lib.itoa n := fun h => by
  by_cases hn : n < 0
  · rw [itoa_min hn] at h
    rcases List.mem_cons.1 h with h | h
    · cases h
    · have := (fig_mem (decDigits_fig _).1 h).2; simp at this
  · rw [itoa_pos (by omega)] at h
    have := (fig_mem (decDigits_fig _).1 h).2; simp at this
theorem no32_op {op : Int} : (32 : UInt8) ∉ opW op := fun h => by have := opW_mem h; simp at this
theorem no59_op {op : Int} : (59 : UInt8) ∉ opW op := fun h => by have := opW_mem h; simp at this

theorem cut_body (s : St) : cutL 32 (bodyL s) = opW s.op :: (if s.op = 1 then [Lib.itoa s.key] else [Lib.itoa s.key, Lib.itoa s.num]) := by
  unfold bodyL
  rw [cutL_app no32_op]
  split
  · rw [cutL_none no32]
  · rw [cutL_app no32, cutL_none no32]

theorem stOfL_body {s : St} (h : stOk s = true) : stOfL (bodyL s) = s := by
  obtain ⟨h1, h2, h3, h4, h5, h6, h7⟩ := stOk_bds h
  obtain ⟨op, key, num⟩ := s
  simp only at h1 h2 h3 h4 h5 h6 h7
  unfold stOfL
  rw [cut_body]
  have e1 := opV_opW h1 h2
  have e2 := numV_itoa (n := key) (by omega) (by omega)
  have e3 := numV_itoa (n := num) (by omega) (by omega)
  by_cases ho : op = 1
  · have e4 := h7 ho
    simp [ho] at e1 ⊢
    exact ⟨e1, e2, e4.symm⟩
  · simp [ho, e1, e2, e3]

theorem no59_body {s : St} (h : stOk s = true) : (59 : UInt8) ∉ bodyL s := by
  obtain ⟨h1, h2, h3, h4, h5, h6, h7⟩ := stOk_bds h
  unfold bodyL
  intro hm
  have a1 := no59_itoa (n := s.key) (by omega) (by omega)
  have a2 := no59_itoa (n := s.num) (by omega) (by omega)
  rcases List.mem_append.1 hm with hm | hm
  · exact no59_op hm
  · rcases List.mem_cons.1 hm with hm | hm
    · cases hm
    · split at hm
      · exact a1 hm
      · rcases List.mem_append.1 hm with hm | hm
        · exact a1 hm
        · rcases List.mem_cons.1 hm with hm | hm
          · cases hm
          · exact a2 hm

theorem cut_write : ∀ {D : List St}, D.all stOk = true → cutL 59 (writeL D) = D.map bodyL ++ [[]]
  | [], _ => rfl
  | s :: D, h => by
    rw [List.all_cons, Bool.and_eq_true] at h
    have e : writeL (s :: D) = bodyL s ++ 59 :: writeL D := by simp [writeL, stL]
    rw [e, cutL_app (no59_body h.1), cut_write h.2]; rfl

theorem parse_write {D : List St} (h : D.all stOk = true) : parseS (writeL D) = D := by
  unfold parseS
  rw [cut_write h, List.dropLast_concat, List.map_map]
  have : ∀ (D : List St), D.all stOk = true → D.map (stOfL ∘ bodyL) = D := by
    intro D
    induction D with
    | nil => intro _; rfl
    | cons s D ih =>
      intro h
      rw [List.all_cons, Bool.and_eq_true] at h
      rw [List.map_cons, ih h.2]
      show stOfL (bodyL s) :: D = _
      rw [stOfL_body h.1]
  exact this D h

theorem dealOk_all {D : List St} (h : dealOk D = true) : D.all stOk = true := by
  unfold dealOk at h; rw [Bool.and_eq_true] at h; exact h.2
theorem dealOk_num {D : List St} (h : dealOk D = true) : 1 ≤ D.length ∧ D.length ≤ 6 := by
  unfold dealOk at h; simp only [Bool.and_eq_true, decide_eq_true_eq] at h; exact h.1

theorem readL_some {t : List UInt8} {D : List St} (h : readL t = some D) : t.length ≤ 80 ∧ dealOk D = true ∧ writeL D = t := by
  unfold readL at h
  split at h
  · rename_i hc; injection h with h; subst h; exact hc
  · cases h
theorem readL_write {D : List St} (h : dealOk D = true) (hl : (writeL D).length ≤ 80) : readL (writeL D) = some D := by
  unfold readL
  rw [parse_write (dealOk_all h), if_pos ⟨hl, h, rfl⟩]
theorem readL_of {t : List UInt8} {D : List St} (h : dealOk D = true) (hl : t.length ≤ 80) (e : writeL D = t) : readL t = some D := by
  subst e; exact readL_write h hl

theorem stL_len {s : St} (h : stOk s = true) : 7 ≤ (stL s).length + 1 ∧ (stL s).length ≤ 19 := by
  obtain ⟨h1, h2, h3, h4, h5, h6, h7⟩ := stOk_bds h
  have a1 := itoa_len (n := s.key) (by omega) (by omega)
  have a2 := itoa_len (n := s.num) (by omega) (by omega)
  have a3 : 3 ≤ (opW s.op).length ∧ (opW s.op).length ≤ 4 := by
    unfold opW; (repeat' split) <;> simp
  unfold stL bodyL
  split <;> simp only [List.length_append, List.length_cons, List.length_nil] <;> omega

/-- What the program reads of a statement's words, of a part, and of a text. -/
def stW (ws : List (List UInt8)) : Option St :=
  if opV (ws.getD 0 []) = 1 ∧ ws.length = 2 then
    match Lib.atoiAll (ws.getD 1 []) with
    | .ok k => some ⟨1, k, 0⟩
    | _ => none
  else if opV (ws.getD 0 []) = 0 ∨ opV (ws.getD 0 []) = 1 ∨ ws.length ≠ 3 then none
  else match Lib.atoiAll (ws.getD 1 []), Lib.atoiAll (ws.getD 2 []) with
    | .ok k, .ok n => some ⟨opV (ws.getD 0 []), k, n⟩
    | _, _ => none
def stI (part : List UInt8) : Option St := stW (cutL 32 part)

theorem stI_body {s : St} (h : stOk s = true) : stI (bodyL s) = some s := by
  obtain ⟨h1, h2, h3, h4, h5, h6, h7⟩ := stOk_bds h
  obtain ⟨op, key, num⟩ := s
  simp only at h1 h2 h3 h4 h5 h6 h7
  unfold stI
  rw [cut_body]
  unfold stW
  have e1 := opV_opW h1 h2
  have e2 := atoi_itoa (n := key) (by omega) (by omega)
  have e3 := atoi_itoa (n := num) (by omega) (by omega)
  by_cases ho : op = 1
  · have e4 := h7 ho
    simp only [ho] at e1 ⊢
    simp [e1, e2, e4]
  · simp [ho, e1, e2, e3]
    omega

/-- What the program reads of the parts, one behind the other. -/
def stsI : List (List UInt8) → Option (List St)
  | [] => some []
  | p :: r => match stI p, stsI r with
    | some s, some D => some (s :: D)
    | _, _ => none
theorem stsI_body : ∀ {D : List St}, D.all stOk = true → stsI (D.map bodyL) = some D
  | [], _ => rfl
  | s :: D, h => by
    rw [List.all_cons, Bool.and_eq_true] at h
    rw [List.map_cons, stsI, stI_body h.1, stsI_body h.2]
theorem stsI_app (a b : List (List UInt8)) : stsI (a ++ b) = match stsI a, stsI b with
    | some x, some y => some (x ++ y)
    | _, _ => none := by
  induction a with
  | nil => simp only [List.nil_append, stsI]; cases stsI b <;> rfl
  | cons p a ih =>
    rw [List.cons_append, stsI, ih, stsI]
    cases stI p <;> cases stsI a <;> cases stsI b <;> rfl

end Go.Proofs.YtedlhepbbefikaaGreatDoor
