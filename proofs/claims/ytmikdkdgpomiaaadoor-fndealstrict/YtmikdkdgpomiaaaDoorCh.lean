/- The plain mathematics of a deal that is done: keys with their values, one set after the other. Nothing of the program is named here but what pairs are in form. -/
import Derived.Test.YtmikdkdgpomiaaaDoorPut2
import Derived.Test.YtmikdkdgpomiaaaDoorDealOk
namespace Go.Proofs.YtmikdkdgpomiaaaDoor

/-- The pairs of the first m keys that have one. -/
def chTo (f : Nat → Int) (c : Nat → Bool) : Nat → List Pr
  | 0 => []
  | m + 1 => chTo f c m ++ (if c m = true then [⟨m, f m⟩] else [])

def upd {α : Type} (f : Nat → α) (k : Nat) (v : α) : Nat → α := fun q => if q = k then v else f q

theorem upd_same {α : Type} (f : Nat → α) (k : Nat) (v : α) : upd f k v k = v := by simp [upd]
theorem upd_other {α : Type} (f : Nat → α) (k : Nat) (v : α) (q : Nat) (h : q ≠ k) : upd f k v q = f q := by simp [upd, h]

theorem chTo_length (f : Nat → Int) (c : Nat → Bool) (m : Nat) : (chTo f c m).length ≤ m := by
  induction m with
  | zero => simp [chTo]
  | succ m ih =>
    simp only [chTo, List.length_append]
    split <;> simp <;> omega

theorem chTo_none (f : Nat → Int) (m : Nat) : chTo f (fun _ => false) m = [] := by
  induction m with
  | zero => rfl
  | succ m ih => simp [chTo, ih]

/-- A key above is set: nothing changes below. -/
theorem chTo_below {f : Nat → Int} {c : Nat → Bool} {k : Nat} {v : Int} {m : Nat} (h : m ≤ k) : chTo (upd f k v) (upd c k true) m = chTo f c m := by
  induction m with
  | zero => rfl
  | succ m ih => simp only [chTo, ih (by omega), upd_other f k v m (by omega), upd_other c k true m (by omega)]

/-- Where no key from k to m has one, that part is empty. -/
theorem chTo_gap {f : Nat → Int} {c : Nat → Bool} {k m : Nat} (hkm : k ≤ m) (h : ∀ q, k ≤ q → q < m → c q = false) : chTo f c m = chTo f c k := by
  induction m with
  | zero => have : k = 0 := by omega
            subst this; rfl
  | succ m ih =>
    rcases Nat.lt_or_ge k (m + 1) with hlt | hge
    · simp only [chTo, h m (by omega) (by omega)]
      simpa using ih (by omega) (fun q h1 h2 => h q h1 (by omega))
    · have : k = m + 1 := by omega
      subst this; rfl

theorem chTo_set_gap {f : Nat → Int} {c : Nat → Bool} {k m : Nat} {v : Int} (hkm : k < m) (h : ∀ q, k ≤ q → q < m → c q = false) : chTo (upd f k v) (upd c k true) m = chTo f c k ++ [⟨k, v⟩] := by
  have h1 : chTo (upd f k v) (upd c k true) m = chTo (upd f k v) (upd c k true) (k + 1) := chTo_gap (by omega) (fun q h1 h2 => by rw [upd_other _ _ _ _ (by omega)]; exact h q (by omega) h2)
  rw [h1]
  simp only [chTo, upd_same, if_true, chTo_below (Nat.le_refl k)]

/-- How the specification sets a key in pairs: one step, and the end. -/
def setStep (k v : Int) (s : List Pr × Bool) (p : Pr) : List Pr × Bool :=
  let s1 := if (!s.2 && decide (k ≤ p.key)) = true then (s.1 ++ [⟨k, v⟩], true) else s
  if p.key = k then s1 else (s1.1 ++ [p], s1.2)
def setFold (k v : Int) (ps : List Pr) : List Pr × Bool := ps.foldl (setStep k v) ([], false)
def setP (ps : List Pr) (k v : Int) : List Pr := if (setFold k v ps).2 = true then (setFold k v ps).1 else (setFold k v ps).1 ++ [⟨k, v⟩]

theorem setFold_append (k v : Int) (a b : List Pr) : setFold k v (a ++ b) = b.foldl (setStep k v) (setFold k v a) := by simp [setFold]

theorem setFold_chTo (f : Nat → Int) (c : Nat → Bool) (k : Nat) (v : Int) (m : Nat) :
    ((∀ q, k ≤ q → q < m → c q = false) ∧ setFold k v (chTo f c m) = (chTo f c m, false)) ∨
    (k < m ∧ (∃ q, k ≤ q ∧ q < m ∧ c q = true) ∧ setFold k v (chTo f c m) = (chTo (upd f k v) (upd c k true) m, true)) := by
  induction m with
  | zero => left; exact ⟨fun q h1 h2 => by omega, rfl⟩
  | succ m ih =>
    have hA : setFold k v (chTo f c (m + 1)) = (if c m = true then [⟨m, f m⟩] else ([] : List Pr)).foldl (setStep k v) (setFold k v (chTo f c m)) := by
      simp only [chTo, setFold_append]
    cases hc : c m
    · rw [hA, hc]
      simp only [Bool.false_eq_true, if_false, List.foldl_nil]
      rcases ih with ⟨h1, h2⟩ | ⟨h0, ⟨q, hq1, hq2, hq3⟩, h2⟩
      · left
        refine ⟨fun q hq hq' => ?_, ?_⟩
        · by_cases e : q = m
          · subst e; exact hc
          · exact h1 q hq (by omega)
        · rw [h2]; simp [chTo, hc]
      · right
        refine ⟨by omega, ⟨q, hq1, by omega, hq3⟩, ?_⟩
        rw [h2]; simp [chTo, upd_other c k true m (by omega), hc]
    · rw [hA, hc]
      simp only [if_true, List.foldl_cons, List.foldl_nil]
      rcases ih with ⟨h1, h2⟩ | ⟨h0, ⟨q, hq1, hq2, hq3⟩, h2⟩
      · rw [h2]
        by_cases hkm : k ≤ m
        · right
          refine ⟨by omega, ⟨m, hkm, by omega, hc⟩, ?_⟩
          have hd : (!false && decide ((k : Int) ≤ (m : Int))) = true := by simp; omega
          simp only [setStep, hd, if_true]
          by_cases e : m = k
          · subst e
            simp only [if_true]
            simp only [chTo, upd_same, if_true, chTo_below (Nat.le_refl m)]
          · rw [if_neg (by omega)]
            simp only [chTo, upd_other f k v m e, upd_other c k true m e, hc, if_true]
            rw [chTo_set_gap (by omega) h1, chTo_gap hkm h1]
        · left
          refine ⟨fun q a b => by omega, ?_⟩
          have hd : (!false && decide ((k : Int) ≤ (m : Int))) = false := by simp; omega
          simp only [setStep, hd, Bool.false_eq_true, if_false]
          rw [if_neg (by omega)]; simp [chTo, hc]
      · right
        refine ⟨by omega, ⟨q, hq1, by omega, hq3⟩, ?_⟩
        rw [h2]
        simp only [setStep, Bool.not_true, Bool.false_and, Bool.false_eq_true, if_false]
        rw [if_neg (by omega)]
        simp only [chTo, upd_other f k v m (by omega), upd_other c k true m (by omega), hc, if_true]

theorem setP_chTo (f : Nat → Int) (c : Nat → Bool) (k : Nat) (v : Int) (M : Nat) (hk : k < M) : setP (chTo f c M) k v = chTo (upd f k v) (upd c k true) M := by
  rcases setFold_chTo f c k v M with ⟨h1, h2⟩ | ⟨_, _, h2⟩
  · simp only [setP, h2, Bool.false_eq_true, if_false]
    rw [chTo_set_gap hk h1, chTo_gap (by omega) h1]
  · simp only [setP, h2, if_true]

/-- Whether pairs have a key. -/
def hasP (ps : List Pr) (k : Nat) : Bool := ps.any fun p => decide (p.key = (k : Int))

theorem filter_none {ps : List Pr} {m : Int} (h : ∀ p ∈ ps, ¬ p.key < m) : ps.filter (fun p => decide (p.key < m)) = [] := by
  rw [List.filter_eq_nil_iff]; intro p hp; simpa using h p hp

theorem hasP_none {ps : List Pr} {m : Nat} (h : ∀ p ∈ ps, ¬ p.key = (m : Int)) : hasP ps m = false := by
  rw [hasP, List.any_eq_false]; intro p hp; simpa using h p hp

theorem filter_step {ps : List Pr} (h : ps.Pairwise (fun p q => p.key < q.key)) (m : Nat) :
    ps.filter (fun p => decide (p.key < ((m + 1 : Nat) : Int))) = ps.filter (fun p => decide (p.key < (m : Int))) ++ (if hasP ps m = true then [⟨m, getP ps m⟩] else []) := by
  induction ps with
  | nil => rfl
  | cons p r ih =>
    obtain ⟨h1, h2⟩ := List.pairwise_cons.1 h
    have hh : hasP (p :: r) m = (decide (p.key = (m : Int)) || hasP r m) := rfl
    have hg : getP (p :: r) m = if p.key = (m : Int) then p.val else getP r m := rfl
    rcases Int.lt_trichotomy p.key m with hlt | heq | hgt
    · have d1 : decide (p.key < ((m + 1 : Nat) : Int)) = true := by simp; omega
      have d2 : decide (p.key < (m : Int)) = true := by simpa using hlt
      have d3 : decide (p.key = (m : Int)) = false := by simp; omega
      rw [List.filter_cons, List.filter_cons, if_pos d1, if_pos d2, ih h2, hh, hg, d3, if_neg (c := p.key = (m : Int)) (by omega), Bool.false_or, List.cons_append]
    · have d1 : decide (p.key < ((m + 1 : Nat) : Int)) = true := by simp; omega
      have d2 : ¬ decide (p.key < (m : Int)) = true := by simp; omega
      have d3 : decide (p.key = (m : Int)) = true := by simpa using heq
      rw [List.filter_cons, List.filter_cons, if_pos d1, if_neg d2, hh, hg, d3, if_pos heq, filter_none (fun q hq => by have := h1 q hq; omega), filter_none (fun q hq => by have := h1 q hq; omega)]
      cases p; simp_all
    · have d1 : ¬ decide (p.key < ((m + 1 : Nat) : Int)) = true := by simp; omega
      have d2 : ¬ decide (p.key < (m : Int)) = true := by simp; omega
      have d3 : decide (p.key = (m : Int)) = false := by simp; omega
      rw [List.filter_cons, List.filter_cons, if_neg d1, if_neg d2, filter_none (fun q hq => by have := h1 q hq; omega), filter_none (fun q hq => by have := h1 q hq; omega), hh, d3, hasP_none (fun q hq => by have := h1 q hq; omega)]
      rfl

theorem filter_chTo {ps : List Pr} (h : ps.Pairwise (fun p q => p.key < q.key)) (h0 : ∀ p ∈ ps, 0 ≤ p.key) (m : Nat) :
    ps.filter (fun p => decide (p.key < (m : Int))) = chTo (fun q => getP ps q) (hasP ps) m := by
  induction m with
  | zero => exact filter_none (fun p hp => by have := h0 p hp; simp; omega)
  | succ m ih => rw [filter_step h m, ih]; rfl

theorem inForm_mem {ps : List Pr} (h : inForm ps = true) {p : Pr} (hp : p ∈ ps) : 0 ≤ p.key ∧ p.key ≤ 31 ∧ valB p.val = true := by
  obtain ⟨i, hi, rfl⟩ := List.getElem_of_mem hp
  have h1 := inForm_at h hi
  have e : ps.getD i Pr.z = ps[i] := by simp [List.getD, hi]
  simp only [prAt, Bool.and_eq_true, e] at h1
  obtain ⟨⟨a, b⟩, _⟩ := h1
  simp only [inB, Bool.and_eq_true, decide_eq_true_eq] at a
  exact ⟨a.1, a.2, b⟩

/-- Pairs in form, key by key. -/
theorem inForm_chTo {ps : List Pr} (h : inForm ps = true) : ps = chTo (fun q => getP ps q) (hasP ps) 32 := by
  rw [← filter_chTo (inForm_pairwise h) (fun p hp => (inForm_mem h hp).1) 32]
  symm
  rw [List.filter_eq_self]
  intro p hp; have := inForm_mem h hp; simp; omega

theorem getP_append_none {a b : List Pr} {k : Int} (h : ∀ p ∈ a, ¬ p.key = k) : getP (a ++ b) k = getP b k := by
  induction a with
  | nil => rfl
  | cons p r ih =>
    have := h p (by simp)
    simp only [List.cons_append, getP, if_neg this]
    exact ih (fun q hq => h q (by simp [hq]))

theorem getP_append_some {a b : List Pr} {k : Int} (h : ∃ p ∈ a, p.key = k) : getP (a ++ b) k = getP a k := by
  induction a with
  | nil => obtain ⟨p, hp, _⟩ := h; cases hp
  | cons p r ih =>
    simp only [List.cons_append, getP]
    by_cases e : p.key = k
    · simp [e]
    · simp only [if_neg e]
      obtain ⟨q, hq, hk⟩ := h
      rcases List.mem_cons.1 hq with rfl | hq
      · exact absurd hk e
      · exact ih ⟨q, hq, hk⟩

theorem chTo_mem {f : Nat → Int} {c : Nat → Bool} {m : Nat} {p : Pr} (h : p ∈ chTo f c m) : ∃ q, q < m ∧ c q = true ∧ p = ⟨q, f q⟩ := by
  induction m with
  | zero => cases h
  | succ m ih =>
    rcases List.mem_append.1 h with h | h
    · obtain ⟨q, h1, h2⟩ := ih h; exact ⟨q, by omega, h2⟩
    · cases hc : c m
      · simp [hc] at h
      · simp [hc] at h; exact ⟨m, by omega, hc, h⟩

theorem chTo_has {f : Nat → Int} {c : Nat → Bool} {m q : Nat} (hq : q < m) (hc : c q = true) : (⟨q, f q⟩ : Pr) ∈ chTo f c m := by
  induction m with
  | zero => omega
  | succ m ih =>
    by_cases e : q = m
    · subst e; simp [chTo, hc]
    · exact List.mem_append.2 (.inl (ih (by omega)))

theorem getP_chTo (f : Nat → Int) (c : Nat → Bool) (m q : Nat) : getP (chTo f c m) q = if q < m ∧ c q = true then f q else 0 := by
  induction m with
  | zero => simp [chTo, getP]
  | succ m ih =>
    by_cases hlt : q < m ∧ c q = true
    · rw [if_pos ⟨by omega, hlt.2⟩]
      show getP (chTo f c m ++ _) q = _
      rw [getP_append_some ⟨⟨q, f q⟩, chTo_has hlt.1 hlt.2, rfl⟩, ih, if_pos hlt]
    · show getP (chTo f c m ++ _) q = _
      rw [getP_append_none (fun p hp hk => by
        obtain ⟨r, h1, h2, rfl⟩ := chTo_mem hp
        have : r = q := by simp at hk; omega
        subst this; exact hlt ⟨h1, h2⟩)]
      by_cases hc : c m = true
      · rw [if_pos hc]
        by_cases e : q = m
        · subst e; rw [if_pos ⟨by omega, hc⟩]; simp [getP]
        · rw [if_neg (by rintro ⟨a, b⟩; exact hlt ⟨by omega, b⟩)]; simp [getP]; omega
      · have hno : ¬ (q < m + 1 ∧ c q = true) := by
          rintro ⟨a, b⟩
          by_cases e : q = m
          · subst e; exact hc b
          · exact hlt ⟨by omega, b⟩
        rw [if_neg hc, if_neg hno]; rfl

/-- Where a deal stands: each key's value, whether it was changed, what was got. -/
structure Sta where
  f : Nat → Int
  c : Nat → Bool
  g : List Int

def stepM (x : St) (s : Sta) : Except Int Sta :=
  if x.op = 1 then .ok ⟨s.f, s.c, s.g ++ [s.f x.key.toNat]⟩
  else if x.op = 4 then (if s.f x.key.toNat < x.num then .error 1 else .ok s)
  else if valB (if x.op = 3 then s.f x.key.toNat + x.num else x.num) = true then .ok ⟨upd s.f x.key.toNat (if x.op = 3 then s.f x.key.toNat + x.num else x.num), upd s.c x.key.toNat true, s.g⟩
  else .error 2

def runM : List St → Sta → Except Int Sta
  | [], s => .ok s
  | x :: r, s => match stepM x s with
    | .ok s' => runM r s'
    | .error k => .error k

def startM (ps : List Pr) : Sta := ⟨fun q => getP ps q, fun _ => false, []⟩

/-- What comes of a deal. -/
def codeM : Except Int Sta → Int | .ok _ => 0 | .error k => k
def gotM : Except Int Sta → List Int | .ok s => s.g | .error _ => []
def chM : Except Int Sta → List Pr | .ok s => chTo s.f s.c 32 | .error _ => []
def dealM (ss : List St) (ps : List Pr) : Except Int Sta := if (dealOk ss && inForm ps) = true then runM ss (startM ps) else .error 9

end Go.Proofs.YtmikdkdgpomiaaaDoor
