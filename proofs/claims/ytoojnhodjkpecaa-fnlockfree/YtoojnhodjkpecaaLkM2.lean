/- Both let go of a lock alike: plain mathematics. -/
import Derived.Test.YtoojnhodjkpecaaLkSG
namespace Go.Proofs.Ytoojnhodjkpecaa
open Go.RowKit

theorem pw_of_asc {hs : List Hd} (h : ascB hs = true) : hs.Pairwise (fun a b => a.stamp < b.stamp) := by
  rw [List.pairwise_iff_getElem]
  intro i j hi hj hij
  have := asc_lt h j i hij hj
  simpa [List.getD, hi, hj] using this

def insR (x : Hd) : List Hd → List Hd
  | [] => [x]
  | y :: r => if x.stamp < y.stamp then x :: y :: r else y :: insR x r

theorem putFold_true (x : Hd) : ∀ (l acc : List Hd), l.foldl (putStep x) (acc, true) = (acc ++ l, true) := by
  intro l
  induction l with
  | nil => intro acc; simp
  | cons y r ih => intro acc; rw [List.foldl_cons, putS_A rfl, ih]; simp
theorem putFold_false (x : Hd) : ∀ (l acc : List Hd), (if (l.foldl (putStep x) (acc, false)).2 = true then (l.foldl (putStep x) (acc, false)).1 else (l.foldl (putStep x) (acc, false)).1 ++ [x]) = acc ++ insR x l := by
  intro l
  induction l with
  | nil => intro acc; simp [insR]
  | cons y r ih =>
    intro acc
    rw [List.foldl_cons]
    by_cases h : x.stamp < y.stamp
    · rw [putS_B rfl h, putFold_true]
      simp [insR, h]
    · rw [putS_C rfl h, ih]
      simp [insR, h]
theorem putL_insR (hs : List Hd) (x : Hd) : putL hs x = insR x hs := by
  have := putFold_false x hs []
  rw [List.nil_append] at this
  unfold putL putFold
  exact this

theorem putI_cons_lt {y x : Hd} {r : List Hd} (h : y.stamp < x.stamp) : putI (y :: r) x = y :: putI r x := by
  simp [putI, posI, List.findIdx_cons, h, insAt]
theorem putI_cons_ge {y x : Hd} {r : List Hd} (h : ¬ y.stamp < x.stamp) : putI (y :: r) x = x :: y :: r := by
  have : posI (y :: r) x.stamp = 0 := by simp [posI, List.findIdx_cons, h]
  simp [putI, this, insAt]
theorem putI_insR {hs : List Hd} {x : Hd} (h : ∀ y ∈ hs, y.stamp ≠ x.stamp) : putI hs x = insR x hs := by
  induction hs with
  | nil => simp [putI, posI, insAt, insR]
  | cons y r ih =>
    have h1 := h y (by simp)
    by_cases hlt : y.stamp < x.stamp
    · have : ¬ x.stamp < y.stamp := by omega
      rw [putI_cons_lt hlt, ih (fun z hz => h z (by simp [hz]))]
      simp [insR, this]
    · have : x.stamp < y.stamp := by omega
      rw [putI_cons_ge hlt]; simp [insR, this]
theorem putI_putL {hs : List Hd} {x : Hd} (h : ∀ y ∈ hs, y.stamp ≠ x.stamp) : putI hs x = putL hs x := by rw [putI_insR h, putL_insR]
theorem putI_end {hs : List Hd} {x : Hd} (h : ∀ y ∈ hs, y.stamp < x.stamp) : putI hs x = hs ++ [x] := by
  induction hs with
  | nil => simp [putI, posI, insAt]
  | cons y r ih => rw [putI_cons_lt (h y (by simp)), ih (fun z hz => h z (by simp [hz]))]; rfl
theorem mem_insR {x : Hd} {hs : List Hd} {z : Hd} (h : z ∈ insR x hs) : z = x ∨ z ∈ hs := by
  induction hs with
  | nil => simpa [insR] using h
  | cons y r ih =>
    unfold insR at h
    split at h
    · simpa using h
    · simp only [List.mem_cons] at h ⊢
      rcases h with h | h
      · exact .inr (.inl h)
      · rcases ih h with h | h
        · exact .inl h
        · exact .inr (.inr h)

theorem meetB_comm (a b : Hd) : meetB a b = meetB b a := by
  unfold meetB
  rw [Bool.and_comm a.share b.share]
  by_cases h : a.stamp = b.stamp
  · rw [h]
  · have h' : b.stamp ≠ a.stamp := fun e => h e.symm
    rw [(by simpa using h : (a.stamp != b.stamp) = true), (by simpa using h' : (b.stamp != a.stamp) = true)]

/-- What is let in and what may hold are one, where who is behind in the row is no elder. -/
theorem may_letIn {slot : Int} {held waits rest : List Hd} {x : Hd} (h : ∀ y ∈ rest, ¬ y.stamp < x.stamp) : mayB ⟨slot, held, waits ++ rest⟩ x = !(held.any (meetB x) || waits.any (behindB x)) := by
  have e1 : held.all (fun y => !meetB y x) = !held.any (meetB x) := by
    induction held with
    | nil => rfl
    | cons a r ih => rw [List.all_cons, List.any_cons, ih, meetB_comm a x]; cases meetB x a <;> simp
  have e2 : waits.all (fun y => !(decide (y.stamp < x.stamp) && meetB y x)) = !waits.any (behindB x) := by
    induction waits with
    | nil => rfl
    | cons a r ih =>
      have e : (decide (a.stamp < x.stamp) && meetB a x) = behindB x a := by rw [meetB_comm a x, behindB, Bool.and_comm]
      rw [List.all_cons, List.any_cons, ih, e]; cases behindB x a <;> simp
  have e3 : rest.all (fun y => !(decide (y.stamp < x.stamp) && meetB y x)) = true := by
    rw [List.all_eq_true]
    intro y hy
    simp [h y hy]
  unfold mayB
  rw [List.all_append, e1, e2, e3]
  cases held.any (meetB x) <;> simp

theorem keep_other {s t : Int} {y : Hd} (h : y.stamp ≠ s) : keepB s t y = true := by
  have : (y.stamp != s) = true := by simpa using h
  simp [keepB, this]
theorem keep_self (x : Hd) : keepB x.stamp x.try_ x = false := by simp [keepB]

theorem free_inv (l : Lk) (s t : Int) (hp : (withoutL l.waits s t).Pairwise (fun a b => a.stamp < b.stamp)) (hd : ∀ y ∈ withoutL l.held s t, ∀ z ∈ withoutL l.waits s t, y.stamp ≠ z.stamp) (k : Nat) (hk : k ≤ (withoutL l.waits s t).length) :
    (freeTo l s t k).1.slot = l.slot ∧ (freeToS l s t k).1.slot = l.slot ∧ (freeTo l s t k).1.held = (freeToS l s t k).1.held ∧ (freeTo l s t k).2 = (freeToS l s t k).2 ∧
    (freeToS l s t k).1.waits = (freeTo l s t k).1.waits ++ (withoutL l.waits s t).drop k ∧ (∀ y ∈ (freeTo l s t k).1.waits, y ∈ (withoutL l.waits s t).take k) ∧ (∀ y ∈ (freeTo l s t k).1.held, ∀ z ∈ (withoutL l.waits s t).drop k, y.stamp ≠ z.stamp) := by
  induction k with
  | zero => simp [freeTo, freeToS]; exact hd
  | succ k ih =>
    obtain ⟨i1, i2, i3, i4, i5, i6, i7⟩ := ih (by omega)
    have hlt : k < (withoutL l.waits s t).length := by omega
    rw [freeTo_step l s t k hlt, freeToS_step l s t k hlt]
    generalize withoutL l.waits s t = W at *
    have hdrop : W.drop k = W.getD k Hd.z :: W.drop (k + 1) := by rw [List.drop_eq_getElem_cons hlt]; simp [List.getD, hlt]
    have htake : W.take (k + 1) = W.take k ++ [W.getD k Hd.z] := by rw [List.take_succ_eq_append_getElem hlt]; simp [List.getD, hlt]
    have hsplit : W = W.take k ++ (W.getD k Hd.z :: W.drop (k + 1)) := by rw [← hdrop]; exact (List.take_append_drop k W).symm
    generalize W.getD k Hd.z = x at *
    have hpw := hp
    rw [hsplit, List.pairwise_append] at hpw
    obtain ⟨_, hp2, hp3⟩ := hpw
    rw [List.pairwise_cons] at hp2
    have hlow : ∀ y ∈ W.take k, y.stamp < x.stamp := fun y hy => hp3 y hy x (by simp)
    have hhigh : ∀ y ∈ W.drop (k + 1), x.stamp < y.stamp := hp2.1
    generalize freeTo l s t k = I at *
    generalize freeToS l s t k = S at *
    obtain ⟨⟨si, Ih, Iw⟩, Ig⟩ := I
    obtain ⟨⟨ss, Sh, Sw⟩, Sg⟩ := S
    simp only at i1 i2 i3 i4 i5 i6 i7 ⊢
    subst i1 i3 i4
    rw [hdrop] at i5 i7
    subst i5
    have hne : ∀ y ∈ Ih, y.stamp ≠ x.stamp := fun y hy => i7 y hy x (by simp)
    have hwl : ∀ y ∈ Iw, y.stamp < x.stamp := fun y hy => hlow y (i6 y hy)
    have hmay : mayB ⟨ss, Ih, Iw ++ (x :: W.drop (k + 1))⟩ x = !(Ih.any (meetB x) || Iw.any (behindB x)) := may_letIn (fun y hy => by
      simp only [List.mem_cons] at hy
      rcases hy with rfl | hy
      · omega
      · have := hhigh y hy; omega)
    cases hc : (Ih.any (meetB x) || Iw.any (behindB x))
    · rw [hc] at hmay
      have hI : freeStepI (⟨l.slot, Ih, Iw⟩, Ig) x = (⟨l.slot, putI Ih x, Iw⟩, Ig ++ [x]) := by simp [freeStepI, letInL, letInC, hc]
      have hS : freeStepS (⟨ss, Ih, Iw ++ (x :: W.drop (k + 1))⟩, Ig) x = (⟨ss, putL Ih x, withoutL (Iw ++ (x :: W.drop (k + 1))) x.stamp x.try_⟩, Ig ++ [x]) := by
        simp only [freeStepS, hmay]; rfl
      rw [hI, hS]
      refine ⟨rfl, i2, putI_putL hne, rfl, ?_, fun y hy => ?_, fun y hy z hz => ?_⟩
      · simp only [withoutL]
        rw [List.filter_append, List.filter_cons, keep_self]
        have f1 : Iw.filter (keepB x.stamp x.try_) = Iw := List.filter_eq_self.2 (fun y hy => keep_other (by have := hwl y hy; omega))
        have f2 : (W.drop (k + 1)).filter (keepB x.stamp x.try_) = W.drop (k + 1) := List.filter_eq_self.2 (fun y hy => keep_other (by have := hhigh y hy; omega))
        rw [f1, f2]; simp
      · rw [htake]; simp only [List.mem_append]; exact .inl (i6 y hy)
      · simp only at hy
        rw [putI_insR hne] at hy
        rcases mem_insR hy with rfl | hy
        · have := hhigh z hz; omega
        · exact i7 y hy z (by simp [hz])
    · rw [hc] at hmay
      have hI : freeStepI (⟨l.slot, Ih, Iw⟩, Ig) x = (⟨l.slot, Ih, putI Iw x⟩, Ig) := by simp [freeStepI, letInL, letInC, hc]
      have hS : freeStepS (⟨ss, Ih, Iw ++ (x :: W.drop (k + 1))⟩, Ig) x = (⟨ss, Ih, Iw ++ (x :: W.drop (k + 1))⟩, Ig) := by
        simp only [freeStepS, hmay]; rfl
      rw [hI, hS]
      refine ⟨rfl, i2, rfl, rfl, ?_, fun y hy => ?_, fun y hy z hz => i7 y hy z (by simp [hz])⟩
      · simp only [putI_end hwl]; simp
      · simp only [putI_end hwl, List.mem_append, List.mem_singleton] at hy
        rw [htake]; simp only [List.mem_append, List.mem_singleton]
        rcases hy with hy | hy
        · exact .inl (i6 y hy)
        · exact .inr hy

theorem held_waits {l : Lk} (h : lockOkB l = true) : ∀ y ∈ l.held, ∀ z ∈ l.waits, y.stamp ≠ z.stamp := by
  obtain ⟨-, -, -, -, -, hw⟩ := lockOk_parts h
  intro y hy z hz e
  have h1 := List.all_eq_true.1 hw z hz
  have : l.held.any (sameB z) = true := List.any_eq_true.2 ⟨y, hy, by simp [sameB, e]⟩
  simp [this] at h1

theorem free_eq (l : Lk) (s t : Int) : freeL l s t = freeSL l s t ∧ freeG l s t = freeSG l s t := by
  cases h : lockOkB l
  · simp [freeL, freeSL, freeG, freeSG, h]
  · obtain ⟨-, -, hh, hw, -, -⟩ := lockOk_parts h
    have hp : (withoutL l.waits s t).Pairwise (fun a b => a.stamp < b.stamp) := (pw_of_asc (asc_of_holds hw)).filter _
    have hd : ∀ y ∈ withoutL l.held s t, ∀ z ∈ withoutL l.waits s t, y.stamp ≠ z.stamp := fun y hy z hz => held_waits h y (List.mem_filter.1 hy).1 z (List.mem_filter.1 hz).1
    obtain ⟨i1, i2, i3, i4, i5, -, -⟩ := free_inv l s t hp hd _ (Nat.le_refl _)
    simp only [freeL, freeSL, freeG, freeSG, h, if_true]
    refine ⟨?_, i4⟩
    rw [List.drop_length, List.append_nil] at i5
    generalize freeTo l s t (withoutL l.waits s t).length = I at *
    generalize freeToS l s t (withoutL l.waits s t).length = S at *
    obtain ⟨⟨si, Ih, Iw⟩, Ig⟩ := I
    obtain ⟨⟨ss, Sh, Sw⟩, Sg⟩ := S
    simp only at i1 i2 i3 i5 ⊢
    rw [i1, i2, i3, i5]

theorem specFreeI_any (l : Lk) (a b : Value) (s t : Int) (w : World) (hv : LkAt w l a b) (hn : l.held.length ≤ 1048576) (hm : l.waits.length ≤ 1048576) :
    Calls Try.prog 23 #[lkV l a b, .int .i64 s, .int .i64 t] w fun e w' => ∃ a' b' r, e = .returned (.tuple #[lkV (freeL l s t) a' b', r]) ∧ OwnLk w' w.heap.size (freeL l s t) a' b' ∧ (OwnR w' w.heap.size (freeG l s t) r ∧ (r.ownBlock = none ∨ r.ownBlock ≠ a'.ownBlock) ∧ (r.ownBlock = none ∨ r.ownBlock ≠ b'.ownBlock)) ∧ Below w.heap.size w w' := by
  rw [(free_eq l s t).1, (free_eq l s t).2]
  exact specFree_any l a b s t w hv hn hm

end Go.Proofs.Ytoojnhodjkpecaa
