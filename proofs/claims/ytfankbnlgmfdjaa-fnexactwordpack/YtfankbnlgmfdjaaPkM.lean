/- Words as bytes: plain mathematics, and slices of bytes. Nothing of the program's text is named here. -/
import Derived.Test.YtfankbnlgmfdjaaWd
import Derived.Test.YtfankbnlgmfdjaaResK
namespace Go.Proofs.Ytfankbnlgmfdjaa
open Go.RowKit

/-- The bytes of a number that is not below 0: seven bits a byte, the lowest first. -/
def natB (n : Nat) : List Int := if h : n < 128 then [(n : Int)] else ((128 + n % 128 : Nat) : Int) :: natB (n / 128)
theorem natB_small {n : Nat} (h : n < 128) : natB n = [(n : Int)] := by rw [natB, dif_pos h]
theorem natB_big {n : Nat} (h : ¬ n < 128) : natB n = ((128 + n % 128 : Nat) : Int) :: natB (n / 128) := by rw [natB, dif_neg h]
theorem natB_length : ∀ (k n : Nat), n < 128 ^ k → 0 < k → (natB n).length ≤ k
  | 0, _, _, h => absurd h (by omega)
  | k + 1, n, h, _ => by
    by_cases hn : n < 128
    · rw [natB_small hn]; simp
    · rw [natB_big hn]
      rcases Nat.eq_zero_or_pos k with rfl | hk
      · simp at h; omega
      · have := natB_length k (n / 128) (by rw [Nat.div_lt_iff_lt_mul (by omega)]; rwa [Nat.pow_succ] at h) hk
        simp only [List.length_cons]; omega

/-- What a number is folded to. -/
def foldN (n : Int) : Nat := if n < 0 then (-2 * n - 1).toNat else (2 * n).toNat
def nbB (n : Int) : List Int := natB (foldN n)
theorem foldN_le {n : Int} {b : Nat} (h0 : -(b : Int) ≤ n) (h1 : n ≤ b) : foldN n ≤ 2 * b := by unfold foldN; split <;> omega
theorem nbB_len {n : Int} (h0 : -100000000 ≤ n) (h1 : n ≤ 100000000) : (nbB n).length ≤ 4 := natB_length 4 _ (by have := foldN_le (b := 100000000) h0 h1; omega) (by omega)
def nbsB (xs : List Int) : List Int := xs.flatMap nbB
theorem nbsB_len {xs : List Int} (h : ∀ x ∈ xs, -100000000 ≤ x ∧ x ≤ 100000000) : (nbsB xs).length ≤ 4 * xs.length := by
  induction xs with
  | nil => simp [nbsB]
  | cons x t ih =>
    have h1 := ih (fun y hy => h y (by simp [hy]))
    have h2 := nbB_len (h x (by simp)).1 (h x (by simp)).2
    simp only [nbsB, List.flatMap_cons, List.length_append, List.length_cons] at h1 ⊢; omega
theorem nbsB_snoc {xs : List Int} {k : Nat} (h : k < xs.length) : nbsB (xs.take (k + 1)) = nbsB (xs.take k) ++ nbB (xs.getD k 0) := by
  rw [take_succ_getD xs 0 k h]; simp [nbsB]

/-- A text's bytes. -/
def textB (s : ByteArray) : List Int := s.data.toList.map fun b => (b.toNat : Int)
theorem textB_length (s : ByteArray) : (textB s).length = s.size := by rw [textB, List.length_map, Array.length_toList]; rfl
def yesN (b : Bool) : Int := if b = true then 1 else 0
def headL (W : Wd) : List Int := [W.kind, W.src, W.dst, W.stamp, W.try_, W.what, yesN W.yes, W.code, W.ses, W.num, W.ck, W.slot, W.house, (W.text.size : Int)]
def prL (ps : List Pr) : List Int := ps.flatMap fun p => [p.key, p.val]
/-- A word's bytes. -/
def packL (W : Wd) : List Int :=
  if wordB W = true then nbsB (headL W) ++ textB W.text ++ (nbB W.slots.length ++ nbsB W.slots) ++ (nbB W.vals.length ++ nbsB W.vals) ++ (nbB W.prs.length ++ nbsB (prL W.prs)) else []

theorem prL_snoc {ps : List Pr} {k : Nat} (h : k < ps.length) : prL (ps.take (k + 1)) = prL (ps.take k) ++ [(ps.getD k Pr.z).key, (ps.getD k Pr.z).val] := by
  rw [take_succ_getD ps Pr.z k h]; simp [prL]
theorem prL_length (ps : List Pr) : (prL ps).length = 2 * ps.length := by
  induction ps with
  | nil => rfl
  | cons p t ih => simp only [prL, List.flatMap_cons, List.length_append, List.length_cons, List.length_nil] at ih ⊢; omega
theorem nbsB_append (xs ys : List Int) : nbsB (xs ++ ys) = nbsB xs ++ nbsB ys := by simp [nbsB]

/-- Of what lay in w only the blocks of S have turned. -/
structure Fw (w w' : World) (S : Nat → Prop) : Prop where
  os : w'.os = w.os
  tape : w'.tape = w.tape
  output : w'.output = w.output
  size : w.heap.size ≤ w'.heap.size
  block : ∀ k, k < w.heap.size → ¬ S k → w'.heap[k]? = w.heap[k]?
theorem Fw.refl (w : World) (S : Nat → Prop) : Fw w w S := ⟨rfl, rfl, rfl, Nat.le_refl _, fun _ _ _ => rfl⟩
theorem fw_gr {w w' : World} {row : Option Nat} (h : w.grownBy w' row) : Fw w w' (fun k => row = some k) := ⟨h.os, h.tape, h.output, h.size, fun k hk hn => h.block k hk (fun e => hn e.symm)⟩
theorem fw_below {w w' : World} (h : Below w.heap.size w w') (S : Nat → Prop) : Fw w w' S := ⟨h.os, h.tape, h.output, h.size, fun k hk _ => h.block k hk⟩
theorem Fw.mono {w w' : World} {S T : Nat → Prop} (h : Fw w w' S) (hs : ∀ k, k < w.heap.size → S k → T k) : Fw w w' T := ⟨h.os, h.tape, h.output, h.size, fun k hk hn => h.block k hk (fun e => hn (hs k hk e))⟩
theorem Fw.trans {a b c : World} {S T : Nat → Prop} (h : Fw a b S) (k : Fw b c T) (ht : ∀ i, i < a.heap.size → T i → S i) : Fw a c S :=
  ⟨k.os.trans h.os, k.tape.trans h.tape, k.output.trans h.output, Nat.le_trans h.size k.size, fun i hi hn => (k.block i (Nat.lt_of_lt_of_le hi h.size) (fun e => hn (ht i hi e))).trans (h.block i hi hn)⟩
theorem Fw.set {a b : World} {S : Nat → Prop} (h : Fw a b S) (g j : Nat) (u : Value) (hg : g < a.heap.size → S g) : Fw a (b.setCell ⟨g, j, none⟩ u) S :=
  h.trans (T := fun k => some g = some k) (fw_gr (grownBy_set (grownBy_refl b (some g)) j u)) (fun i hi e => by cases e; exact hg hi)
theorem Fw.cell {w w' : World} {S : Nat → Prop} (h : Fw w w' S) {b o : Nat} {v : Value} (hn : ¬ S b) (hc : w.cell? ⟨b, o, none⟩ = some v) : w'.cell? ⟨b, o, none⟩ = some v := by
  have hb := h.block b (lt_of_cell hc) hn
  simp only [World.cell?] at hc ⊢
  rw [hb]; exact hc
theorem Fw.box {w w' : World} {S : Nat → Prop} {g : Nat} {T : TypeId} {cs : Array Value} (h : Fw w w' S) (hb : Box w g T cs) (hn : ¬ S g) : Box w' g T cs := ⟨(h.block g hb.lt hn).trans hb.row⟩
theorem Fw.ins {w w' : World} {S : Nat → Prop} {v : Value} {xs : List Int} (h : Fw w w' S) (hi : InsAt w v xs) (hn : ∀ q, v.ownBlock = some q → ¬ S q) : InsAt w' v xs := by
  obtain ⟨a, cap, rfl, h1, h2, h3⟩ := hi
  refine ⟨a, cap, rfl, h1, h2, ?_⟩
  rcases h3 with h3 | ⟨b, off, rfl, hc⟩
  · exact .inl h3
  · exact .inr ⟨b, off, rfl, fun i hi => h.cell (hn b rfl) (hc i hi)⟩
theorem Fw.row {w w' : World} {S : Nat → Prop} {base e k n : Nat} {v : Value} {xs : List Value} (h : Fw w w' S) (ho : w.ownsRow base e k v n xs) (hn : ∀ q, v.ownBlock = some q → ¬ S q) : w'.ownsRow base e k v n xs := by
  obtain ⟨h1, h2⟩ := ho
  refine ⟨h1, ?_⟩
  rcases h2 with h2 | ⟨g, cap, cur, rfl, hg, hh, r⟩
  · exact .inl h2
  · have hlt : g < w.heap.size := by
      rcases Nat.lt_or_ge g w.heap.size with hlt | hge
      · exact hlt
      · rw [Array.getElem?_eq_none hge] at hh; cases hh
    exact .inr ⟨g, cap, cur, rfl, hg, (h.block g hlt (hn g rfl)).trans hh, r⟩
theorem Fw.below {w w' : World} {S : Nat → Prop} {B : Nat} {a : World} (h : Fw w w' S) (hb : Below B a w) (hB : B ≤ w.heap.size) (hn : ∀ k, k < B → ¬ S k) : Below B a w' :=
  ⟨h.os.trans hb.os, h.tape.trans hb.tape, h.output.trans hb.output, Nat.le_trans hb.size h.size, fun k hk => (h.block k (Nat.lt_of_lt_of_le hk hB) (hn k hk)).trans (hb.block k hk)⟩

end Go.Proofs.Ytfankbnlgmfdjaa
