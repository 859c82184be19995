/- Locks of a house at first: eight, free. The specification's. -/
import Derived.Test.YtefbmbdemlcajaaRows
import Derived.Test.YtefbmbdemlcajaaRw
import Derived.Test.YtefbmbdemlcajaaHkA
namespace Go.Proofs.Ytefbmbdemlcajaa
open Go.RowKit

/-- The cells of a lock that is free. -/
def lk0E (i : Int) : List Value := [.int .i64 i, .slice none 0 0, .slice none 0 0]
theorem lk0E_len (i : Int) : (lk0E i).length = 3 := rfl
def upto (k : Nat) : List Int := (List.range k).map fun (i : Nat) => (i : Int)
theorem upto_length (k : Nat) : (upto k).length = k := by simp [upto]
theorem upto_succ (k : Nat) : upto (k + 1) = upto k ++ [(k : Int)] := by simp [upto, List.range_succ]
theorem upto_at (k i : Nat) (h : i < k) : (upto k).getD i 0 = (i : Int) := by simp [upto, List.getD, h]

theorem Try.infoLk : (Try.prog.info? 42).map (fun i => (i.zero, i.size, i.bytes)) = some (some (.agg #[.int .i64 0, .slice none 0 0, .slice none 0 0]), 3, 56) := by kernel_rfl

set_option maxRecDepth 100000 in
set_option maxHeartbeats 1000000 in
theorem l21Locks_any (w : World) :
    Calls Try.prog 10 #[] w fun e w' => ∃ r, e = .returned r ∧ w'.ownsRow w.heap.size 42 3 r 8 ((upto 8).flatMap lk0E) ∧ Below w.heap.size w w' := by
  obtain ⟨i0, hi, hz0, hz1, hz2⟩ := info_parts Try.infoLk
  go_enter Try.func10, Try.ntmps10
  go_wp2_with fail
  go_loopw [1, 2] (fun r i wr => ∃ k : Nat, k ≤ 8 ∧ i = .int .i64 k ∧ wr.ownsRow w.heap.size 42 3 r k ((upto k).flatMap lk0E) ∧ Below w.heap.size w wr) (fun _ i _ => 8 - (intOf i).toNat)
  case atStart =>
    refine ⟨0, Nat.zero_le _, rfl, ?_, (Below.refl _ _).alloc (Nat.le_refl _) _⟩
    exact World.ownsRow_made (w := w) (base := w.heap.size) (e := 42) (size := 3) #[] 0 (by simp) (by simp [maxLen]) (by simp)
  case round =>
    obtain ⟨k, hk, rfl, hown, hb⟩ := hrel
    have hsz := hb.size
    have HOW := hide hown
    have HB := hide hb
    have hne : (upto (k + 1)).flatMap lk0E = (upto k).flatMap lk0E ++ [.int .i64 k, .slice none 0 0, .slice none 0 0] := by rw [upto_succ, List.flatMap_append]; rfl
    have HNE := hide hne
    clear hown hb hne
    by_cases hlt : k < 8
    · have hkI : (k : Int) < 8 := by omega
      go_wp2_with (at_builtin; refine wpList_append_lies _ rfl _ _ 23 rfl w.heap.size 42 i0 (.agg #[.int .i64 0, .slice none 0 0, .slice none 0 0]) 3 56 Try.underlying23 hi hz0 hz1 hz2 rfl (by decide) _ k _ rfl ((unhide HOW).alloc _) ⟨wr.heap.size, 0, none⟩ 1 1 [.int .i64 k, .slice none 0 0, .slice none 0 0] rfl rfl (World.news_of_block (heap_alloc_new _ _)) (by simp [Value.oneCell']) (by decide) (by unfold maxLen; omega) (by omega) (by simp; omega) _ rfl ?_; intro g2 c2 w2 hown2 hg2 _ _)
      go_roundw
      case rel =>
        refine ⟨k + 1, hlt, by go_num, ?_, ?_⟩
        · rw [unhide HNE]; exact hown2
        · exact Below.grown ((unhide HB).alloc (unhide HB).size _) hg2 (by have := (unhide HB).size; simp; omega) (fun q hq => (OwnK.of_own (unhide HOW)).blk.low q hq)
      case measure => simp [intOf]; omega
    · go_wp2_with fail
      go_ret
      obtain rfl : k = 8 := by omega
      exact ⟨_, rfl, unhide HOW, unhide HB⟩

end Go.Proofs.Ytefbmbdemlcajaa
