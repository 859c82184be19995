/- Pairs put into pairs: what comes of it, and the specification's answer. -/
import Derived.Test.YtimnhgncnhmgcaaForm2
namespace Go.Proofs.Ytimnhgncnhmgcaa
open Go.RowKit

/-- The last value that pairs give a key, n if none does. -/
def lastP (n : Int) (ps : List Pr) (k : Int) : Int := ps.foldl (fun n p => if p.key = k then p.val else n) n
def putVal (a b : List Pr) (k : Int) : Int := lastP (getP a k) b k
def putOne (a b : List Pr) (k : Nat) : List Pr := if putVal a b k = 0 then [] else [⟨k, putVal a b k⟩]
/-- What is put, of the first m keys. -/
def putTo (a b : List Pr) : Nat → List Pr
  | 0 => []
  | m + 1 => putTo a b m ++ putOne a b m
def putP (a b : List Pr) : List Pr := if (inForm a && inForm b) = true then putTo a b 32 else []

theorem putTo_length (a b : List Pr) (m : Nat) : (putTo a b m).length ≤ m := by
  induction m with
  | zero => simp [putTo]
  | succ m ih =>
    have : (putOne a b m).length ≤ 1 := by unfold putOne; split <;> simp
    simp only [putTo, List.length_append]; omega

theorem lastP_step {n : Int} {ps : List Pr} {k : Int} {j : Nat} (hj : j < ps.length) : lastP n (ps.take (j + 1)) k = if (ps.getD j Pr.z).key = k then (ps.getD j Pr.z).val else lastP n (ps.take j) k := by
  rw [take_succ_getD ps Pr.z j hj]; simp only [lastP, List.foldl_append, List.foldl_cons, List.foldl_nil]

theorem Try.infoPr2 : (Try.prog.info? 39).map (fun i => (i.zero, i.size, i.bytes)) = some (some (.agg #[.int .i64 0, .int .i64 0]), 2, 16) := by kernel_rfl

set_option maxRecDepth 100000 in
set_option maxHeartbeats 1000000 in
theorem specPut_any (v u : Value) (xs ys : List Pr) (w : World) (hv : PrsAt w v xs) (hu : PrsAt w u ys) :
    Calls Try.prog 23 #[v, u] w fun e w' => ∃ r, e = .returned r ∧ w'.ownsRow w.heap.size 39 2 r (putP xs ys).length (prFlat (putP xs ys)) ∧ Below w.heap.size w w' := by
  have HV := hide hv
  have HU := hide hu
  clear hv
  obtain ⟨au, cu, rfl, hu1, hu2, hu3⟩ := hu
  have HU3 := hide hu3
  clear hu3
  generalize hM : ys.length = M at *
  have HM := hide hM
  clear hM
  unfold maxLen at hu2
  have hbA : Below w.heap.size w (w.alloc (.cells #[] 39)) := (Below.refl _ _).alloc (Nat.le_refl _) _
  have hoA : (w.alloc (.cells #[] 39)).ownsRow w.heap.size 39 2 (.slice (some ⟨w.heap.size, 0, none⟩) 0 0) 0 [] := World.ownsRow_made w #[] 0 (Nat.le_refl _) (by simp [maxLen]) (by simp)
  cases ha : inForm xs
  · have HP : Hid (putP xs ys = []) := by show putP xs ys = []; unfold putP; rw [ha]; rfl
    go_enter Try.func23, Try.ntmps23
    go_wp2_with fail
    refine (l1Pairs_any _ xs _ ((unhide HV).kept hbA)).mono ?_; rintro e w1 ⟨rfl, hb1⟩
    go_wp2_with fail
    go_ret
    have h1 := unhide HP
    rw [h1]
    exact ⟨_, rfl, ownsRow_below hoA hb1, hbA.trans (hb1.mono hbA.size)⟩
  cases hb : inForm ys
  · have HP : Hid (putP xs ys = []) := by show putP xs ys = []; unfold putP; rw [hb]; simp
    go_enter Try.func23, Try.ntmps23
    go_wp2_with fail
    refine (l1Pairs_any _ xs _ ((unhide HV).kept hbA)).mono ?_; rintro e w1 ⟨rfl, hb1⟩
    have hbA1 := hbA.trans (hb1.mono hbA.size)
    go_wp2_with fail
    refine (l1Pairs_any _ ys _ ((unhide HU).kept hbA1)).mono ?_; rintro e w2 ⟨rfl, hb2⟩
    go_wp2_with fail
    go_ret
    have h1 := unhide HP
    rw [h1]
    exact ⟨_, rfl, ownsRow_below (ownsRow_below hoA hb1) hb2, hbA1.trans (hb2.mono hbA1.size)⟩
  have HP : Hid (putP xs ys = putTo xs ys 32) := by show putP xs ys = _; unfold putP; rw [ha, hb]; rfl
  obtain ⟨i0, hi, hz0, hz1, hz2⟩ := info_parts Try.infoPr2
  go_enter Try.func23, Try.ntmps23
  go_wp2_with fail
  refine (l1Pairs_any _ xs _ ((unhide HV).kept hbA)).mono ?_; rintro e w1 ⟨rfl, hb1⟩
  have hbA1 := hbA.trans (hb1.mono hbA.size)
  go_wp2_with fail
  refine (l1Pairs_any _ ys _ ((unhide HU).kept hbA1)).mono ?_; rintro e w2 ⟨rfl, hb2⟩
  have hbA2 := hbA1.trans (hb2.mono hbA1.size)
  have hoA2 := ownsRow_below (ownsRow_below hoA hb1) hb2
  clear hoA hbA hbA1 hb1 hb2
  go_wp2_with fail
  go_loopw [5, 6] (fun r i wr => ∃ k : Nat, k ≤ 32 ∧ i = .int .i64 k ∧ Below w.heap.size w wr ∧ wr.ownsRow w.heap.size 39 2 r (putTo xs ys k).length (prFlat (putTo xs ys k))) (fun _ i _ => 32 - (intOf i).toNat)
  case atStart => exact ⟨0, by omega, rfl, hbA2, hoA2⟩
  case round =>
    obtain ⟨k, hk, rfl, hbr, hown⟩ := hrel
    by_cases hlt : k < 32
    · go_wp2_with fail
      refine (l1Get_any _ xs k _ ((unhide HV).kept hbr)).mono ?_; rintro e w' ⟨rfl, rfl⟩
      go_wp2_with fail
      go_loop [7, 8] (fun n i => ∃ j : Nat, j ≤ M ∧ i = .int .i64 j ∧ n = .int .i64 (lastP (getP xs k) (ys.take j) k)) (fun _ i => M - (intOf i).toNat)
      case atStart => exact ⟨0, Nat.zero_le _, rfl, rfl⟩
      case round =>
        obtain ⟨j, hj, rfl, rfl⟩ := hrel
        by_cases hjlt : j < M
        · obtain ⟨b, off, rfl, hc⟩ : ∃ b off, au = some ⟨b, off, none⟩ ∧ PrCells w b off M ys := by
            rcases unhide HU3 with h3 | h3
            · have := unhide HM; subst h3; simp at this; omega
            · exact h3
          obtain ⟨c0, c1⟩ := (hc.kept hbr) j hjlt
          generalize hx : ys.getD j Pr.z = x at c0 c1
          have hst := lastP_step (n := getP xs k) (k := (k : Int)) (ps := ys) (j := j) (by rw [unhide HM]; exact hjlt)
          rw [hx] at hst
          have HST := hide hst
          clear hst hx hc hown
          by_cases hxk : x.key = k
          · have hbk : (x.key == (k : Int)) = true := by simpa using hxk
            have HXK := hide hxk
            clear hxk
            go_wp2
            go_round
            case rel => exact ⟨j + 1, hjlt, by go_num, by rw [unhide HST, if_pos (unhide HXK)]⟩
            case measure => simp [intOf]; omega
          · have hbk : (x.key == (k : Int)) = false := by simpa using hxk
            have HXK := hide hxk
            clear hxk
            go_wp2
            go_round
            case rel => exact ⟨j + 1, hjlt, by go_num, by rw [unhide HST, if_neg (unhide HXK)]⟩
            case measure => simp [intOf]; omega
        · obtain rfl : j = M := by omega
          have hpv : lastP (getP xs k) (ys.take j) k = putVal xs ys k := by
            rw [List.take_of_length_le (by rw [unhide HM]; omega)]; rfl
          rw [hpv]
          clear hpv
          have hpl := putTo_length xs ys k
          by_cases hz : putVal xs ys k = 0
          · have hstep : putTo xs ys (k + 1) = putTo xs ys k := by simp [putTo, putOne, hz]
            have HS := hide hstep
            clear hstep
            generalize putVal xs ys k = nv at *
            have hzb : (nv != 0) = false := by simpa using hz
            clear hz
            go_wp2
            go_roundw
            case rel => exact ⟨k + 1, hlt, by go_num, hbr, by rw [unhide HS]; exact hown⟩
            case measure => simp [intOf]; omega
          · have hstep : putTo xs ys (k + 1) = putTo xs ys k ++ [⟨k, putVal xs ys k⟩] := by simp [putTo, putOne, hz]
            have HS := hide hstep
            clear hstep
            generalize putVal xs ys k = nv at *
            have hzb : (nv != 0) = true := by simpa using hz
            clear hz
            generalize hL : putTo xs ys k = L at *
            have HL := hide hL
            clear hL
            have hszr := hbr.size
            go_wp2_with (at_builtin; refine wpList_append_lies _ rfl _ _ 24 rfl w.heap.size 39 i0 (.agg #[.int .i64 0, .int .i64 0]) 2 16 Try.underlying24 hi hz0 hz1 hz2 rfl (by decide) _ L.length _ rfl (hown.alloc _) ⟨w'.heap.size, 0, none⟩ 1 1 [.int .i64 k, .int .i64 nv] rfl rfl (World.news_of_block (heap_alloc_new _ _)) (by simp [Value.oneCell']) (by decide) (by unfold maxLen; omega) (by omega) (by simp; omega) (w'.heap.size + 1) (by simp) ?_; intro g cp w1 hown2 hgrow hat hlt2)
            have hbw : Below w.heap.size w w1 := Below.grown (hbr.alloc hszr _) hgrow (by simp; omega) (fun q hq => (hown.lt q hq).1)
            go_roundw
            case rel =>
              refine ⟨k + 1, hlt, by go_num, hbw, ?_⟩
              rw [unhide HS, prFlat_append, List.length_append]
              exact hown2
            case measure => simp [intOf]; omega
    · go_wp2
      go_ret
      obtain rfl : k = 32 := by omega
      rw [unhide HP]
      exact ⟨_, rfl, hown, hbr⟩

end Go.Proofs.Ytimnhgncnhmgcaa
