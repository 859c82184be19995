/- The program parts a list: who stays and who goes. -/
import Derived.Test.YtoojnhodjkpecaaLkI6
namespace Go.Proofs.Ytoojnhodjkpecaa
open Go.RowKit Go.Shelf

def stayL (p : Hd → Bool) (hs : List Hd) : List Hd := hs.filter (fun x => !p x)
def goneL (p : Hd → Bool) (hs : List Hd) : List Hd := hs.filter p
theorem stay_step {p : Hd → Bool} {hs : List Hd} {k : Nat} (h : k < hs.length) : stayL p (hs.take (k + 1)) = stayL p (hs.take k) ++ (if p (hs.getD k Hd.z) = true then [] else [hs.getD k Hd.z]) := by
  unfold stayL
  rw [List.take_succ_eq_append_getElem h, List.filter_append]
  have e : hs.getD k Hd.z = hs[k] := by simp [List.getD, h]
  rw [e]
  cases hp : p hs[k] <;> simp [hp]
theorem gone_step {p : Hd → Bool} {hs : List Hd} {k : Nat} (h : k < hs.length) : goneL p (hs.take (k + 1)) = goneL p (hs.take k) ++ (if p (hs.getD k Hd.z) = true then [hs.getD k Hd.z] else []) := by
  unfold goneL
  rw [List.take_succ_eq_append_getElem h, List.filter_append]
  have e : hs.getD k Hd.z = hs[k] := by simp [List.getD, h]
  rw [e]
  cases hp : p hs[k] <;> simp [hp]
theorem ne_sym {p q : Option Nat} (h : p = none ∨ p ≠ q) : q = none ∨ q ≠ p := by
  rcases h with h | h
  · subst h
    cases q with
    | none => exact .inl rfl
    | some x => exact .inr (by simp)
  · exact .inr (Ne.symm h)
/-- What is appended to lies where it lay, or in a new block: never where another row lies. -/
theorem ne_app {r v u : Option Nat} {H : Nat} (hat : r = v ∨ r = some H) (hne : v = none ∨ v ≠ u) (hu : ∀ q, u = some q → q < H) : r = none ∨ r ≠ u := by
  rcases hat with rfl | rfl
  · exact hne
  · right; intro e; have := hu H e.symm; omega
theorem own_shapes {w : World} {b e k b' e' k' : Nat} {u v : Value} {n m : Nat} {xs ys : List Value} (h : w.ownsRow b e k u n xs) (h' : w.ownsRow b' e' k' v m ys) : (∃ a c, u = .slice a n c) ∧ ∃ a c, v = .slice a m c := by
  obtain ⟨a, c, rfl, -⟩ := ownsRow_slice h
  obtain ⟨a', c', rfl, -⟩ := ownsRow_slice h'
  exact ⟨⟨a, c, rfl⟩, a', c', rfl⟩

set_option maxRecDepth 100000 in
set_option maxHeartbeats 2000000 in
theorem partedM_any (F : FuncId) (u : Value) (p : Hd → Bool) (w : World) (hent : ∀ args w, (callFunc F args).run Try.prog w = .ok (.enter F args) w)
    (hp : ∀ (x : Hd) (ww : World), Below w.heap.size w ww → Calls Try.prog F #[u, .agg #[.int .i64 x.stamp, .int .i64 x.try_, .bool x.share, .bool x.firm]] ww fun e w' => e = .returned (.bool (p x)) ∧ Below ww.heap.size ww w')
    (v : Value) (hs : List Hd) (hv : RowAt hdE w v hs) (hm : hs.length ≤ 1000) :
    Calls Try.prog 67 #[v, .func (.func F) #[u] #[]] w fun e w' => ∃ r1 r2, e = .returned (.tuple #[r1, r2]) ∧ w'.ownsRow w.heap.size 27 4 r1 (stayL p hs).length ((stayL p hs).flatMap hdE) ∧ w'.ownsRow w.heap.size 27 4 r2 (goneL p hs).length ((goneL p hs).flatMap hdE) ∧ (r1.ownBlock = none ∨ r1.ownBlock ≠ r2.ownBlock) ∧ Below w.heap.size w w' := by
  obtain ⟨a, cap, rfl, hl⟩ := hv.shape
  have HV := hide hv
  have HP := hide hp
  clear hv hp
  generalize hN : hs.length = N at *
  have HN := hide hN
  clear hN
  unfold maxLen at hl
  obtain ⟨i0, hi, hz0, hz1, hz2⟩ := info_parts Try.infoHd
  go_enter Try.func67, Try.ntmps67
  go_wp2_with fail
  go_loopw [4, 5, 10] (fun st gn i wr => ∃ k : Nat, k ≤ N ∧ i = .int .i64 k ∧ wr.ownsRow w.heap.size 27 4 st (stayL p (hs.take k)).length ((stayL p (hs.take k)).flatMap hdE) ∧ wr.ownsRow w.heap.size 27 4 gn (goneL p (hs.take k)).length ((goneL p (hs.take k)).flatMap hdE) ∧ (st.ownBlock = none ∨ st.ownBlock ≠ gn.ownBlock) ∧ Below w.heap.size w wr) (fun _ _ i _ => N - (intOf i).toNat)
  case atStart => exact ⟨0, Nat.zero_le _, rfl, World.ownsRow_nil _ _ _ _, World.ownsRow_nil _ _ _ _, .inl rfl, Below.refl _ _⟩
  case round =>
    obtain ⟨k, hk, rfl, hst, hgn, hne, hb⟩ := hrel
    have l1 : (stayL p (hs.take k)).length ≤ k := Nat.le_trans (List.length_filter_le _ _) (List.length_take_le k hs)
    have l2 : (goneL p (hs.take k)).length ≤ k := Nat.le_trans (List.length_filter_le _ _) (List.length_take_le k hs)
    by_cases hlt : k < N
    case neg =>
      obtain rfl : k = N := by omega
      have hfull : hs.take k = hs := List.take_of_length_le (by rw [unhide HN]; omega)
      rw [hfull] at hst hgn
      have HS := hide hst
      have HG := hide hgn
      have HNE := hide hne
      have HB := hide hb
      clear hst hgn hne hb hfull
      go_wp2_with fail
      go_ret2
      exact ⟨_, _, rfl, unhide HS, unhide HG, unhide HNE, unhide HB⟩
    obtain ⟨hs1, hs2⟩ := own_shapes hst hgn
    obtain ⟨sa, sc, rfl⟩ := hs1
    obtain ⟨ga, gc, rfl⟩ := hs2
    have hstep := stay_step (p := p) (hs := hs) (k := k) (by rw [unhide HN]; exact hlt)
    have hgtep := gone_step (p := p) (hs := hs) (k := k) (by rw [unhide HN]; exact hlt)
    obtain ⟨b, off, rfl⟩ := (unhide HV).some_of (by rw [unhide HN]; omega)
    obtain ⟨c0, c1, c2, c3⟩ := hd_cells ((unhide HV).kept hb) (i := k) (by rw [unhide HN]; exact hlt)
    generalize hs.getD k Hd.z = x at *
    generalize stayL p (hs.take k) = S at *
    generalize goneL p (hs.take k) = G at *
    have HSS := hide hstep
    have HGS := hide hgtep
    have HOS := hide hst
    have HOG := hide hgn
    have HNE := hide hne
    have HB := hide hb
    have z0 := hb.size
    clear hstep hgtep hst hgn hne hb
    have bA : Below wr.heap.size wr (wr.alloc (.cells #[.int .i64 x.stamp, .int .i64 x.try_, .bool x.share, .bool x.firm] 27)) := (Below.refl _ _).alloc (Nat.le_refl _) _
    have HBA := hide ((unhide HB).trans (bA.mono z0))
    have HOSA := hide (ownsRow_below (unhide HOS) bA)
    have HOGA := hide (ownsRow_below (unhide HOG) bA)
    have HBX := hide (Bx.made wr 27 #[.int .i64 x.stamp, .int .i64 x.try_, .bool x.share, .bool x.firm])
    clear bA
    go_wp2_with fail
    refine (unhide HP x _ (unhide HBA)).mono ?_
    rintro e w1 ⟨rfl, hb1⟩
    have z1 := hb1.size
    simp at z1
    have HB1 := hide ((unhide HBA).trans (hb1.mono (unhide HBA).size))
    have HOS := hide (ownsRow_below (unhide HOSA) hb1)
    have HOG := hide (ownsRow_below (unhide HOGA) hb1)
    obtain ⟨q0, q1, q2, q3⟩ := ((unhide HBX).kept hb1).four
    clear hb1 c0 c1 c2 c3 HOSA HOGA HBA
    cases hpx : p x
    · have HS2 : Hid (stayL p (hs.take (k + 1)) = S ++ [x]) := by show stayL p (hs.take (k + 1)) = S ++ [x]; rw [unhide HSS, hpx]; rfl
      have HG2 : Hid (goneL p (hs.take (k + 1)) = G) := by show goneL p (hs.take (k + 1)) = G; rw [unhide HGS, hpx]; simp
      clear hpx
      go_wp2_with (at_builtin; refine wpList_append_at rfl _ _ 23 rfl w.heap.size 27 i0 (.agg #[.int .i64 0, .int .i64 0, .bool false, .bool false]) 4 24 Try.underlying23 hi hz0 hz1 hz2 rfl (by decide) _ S.length _ rfl ((unhide HOS).alloc _) (some ⟨w1.heap.size, 0, none⟩) 1 1 [.int .i64 x.stamp, .int .i64 x.try_, .bool x.share, .bool x.firm] rfl rfl (.inr ⟨by decide, _, rfl, World.news_of_block (heap_alloc_new _ _)⟩) (by simp [Value.oneCell']) (by unfold maxLen; omega) (by omega) (by simp; omega) (w1.heap.size + 1) (by simp) ?_; intro b9 cap9 w9 hown9 hgrow9 hat9)
      have HB9 : Hid (Below w.heap.size w w9) := Below.grown ((unhide HB1).alloc (by omega) _) hgrow9 (by simp; omega) (fun q hq => ((unhide HOS).lt q hq).1)
      have HG9 : Hid (w9.ownsRow w.heap.size 27 4 (.slice ga G.length gc) G.length (G.flatMap hdE)) := ((unhide HOG).alloc _).kept hgrow9 (ne_sym (unhide HNE))
      have HN9 : Hid ((Value.slice b9 (S.length + 1) cap9).ownBlock = none ∨ (Value.slice b9 (S.length + 1) cap9).ownBlock ≠ (Value.slice ga G.length gc).ownBlock) := ne_app hat9 (unhide HNE) (fun q hq => by have := ((unhide HOG).lt q hq).2; omega)
      have HO9 := hide hown9
      clear hown9 hgrow9 hat9
      go_roundw
      case rel =>
        refine ⟨k + 1, hlt, by go_num, ?_, ?_, unhide HN9, unhide HB9⟩
        · rw [unhide HS2, List.flatMap_append, List.length_append]; exact unhide HO9
        · rw [unhide HG2]; exact unhide HG9
      case measure => simp [intOf]; omega
    · have HS2 : Hid (stayL p (hs.take (k + 1)) = S) := by show stayL p (hs.take (k + 1)) = S; rw [unhide HSS, hpx]; simp
      have HG2 : Hid (goneL p (hs.take (k + 1)) = G ++ [x]) := by show goneL p (hs.take (k + 1)) = G ++ [x]; rw [unhide HGS, hpx]; rfl
      clear hpx
      go_wp2_with (at_builtin; refine wpList_append_at rfl _ _ 23 rfl w.heap.size 27 i0 (.agg #[.int .i64 0, .int .i64 0, .bool false, .bool false]) 4 24 Try.underlying23 hi hz0 hz1 hz2 rfl (by decide) _ G.length _ rfl ((unhide HOG).alloc _) (some ⟨w1.heap.size, 0, none⟩) 1 1 [.int .i64 x.stamp, .int .i64 x.try_, .bool x.share, .bool x.firm] rfl rfl (.inr ⟨by decide, _, rfl, World.news_of_block (heap_alloc_new _ _)⟩) (by simp [Value.oneCell']) (by unfold maxLen; omega) (by omega) (by simp; omega) (w1.heap.size + 1) (by simp) ?_; intro b9 cap9 w9 hown9 hgrow9 hat9)
      have HB9 : Hid (Below w.heap.size w w9) := Below.grown ((unhide HB1).alloc (by omega) _) hgrow9 (by simp; omega) (fun q hq => ((unhide HOG).lt q hq).1)
      have HG9 : Hid (w9.ownsRow w.heap.size 27 4 (.slice sa S.length sc) S.length (S.flatMap hdE)) := ((unhide HOS).alloc _).kept hgrow9 (unhide HNE)
      have HN9 : Hid ((Value.slice sa S.length sc).ownBlock = none ∨ (Value.slice sa S.length sc).ownBlock ≠ (Value.slice b9 (G.length + 1) cap9).ownBlock) := ne_sym (ne_app hat9 (ne_sym (unhide HNE)) (fun q hq => by have := ((unhide HOS).lt q hq).2; omega))
      have HO9 := hide hown9
      clear hown9 hgrow9 hat9
      go_roundw
      case rel =>
        refine ⟨k + 1, hlt, by go_num, ?_, ?_, unhide HN9, unhide HB9⟩
        · rw [unhide HS2]; exact unhide HG9
        · rw [unhide HG2, List.flatMap_append, List.length_append]; exact unhide HO9
      case measure => simp [intOf]; omega

set_option maxRecDepth 100000 in
set_option maxHeartbeats 2000000 in
theorem partedC_any (F : FuncId) (u u' : Value) (p : Hd → Bool) (w : World) (hent : ∀ args w, (callFunc F args).run Try.prog w = .ok (.enter F args) w)
    (hp : ∀ (x : Hd) (ww : World), Below w.heap.size w ww → Calls Try.prog F #[.agg #[.int .i64 x.stamp, .int .i64 x.try_, .bool x.share, .bool x.firm], u, u'] ww fun e w' => e = .returned (.bool (p x)) ∧ Below ww.heap.size ww w')
    (v : Value) (hs : List Hd) (hv : RowAt hdE w v hs) (hm : hs.length ≤ 1000) :
    Calls Try.prog 67 #[v, .func (.func F) #[] #[u, u']] w fun e w' => ∃ r1 r2, e = .returned (.tuple #[r1, r2]) ∧ w'.ownsRow w.heap.size 27 4 r1 (stayL p hs).length ((stayL p hs).flatMap hdE) ∧ w'.ownsRow w.heap.size 27 4 r2 (goneL p hs).length ((goneL p hs).flatMap hdE) ∧ (r1.ownBlock = none ∨ r1.ownBlock ≠ r2.ownBlock) ∧ Below w.heap.size w w' := by
  obtain ⟨a, cap, rfl, hl⟩ := hv.shape
  have HV := hide hv
  have HP := hide hp
  clear hv hp
  generalize hN : hs.length = N at *
  have HN := hide hN
  clear hN
  unfold maxLen at hl
  obtain ⟨i0, hi, hz0, hz1, hz2⟩ := info_parts Try.infoHd
  go_enter Try.func67, Try.ntmps67
  go_wp2_with fail
  go_loopw [4, 5, 10] (fun st gn i wr => ∃ k : Nat, k ≤ N ∧ i = .int .i64 k ∧ wr.ownsRow w.heap.size 27 4 st (stayL p (hs.take k)).length ((stayL p (hs.take k)).flatMap hdE) ∧ wr.ownsRow w.heap.size 27 4 gn (goneL p (hs.take k)).length ((goneL p (hs.take k)).flatMap hdE) ∧ (st.ownBlock = none ∨ st.ownBlock ≠ gn.ownBlock) ∧ Below w.heap.size w wr) (fun _ _ i _ => N - (intOf i).toNat)
  case atStart => exact ⟨0, Nat.zero_le _, rfl, World.ownsRow_nil _ _ _ _, World.ownsRow_nil _ _ _ _, .inl rfl, Below.refl _ _⟩
  case round =>
    obtain ⟨k, hk, rfl, hst, hgn, hne, hb⟩ := hrel
    have l1 : (stayL p (hs.take k)).length ≤ k := Nat.le_trans (List.length_filter_le _ _) (List.length_take_le k hs)
    have l2 : (goneL p (hs.take k)).length ≤ k := Nat.le_trans (List.length_filter_le _ _) (List.length_take_le k hs)
    by_cases hlt : k < N
    case neg =>
      obtain rfl : k = N := by omega
      have hfull : hs.take k = hs := List.take_of_length_le (by rw [unhide HN]; omega)
      rw [hfull] at hst hgn
      have HS := hide hst
      have HG := hide hgn
      have HNE := hide hne
      have HB := hide hb
      clear hst hgn hne hb hfull
      go_wp2_with fail
      go_ret2
      exact ⟨_, _, rfl, unhide HS, unhide HG, unhide HNE, unhide HB⟩
    obtain ⟨hs1, hs2⟩ := own_shapes hst hgn
    obtain ⟨sa, sc, rfl⟩ := hs1
    obtain ⟨ga, gc, rfl⟩ := hs2
    have hstep := stay_step (p := p) (hs := hs) (k := k) (by rw [unhide HN]; exact hlt)
    have hgtep := gone_step (p := p) (hs := hs) (k := k) (by rw [unhide HN]; exact hlt)
    obtain ⟨b, off, rfl⟩ := (unhide HV).some_of (by rw [unhide HN]; omega)
    obtain ⟨c0, c1, c2, c3⟩ := hd_cells ((unhide HV).kept hb) (i := k) (by rw [unhide HN]; exact hlt)
    generalize hs.getD k Hd.z = x at *
    generalize stayL p (hs.take k) = S at *
    generalize goneL p (hs.take k) = G at *
    have HSS := hide hstep
    have HGS := hide hgtep
    have HOS := hide hst
    have HOG := hide hgn
    have HNE := hide hne
    have HB := hide hb
    have z0 := hb.size
    clear hstep hgtep hst hgn hne hb
    have bA : Below wr.heap.size wr (wr.alloc (.cells #[.int .i64 x.stamp, .int .i64 x.try_, .bool x.share, .bool x.firm] 27)) := (Below.refl _ _).alloc (Nat.le_refl _) _
    have HBA := hide ((unhide HB).trans (bA.mono z0))
    have HOSA := hide (ownsRow_below (unhide HOS) bA)
    have HOGA := hide (ownsRow_below (unhide HOG) bA)
    have HBX := hide (Bx.made wr 27 #[.int .i64 x.stamp, .int .i64 x.try_, .bool x.share, .bool x.firm])
    clear bA
    go_wp2_with fail
    refine (unhide HP x _ (unhide HBA)).mono ?_
    rintro e w1 ⟨rfl, hb1⟩
    have z1 := hb1.size
    simp at z1
    have HB1 := hide ((unhide HBA).trans (hb1.mono (unhide HBA).size))
    have HOS := hide (ownsRow_below (unhide HOSA) hb1)
    have HOG := hide (ownsRow_below (unhide HOGA) hb1)
    obtain ⟨q0, q1, q2, q3⟩ := ((unhide HBX).kept hb1).four
    clear hb1 c0 c1 c2 c3 HOSA HOGA HBA
    cases hpx : p x
    · have HS2 : Hid (stayL p (hs.take (k + 1)) = S ++ [x]) := by show stayL p (hs.take (k + 1)) = S ++ [x]; rw [unhide HSS, hpx]; rfl
      have HG2 : Hid (goneL p (hs.take (k + 1)) = G) := by show goneL p (hs.take (k + 1)) = G; rw [unhide HGS, hpx]; simp
      clear hpx
      go_wp2_with (at_builtin; refine wpList_append_at rfl _ _ 23 rfl w.heap.size 27 i0 (.agg #[.int .i64 0, .int .i64 0, .bool false, .bool false]) 4 24 Try.underlying23 hi hz0 hz1 hz2 rfl (by decide) _ S.length _ rfl ((unhide HOS).alloc _) (some ⟨w1.heap.size, 0, none⟩) 1 1 [.int .i64 x.stamp, .int .i64 x.try_, .bool x.share, .bool x.firm] rfl rfl (.inr ⟨by decide, _, rfl, World.news_of_block (heap_alloc_new _ _)⟩) (by simp [Value.oneCell']) (by unfold maxLen; omega) (by omega) (by simp; omega) (w1.heap.size + 1) (by simp) ?_; intro b9 cap9 w9 hown9 hgrow9 hat9)
      have HB9 : Hid (Below w.heap.size w w9) := Below.grown ((unhide HB1).alloc (by omega) _) hgrow9 (by simp; omega) (fun q hq => ((unhide HOS).lt q hq).1)
      have HG9 : Hid (w9.ownsRow w.heap.size 27 4 (.slice ga G.length gc) G.length (G.flatMap hdE)) := ((unhide HOG).alloc _).kept hgrow9 (ne_sym (unhide HNE))
      have HN9 : Hid ((Value.slice b9 (S.length + 1) cap9).ownBlock = none ∨ (Value.slice b9 (S.length + 1) cap9).ownBlock ≠ (Value.slice ga G.length gc).ownBlock) := ne_app hat9 (unhide HNE) (fun q hq => by have := ((unhide HOG).lt q hq).2; omega)
      have HO9 := hide hown9
      clear hown9 hgrow9 hat9
      go_roundw
      case rel =>
        refine ⟨k + 1, hlt, by go_num, ?_, ?_, unhide HN9, unhide HB9⟩
        · rw [unhide HS2, List.flatMap_append, List.length_append]; exact unhide HO9
        · rw [unhide HG2]; exact unhide HG9
      case measure => simp [intOf]; omega
    · have HS2 : Hid (stayL p (hs.take (k + 1)) = S) := by show stayL p (hs.take (k + 1)) = S; rw [unhide HSS, hpx]; simp
      have HG2 : Hid (goneL p (hs.take (k + 1)) = G ++ [x]) := by show goneL p (hs.take (k + 1)) = G ++ [x]; rw [unhide HGS, hpx]; rfl
      clear hpx
      go_wp2_with (at_builtin; refine wpList_append_at rfl _ _ 23 rfl w.heap.size 27 i0 (.agg #[.int .i64 0, .int .i64 0, .bool false, .bool false]) 4 24 Try.underlying23 hi hz0 hz1 hz2 rfl (by decide) _ G.length _ rfl ((unhide HOG).alloc _) (some ⟨w1.heap.size, 0, none⟩) 1 1 [.int .i64 x.stamp, .int .i64 x.try_, .bool x.share, .bool x.firm] rfl rfl (.inr ⟨by decide, _, rfl, World.news_of_block (heap_alloc_new _ _)⟩) (by simp [Value.oneCell']) (by unfold maxLen; omega) (by omega) (by simp; omega) (w1.heap.size + 1) (by simp) ?_; intro b9 cap9 w9 hown9 hgrow9 hat9)
      have HB9 : Hid (Below w.heap.size w w9) := Below.grown ((unhide HB1).alloc (by omega) _) hgrow9 (by simp; omega) (fun q hq => ((unhide HOG).lt q hq).1)
      have HG9 : Hid (w9.ownsRow w.heap.size 27 4 (.slice sa S.length sc) S.length (S.flatMap hdE)) := ((unhide HOS).alloc _).kept hgrow9 (unhide HNE)
      have HN9 : Hid ((Value.slice sa S.length sc).ownBlock = none ∨ (Value.slice sa S.length sc).ownBlock ≠ (Value.slice b9 (G.length + 1) cap9).ownBlock) := ne_sym (ne_app hat9 (ne_sym (unhide HNE)) (fun q hq => by have := ((unhide HOS).lt q hq).2; omega))
      have HO9 := hide hown9
      clear hown9 hgrow9 hat9
      go_roundw
      case rel =>
        refine ⟨k + 1, hlt, by go_num, ?_, ?_, unhide HN9, unhide HB9⟩
        · rw [unhide HS2]; exact unhide HG9
        · rw [unhide HG2, List.flatMap_append, List.length_append]; exact unhide HO9
      case measure => simp [intOf]; omega

end Go.Proofs.Ytoojnhodjkpecaa
