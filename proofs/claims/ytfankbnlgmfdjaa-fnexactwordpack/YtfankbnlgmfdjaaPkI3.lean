/- Words as bytes: the program's answer, whole. -/
import Derived.Test.YtfankbnlgmfdjaaPkI2
namespace Go.Proofs.Ytfankbnlgmfdjaa
open Go.RowKit

theorem Box.atI {w : World} {g : Nat} {T : TypeId} {cs : Array Value} (h : Box w g T cs) (j : Nat) {u : Value} (hj : cs[j]? = some u) : w.cell? ⟨g, j, none⟩ = some u := (h.cell j).trans hj
theorem PrsAt.lt {w : World} {u : Value} {ps : List Pr} (h : PrsAt w u ps) (hx : ps ≠ []) : ∀ q, u.ownBlock = some q → q < w.heap.size := by
  obtain ⟨a, cap, rfl, h1, h2, h3⟩ := h
  rcases h3 with h3 | ⟨b, off, rfl, hc⟩
  · exact absurd h3 hx
  · intro q e
    simp [Value.ownBlock] at e
    subst e
    exact lt_of_cell (hc 0 (by rcases ps with _ | _ <;> simp_all)).1

set_option maxRecDepth 100000 in
set_option maxHeartbeats 4000000 in
set_option linter.unusedSimpArgs false in
theorem implPackC_any (kd sr ds sp ty wt : Int) (ye : Bool) (ss : List Int) (ps : List Pr) (cd : Int) (vs : List Int) (se nu ck : Int) (tx : ByteArray) (sl ho : Int) (a0 b0 v0 : Option Addr) (c0 d0 e0 : Nat) (w : World)
    (h : WdAt w ⟨kd, sr, ds, sp, ty, wt, ye, ss, ps, cd, vs, se, nu, ck, tx, sl, ho⟩ (.slice a0 ss.length c0) (.slice b0 ps.length d0) (.slice v0 vs.length e0)) :
    Calls Try.prog 11 #[.agg #[.int .i64 kd, .int .i64 sr, .int .i64 ds, .int .i64 sp, .int .i64 ty, .int .i64 wt, .bool ye, .slice a0 ss.length c0, .slice b0 ps.length d0, .int .i64 cd, .slice v0 vs.length e0, .int .i64 se, .int .i64 nu, .int .i64 ck, .string tx, .int .i64 sl, .int .i64 ho]] w fun e w' => ∃ r, e = .returned r ∧ OwnB w' w.heap.size r (packL ⟨kd, sr, ds, sp, ty, wt, ye, ss, ps, cd, vs, se, nu, ck, tx, sl, ho⟩) ∧ Below w.heap.size w w' := by
  have HWD := hide h
  have HWO := hide (fun ww hk => implWordOk_any ⟨kd, sr, ds, sp, ty, wt, ye, ss, ps, cd, vs, se, nu, ck, tx, sl, ho⟩ (.slice a0 ss.length c0) (.slice b0 ps.length d0) (.slice v0 vs.length e0) ww hk)
  simp only [wdV, wdC] at HWO
  have HBD : Hid (wordB ⟨kd, sr, ds, sp, ty, wt, ye, ss, ps, cd, vs, se, nu, ck, tx, sl, ho⟩ = true → WdBd ⟨kd, sr, ds, sp, ty, wt, ye, ss, ps, cd, vs, se, nu, ck, tx, sl, ho⟩) := fun hb => word_bd hb
  have HPK : Hid (packL ⟨kd, sr, ds, sp, ty, wt, ye, ss, ps, cd, vs, se, nu, ck, tx, sl, ho⟩ = if wordB ⟨kd, sr, ds, sp, ty, wt, ye, ss, ps, cd, vs, se, nu, ck, tx, sl, ho⟩ = true then nbsB (headL ⟨kd, sr, ds, sp, ty, wt, ye, ss, ps, cd, vs, se, nu, ck, tx, sl, ho⟩) ++ textB tx ++ (nbB ss.length ++ nbsB ss) ++ (nbB vs.length ++ nbsB vs) ++ (nbB ps.length ++ nbsB (prL ps)) else []) := rfl
  have HH : Hid (nbsB (headL ⟨kd, sr, ds, sp, ty, wt, ye, ss, ps, cd, vs, se, nu, ck, tx, sl, ho⟩) = nbsB [kd, sr, ds, sp, ty, wt] ++ nbsB [yesN ye] ++ nbsB [cd, se, nu, ck, sl, ho] ++ nbsB [(tx.size : Int)]) := by
    show nbsB (headL ⟨kd, sr, ds, sp, ty, wt, ye, ss, ps, cd, vs, se, nu, ck, tx, sl, ho⟩) = _
    rw [← nbsB_append, ← nbsB_append, ← nbsB_append]; rfl
  have HHB : Hid (wordB ⟨kd, sr, ds, sp, ty, wt, ye, ss, ps, cd, vs, se, nu, ck, tx, sl, ho⟩ = true → (∀ x ∈ [kd, sr, ds, sp, ty, wt], Bd x) ∧ (∀ x ∈ [cd, se, nu, ck, sl, ho], Bd x)) := fun hb => by
    have h1 := (word_bd hb).head
    exact ⟨fun x hx => h1 x (by simp only [headL, List.mem_cons, List.not_mem_nil, or_false] at hx ⊢; rcases hx with rfl | rfl | rfl | rfl | rfl | rfl <;> simp), fun x hx => h1 x (by simp only [headL, List.mem_cons, List.not_mem_nil, or_false] at hx ⊢; rcases hx with rfl | rfl | rfl | rfl | rfl | rfl <;> simp)⟩
  generalize packL ⟨kd, sr, ds, sp, ty, wt, ye, ss, ps, cd, vs, se, nu, ck, tx, sl, ho⟩ = PK at *
  generalize wordB ⟨kd, sr, ds, sp, ty, wt, ye, ss, ps, cd, vs, se, nu, ck, tx, sl, ho⟩ = OKW at *
  generalize nbsB (headL ⟨kd, sr, ds, sp, ty, wt, ye, ss, ps, cd, vs, se, nu, ck, tx, sl, ho⟩) = HL at *
  clear h
  have bA : Below w.heap.size w (w.alloc (.cells #[.int .i64 kd, .int .i64 sr, .int .i64 ds, .int .i64 sp, .int .i64 ty, .int .i64 wt, .bool ye, .slice a0 ss.length c0, .slice b0 ps.length d0, .int .i64 cd, .slice v0 vs.length e0, .int .i64 se, .int .i64 nu, .int .i64 ck, .string tx, .int .i64 sl, .int .i64 ho] 28)) := (Below.refl _ _).alloc (Nat.le_refl _) _
  have hbx : Box (w.alloc (.cells #[.int .i64 kd, .int .i64 sr, .int .i64 ds, .int .i64 sp, .int .i64 ty, .int .i64 wt, .bool ye, .slice a0 ss.length c0, .slice b0 ps.length d0, .int .i64 cd, .slice v0 vs.length e0, .int .i64 se, .int .i64 nu, .int .i64 ck, .string tx, .int .i64 sl, .int .i64 ho] 28)) w.heap.size 28 #[.int .i64 kd, .int .i64 sr, .int .i64 ds, .int .i64 sp, .int .i64 ty, .int .i64 wt, .bool ye, .slice a0 ss.length c0, .slice b0 ps.length d0, .int .i64 cd, .slice v0 vs.length e0, .int .i64 se, .int .i64 nu, .int .i64 ck, .string tx, .int .i64 sl, .int .i64 ho] := Box.made _ _ _
  go_enter Try.func11, Try.ntmps11
  go_wp2_with (refine wpList_load_row rfl 28 _ rfl w.heap.size rfl 28 #[.int .i64 kd, .int .i64 sr, .int .i64 ds, .int .i64 sp, .int .i64 ty, .int .i64 wt, .bool ye, .slice a0 ss.length c0, .slice b0 ps.length d0, .int .i64 cd, .slice v0 vs.length e0, .int .i64 se, .int .i64 nu, .int .i64 ck, .string tx, .int .i64 sl, .int .i64 ho] _ _ hbx.row Try.underlying28 rfl (by kernel_rfl) ?_)
  refine (unhide HWO _ ((unhide HWD).kept bA)).mono ?_; rintro e w1 ⟨rfl, h1⟩
  have HB1 := hide (bA.trans (h1.mono bA.size))
  have HX1 := hide (hbx.kept h1)
  have z1 := h1.size
  simp at z1
  clear bA hbx h1 HWO
  cases OKW
  · have hpk := unhide HPK
    simp only [Bool.false_eq_true, if_false] at hpk
    subst hpk
    clear HPK HBD HHB HH
    go_wp2_with fail
    go_ret
    exact ⟨_, rfl, World.ownsRow_nil _ _ _ _, unhide HB1⟩
  have hpk := unhide HPK
  simp only [if_true] at hpk
  have HP := hide hpk
  have hbd := unhide HBD (by first | rfl | trivial)
  have HD := hide hbd
  obtain ⟨hq1, hq2⟩ := unhide HHB (by first | rfl | trivial)
  have HQ1 := hide hq1
  have HQ2 := hide hq2
  have t1 := hbd.text
  have t2 := hbd.slots
  have t3 := hbd.vals
  have t4 := hbd.prs
  simp only at t1 t2 t3 t4
  have N1 := nbsB_len hq1
  have N2 := nbsB_len hq2
  have N3 := nbsB_len (xs := [yesN ye]) (by intro x hx; simp at hx; subst hx; unfold yesN; split <;> omega)
  have N4 := nbsB_len (xs := [(tx.size : Int)]) (by intro x hx; simp at hx; subst hx; omega)
  have N5 := nbB_len (n := (ss.length : Int)) (by omega) (by omega)
  have N6 := nbsB_len (xs := ss) hbd.slotsB
  have N7 := nbB_len (n := (vs.length : Int)) (by omega) (by omega)
  have N8 := nbsB_len (xs := vs) hbd.valsB
  simp only [List.length_cons, List.length_nil] at N1 N2 N3 N4
  have TXL := textB_length tx
  clear hpk hbd HPK HBD HHB hq1 hq2
  have s0 := (unhide HX1).atI 0 rfl
  have s1 := (unhide HX1).atI 1 rfl
  have s2 := (unhide HX1).atI 2 rfl
  have s3 := (unhide HX1).atI 3 rfl
  have s4 := (unhide HX1).atI 4 rfl
  have s5 := (unhide HX1).atI 5 rfl
  have lx1 := (unhide HX1).lt
  go_wp2_with fail
  clear s0 s1 s2 s3 s4 s5 lx1
  obtain ⟨w2, hw2⟩ : ∃ z, z = w1.alloc (.cells #[.slice none 0 0] 60) := ⟨_, rfl⟩
  have hb2 : Below w1.heap.size w1 w2 := by rw [hw2]; exact (Below.refl _ _).alloc (Nat.le_refl _) _
  have R2 : Hid (Box w2 w1.heap.size 60 #[.slice none 0 0]) := by rw [hw2]; exact Box.made _ _ _
  have z2 : w2.heap.size = w1.heap.size + 1 := by rw [hw2]; simp
  have O2 : Hid (OwnB w2 (w1.heap.size + 1) (.slice none 0 0) []) := World.ownsRow_nil _ _ _ _
  have HB2 := hide ((unhide HB1).trans (hb2.mono (unhide HB1).size))
  have HX2 := hide ((unhide HX1).kept hb2)
  have zz2 : w1.heap.size + 1 ≤ w2.heap.size := by omega
  rw [← hw2, ← z2]
  clear hw2 z2 hb2 HB1 HX1
  generalize w1.heap.size = G at *
  refine (put_lit [kd, sr, ds, sp, ty, wt] 6 _ rfl (by simp) rfl (unhide HQ1) (G + 1) G (.slice none 0 0) [] w2 (unhide R2) (unhide O2) (by first | omega | simp) (Nat.lt_succ_self G) (by first | omega | simp)).mono ?_; rintro e w3 ⟨v3, rfl, b3, o3, k3⟩
  obtain ⟨hb3, hx3⟩ := Kw.keep k3 (by omega) (Nat.lt_succ_self G) (unhide HB2) (unhide HX2)
  have R3 := hide b3
  have O3 := hide o3
  have HB3 := hide hb3
  have HX3 := hide hx3
  have zz3 := Nat.le_trans zz2 k3.size
  clear b3 o3 k3 hb3 hx3 R2 O2 HB2 HX2  
  have hl3 : ([] ++ nbsB [kd, sr, ds, sp, ty, wt]).length ≤ 24 := by simp only [List.length_append, List.length_nil]; omega
  generalize hL3 : [] ++ nbsB [kd, sr, ds, sp, ty, wt] = L3 at *
  have HL3 := hide hL3
  clear hL3
  have s6 := (unhide HX3).atI 6 rfl
  have lx3 := (unhide HX3).lt
  go_wp2_with fail
  refine (putYes_any ye (G + 1) G v3 L3 w3 (unhide R3) (unhide O3) (by omega) (Nat.lt_succ_self G) (by omega)).mono ?_; rintro e w4 ⟨v4, rfl, b4, o4, k4⟩
  obtain ⟨hb4, hx4⟩ := Kw.keep k4 (by omega) (Nat.lt_succ_self G) (unhide HB3) (unhide HX3)
  have R4 := hide b4
  have O4 := hide o4
  have HB4 := hide hb4
  have HX4 := hide hx4
  have zz4 := Nat.le_trans zz3 k4.size
  clear b4 o4 k4 hb4 hx4 R3 O3 HB3 HX3 lx3 s6
  have hl4 : (L3 ++ nbsB [yesN ye]).length ≤ 28 := by simp only [List.length_append, List.length_nil]; omega
  generalize hL4 : L3 ++ nbsB [yesN ye] = L4 at *
  have HL4 := hide hL4
  clear hL4
  have s9 := (unhide HX4).atI 9 rfl
  have s11 := (unhide HX4).atI 11 rfl
  have s12 := (unhide HX4).atI 12 rfl
  have s13 := (unhide HX4).atI 13 rfl
  have s15 := (unhide HX4).atI 15 rfl
  have s16 := (unhide HX4).atI 16 rfl
  have lx4 := (unhide HX4).lt
  go_wp2_with fail
  refine (put_lit [cd, se, nu, ck, sl, ho] 6 _ rfl (by simp) rfl (unhide HQ2) (G + 1) G v4 L4 w4 (unhide R4) (unhide O4) (by omega) (Nat.lt_succ_self G) (by omega)).mono ?_; rintro e w5 ⟨v5, rfl, b5, o5, k5⟩
  obtain ⟨hb5, hx5⟩ := Kw.keep k5 (by omega) (Nat.lt_succ_self G) (unhide HB4) (unhide HX4)
  have R5 := hide b5
  have O5 := hide o5
  have HB5 := hide hb5
  have HX5 := hide hx5
  have zz5 := Nat.le_trans zz4 k5.size
  clear b5 o5 k5 hb5 hx5 R4 O4 HB4 HX4 lx4 s9 s11 s12 s13 s15 s16
  have hl5 : (L4 ++ nbsB [cd, se, nu, ck, sl, ho]).length ≤ 52 := by simp only [List.length_append, List.length_nil]; omega
  generalize hL5 : L4 ++ nbsB [cd, se, nu, ck, sl, ho] = L5 at *
  have HL5 := hide hL5
  clear hL5
  have s14 := (unhide HX5).atI 14 rfl
  have lx5 := (unhide HX5).lt
  go_wp2_with fail
  refine (putText_any tx (G + 1) G v5 L5 w5 (unhide R5) (unhide O5) (by omega) (Nat.lt_succ_self G) (by omega) (by omega)).mono ?_; rintro e w6 ⟨v6, rfl, b6, o6, k6⟩
  obtain ⟨hb6, hx6⟩ := Kw.keep k6 (by omega) (Nat.lt_succ_self G) (unhide HB5) (unhide HX5)
  have R6 := hide b6
  have O6 := hide o6
  have HB6 := hide hb6
  have HX6 := hide hx6
  have zz6 := Nat.le_trans zz5 k6.size
  clear b6 o6 k6 hb6 hx6 R5 O5 HB5 HX5 lx5 s14
  have hl6 : (L5 ++ nbsB [(tx.size : Int)] ++ textB tx).length ≤ 140 := by simp only [List.length_append, List.length_nil]; omega
  generalize hL6 : L5 ++ nbsB [(tx.size : Int)] ++ textB tx = L6 at *
  have HL6 := hide hL6
  clear hL6
  have s7 := (unhide HX6).atI 7 rfl
  have lx6 := (unhide HX6).lt
  go_wp2_with fail
  refine (putList_any _ ss (G + 1) G v6 L6 w6 (unhide R6) (unhide O6) (by omega) (Nat.lt_succ_self G) (by omega) ((unhide HWD).slots.kept (unhide HB6)) (fun h0 q e => by have := (unhide HWD).slots.lt h0 q e; omega) (unhide HD).slotsB (by omega)).mono ?_; rintro e w7 ⟨v7, rfl, b7, o7, k7⟩
  obtain ⟨hb7, hx7⟩ := Kw.keep k7 (by omega) (Nat.lt_succ_self G) (unhide HB6) (unhide HX6)
  have R7 := hide b7
  have O7 := hide o7
  have HB7 := hide hb7
  have HX7 := hide hx7
  have zz7 := Nat.le_trans zz6 k7.size
  clear b7 o7 k7 hb7 hx7 R6 O6 HB6 HX6 lx6 s7
  have hl7 : (L6 ++ (nbB ss.length ++ nbsB ss)).length ≤ 180 := by simp only [List.length_append, List.length_nil]; omega
  generalize hL7 : L6 ++ (nbB ss.length ++ nbsB ss) = L7 at *
  have HL7 := hide hL7
  clear hL7
  have s10 := (unhide HX7).atI 10 rfl
  have lx7 := (unhide HX7).lt
  go_wp2_with fail
  refine (putList_any _ vs (G + 1) G v7 L7 w7 (unhide R7) (unhide O7) (by omega) (Nat.lt_succ_self G) (by omega) ((unhide HWD).vals.kept (unhide HB7)) (fun h0 q e => by have := (unhide HWD).vals.lt h0 q e; omega) (unhide HD).valsB (by omega)).mono ?_; rintro e w8 ⟨v8, rfl, b8, o8, k8⟩
  obtain ⟨hb8, hx8⟩ := Kw.keep k8 (by omega) (Nat.lt_succ_self G) (unhide HB7) (unhide HX7)
  have R8 := hide b8
  have O8 := hide o8
  have HB8 := hide hb8
  have HX8 := hide hx8
  have zz8 := Nat.le_trans zz7 k8.size
  clear b8 o8 k8 hb8 hx8 R7 O7 HB7 HX7 lx7 s10
  have hl8 : (L7 ++ (nbB vs.length ++ nbsB vs)).length ≤ 220 := by simp only [List.length_append, List.length_nil]; omega
  generalize hL8 : L7 ++ (nbB vs.length ++ nbsB vs) = L8 at *
  have HL8 := hide hL8
  clear hL8
  have s8 := (unhide HX8).atI 8 rfl
  have lx8 := (unhide HX8).lt
  go_wp2_with fail
  refine (putPairs_any _ ps (G + 1) G v8 L8 w8 (unhide R8) (unhide O8) (by omega) (Nat.lt_succ_self G) (by omega) ((unhide HWD).prs.kept (unhide HB8)) (fun h0 q e => by have := (unhide HWD).prs.lt h0 q e; omega) (unhide HD).prsB (by omega)).mono ?_; rintro e w9 ⟨v9, rfl, b9, o9, k9⟩
  obtain ⟨hb9, hx9⟩ := Kw.keep k9 (by omega) (Nat.lt_succ_self G) (unhide HB8) (unhide HX8)
  have R9 := hide b9
  have O9 := hide o9
  have HB9 := hide hb9
  have HX9 := hide hx9
  have zz9 := Nat.le_trans zz8 k9.size
  clear b9 o9 k9 hb9 hx9 R8 O8 HB8 HX8 lx8 s8
  generalize hL9 : L8 ++ (nbB ps.length ++ nbsB (prL ps)) = L9 at *
  have HL9 := hide hL9
  clear hL9
  have o9 := unhide O9
  obtain ⟨a9, c9, rfl, -⟩ := ownsRow_slice o9
  have q9 := (unhide R9).cell 0
  simp only [List.getElem?_toArray, List.getElem?_cons_zero] at q9
  clear o9
  go_wp2_with fail
  go_ret
  have h9 : PK = L9 := by
    rw [unhide HP, ← unhide HL9, ← unhide HL8, ← unhide HL7, ← unhide HL6, ← unhide HL5, ← unhide HL4, ← unhide HL3, unhide HH]
    simp only [List.append_assoc, List.nil_append]
  rw [h9]
  exact ⟨_, rfl, ownsRow_base (unhide O9) (show w.heap.size ≤ G + 1 by omega), unhide HB9⟩

end Go.Proofs.Ytfankbnlgmfdjaa
