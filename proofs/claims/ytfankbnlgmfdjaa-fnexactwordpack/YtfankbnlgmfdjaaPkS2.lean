/- Words as bytes: the specification's answer. -/
import Derived.Test.YtfankbnlgmfdjaaPkS
import Derived.Test.YtfankbnlgmfdjaaPkM2
import Derived.Test.YtfankbnlgmfdjaaWdS2
import Derived.Test.YtfankbnlgmfdjaaAppK2
import Derived.Deep.RegionHeld3
import Derived.Deep.DeepCutAuto
import Derived.Laws.IdiomStrings
namespace Go.Proofs.Ytfankbnlgmfdjaa
open Go.RowKit

theorem InsAt.cellsP {w : World} {a : Option Addr} {n c : Nat} {xs : List Int} (h : InsAt w (.slice a n c) xs) (h0 : xs ≠ []) : ∃ b off, a = some ⟨b, off, none⟩ ∧ InCells w b off xs.length xs := by
  obtain ⟨a', cap, he, h1, h2, h3⟩ := h
  simp at he
  obtain ⟨rfl, rfl, rfl⟩ := he
  rcases h3 with h3 | h3
  · exact absurd h3 h0
  · exact h3
theorem Gw.app {w w' : World} {v v' : Value} (hg : w.grownBy w' v.ownBlock) (hat : v'.ownBlock = v.ownBlock ∨ v'.ownBlock = some w.heap.size) : Gw w w' v v' :=
  ⟨fw_gr hg, fun q e => by
    rcases hat with h | h
    · exact .inl (h ▸ e)
    · right; rw [h] at e; simp at e; omega⟩
theorem OwnB.pushT {w : World} {base : Nat} {v : Value} {bs : List Int} {tx : ByteArray} (h : w.ownsRow base 5 1 v (bs.length + tx.size) (bs.map (Value.int .u8) ++ (textB tx).map (Value.int .u8))) : OwnB w base v (bs ++ textB tx) := by
  unfold OwnB; rw [List.length_append, List.map_append, textB_length]; exact h
theorem cell_kept' {a b : World} {B g o : Nat} {v : Value} (h : Below B a b) (hc : a.cell? ⟨g, o, none⟩ = some v) : g < B → b.cell? ⟨g, o, none⟩ = some v := fun hl => by rw [h.cell (p := ⟨g, o, none⟩) hl]; exact hc
theorem Box.at {w : World} {g : Nat} {T : TypeId} {cs : Array Value} (h : Box w g T cs) (j : Nat) {u : Value} (hj : cs[j]? = some u) : w.cell? ⟨g, j, none⟩ = some u := (h.cell j).trans hj
theorem Gw.keep {w w1 w2 : World} {v v' : Value} {bs : List Int} {T : TypeId} {C : Array Value} (h : Gw w1 w2 v v') (ho : OwnB w1 (w.heap.size + 1) v bs) (hb : Below w.heap.size w w1) (hx : Box w1 w.heap.size T C) : Below w.heap.size w w2 ∧ Box w2 w.heap.size T C := by
  have hq : ∀ k, k ≤ w.heap.size → ¬ v.ownBlock = some k := fun k hk e => by have := (ho.lt k e).1; omega
  exact ⟨h.1.below hb hb.size (fun k hk e => hq k (by omega) e), h.1.box hx (hq _ (Nat.le_refl _))⟩
theorem Gw.ins {w1 w2 : World} {v v' u : Value} {xs : List Int} (h : Gw w1 w2 v v') (hu : InsAt w1 u xs) (hn : ∀ q, u.ownBlock = some q → v.ownBlock ≠ some q) : InsAt w2 u xs := h.1.ins hu (fun q e => hn q e)
theorem bytesRow_take (s : ByteArray) (cap : Nat) : (bytesRow s cap).toList.take s.size = (textB s).map (Value.int .u8) := by
  have h : (s.data.map (fun b => Value.int IntKind.u8 b.toNat)).toList.length = s.size := by simp
  simp only [bytesRow, Array.toList_append]
  rw [← h, List.take_left']
  · simp [textB]
  · rfl
theorem bytesRow_at (s : ByteArray) (cap : Nat) (j : Nat) (u : Value) (h : ((textB s).map (Value.int .u8))[j]? = some u) : (bytesRow s cap)[j]? = some u := by
  rw [← bytesRow_take s cap] at h
  rw [List.getElem?_take] at h
  split at h
  · simpa using h
  · cases h
theorem srcText (w : World) (s : ByteArray) (cap e : Nat) (fr : Nat × Nat) : SrcAt (w.alloc (.cells (bytesRow s cap) e fr)) (some ⟨w.heap.size, 0, none⟩) s.size ((textB s).map (Value.int .u8)) := by
  rcases Nat.eq_zero_or_pos s.size with h | h
  · refine .inl ⟨h, ?_⟩
    have : (textB s).length = 0 := by rw [textB_length, h]
    rw [List.eq_nil_of_length_eq_zero this]; rfl
  · refine .inr ⟨h, _, rfl, fun j u hu => ?_⟩
    have := bytesRow_at s cap j u hu
    have hr : (w.alloc (.cells (bytesRow s cap) e fr)).heap[w.heap.size]? = some (.cells (bytesRow s cap) e fr) := heap_alloc_new _ _
    rw [Addr.add_lit, Nat.zero_add, cell_of_row _ _ j _ _ _ hr]
    exact this
theorem head_ins (w : World) (X : List Int) (h : X.length = 14) : InsAt (w.alloc (.cells ((X.map (Value.int .i64)).toArray) 3)) (.slice (some ⟨w.heap.size, 0, none⟩) 14 14) X := by
  refine ⟨_, 14, by rw [h], by omega, by unfold maxLen; omega, .inr ⟨_, 0, rfl, fun i hi => ?_⟩⟩
  rw [Nat.zero_add, cell_of_row _ _ i _ _ _ (heap_alloc_new _ _)]
  simp [List.getD, hi]

set_option maxRecDepth 100000 in
set_option maxHeartbeats 8000000 in
theorem specPackC_any (kd sr ds sp ty wt : Int) (ye : Bool) (ss : List Int) (ps : List Pr) (cd : Int) (vs : List Int) (se nu ck : Int) (tx : ByteArray) (sl ho : Int) (a0 b0 v0 : Option Addr) (c0 d0 e0 : Nat) (w : World)
    (h : WdAt w ⟨kd, sr, ds, sp, ty, wt, ye, ss, ps, cd, vs, se, nu, ck, tx, sl, ho⟩ (.slice a0 ss.length c0) (.slice b0 ps.length d0) (.slice v0 vs.length e0)) :
    Calls Try.prog 9 #[.agg #[.int .i64 kd, .int .i64 sr, .int .i64 ds, .int .i64 sp, .int .i64 ty, .int .i64 wt, .bool ye, .slice a0 ss.length c0, .slice b0 ps.length d0, .int .i64 cd, .slice v0 vs.length e0, .int .i64 se, .int .i64 nu, .int .i64 ck, .string tx, .int .i64 sl, .int .i64 ho]] w fun e w' => ∃ r, e = .returned r ∧ OwnB w' w.heap.size r (packL ⟨kd, sr, ds, sp, ty, wt, ye, ss, ps, cd, vs, se, nu, ck, tx, sl, ho⟩) ∧ Below w.heap.size w w' := by
  have HWD := hide h
  have HWO := hide (fun ww hk => specWordOk_any ⟨kd, sr, ds, sp, ty, wt, ye, ss, ps, cd, vs, se, nu, ck, tx, sl, ho⟩ (.slice a0 ss.length c0) (.slice b0 ps.length d0) (.slice v0 vs.length e0) ww hk)
  simp only [wdV, wdC] at HWO
  have HBD : Hid (wordB ⟨kd, sr, ds, sp, ty, wt, ye, ss, ps, cd, vs, se, nu, ck, tx, sl, ho⟩ = true → WdBd ⟨kd, sr, ds, sp, ty, wt, ye, ss, ps, cd, vs, se, nu, ck, tx, sl, ho⟩) := fun hb => word_bd hb
  have HPK : Hid (packL ⟨kd, sr, ds, sp, ty, wt, ye, ss, ps, cd, vs, se, nu, ck, tx, sl, ho⟩ = if wordB ⟨kd, sr, ds, sp, ty, wt, ye, ss, ps, cd, vs, se, nu, ck, tx, sl, ho⟩ = true then nbsB (headL ⟨kd, sr, ds, sp, ty, wt, ye, ss, ps, cd, vs, se, nu, ck, tx, sl, ho⟩) ++ textB tx ++ (nbB ss.length ++ nbsB ss) ++ (nbB vs.length ++ nbsB vs) ++ (nbB ps.length ++ nbsB (prL ps)) else []) := rfl
  generalize packL ⟨kd, sr, ds, sp, ty, wt, ye, ss, ps, cd, vs, se, nu, ck, tx, sl, ho⟩ = PK at *
  generalize wordB ⟨kd, sr, ds, sp, ty, wt, ye, ss, ps, cd, vs, se, nu, ck, tx, sl, ho⟩ = OKW at *
  generalize hHL : headL ⟨kd, sr, ds, sp, ty, wt, ye, ss, ps, cd, vs, se, nu, ck, tx, sl, ho⟩ = HL at *
  have HHL := hide hHL
  clear hHL
  obtain ⟨i0, hi, hz0, hz1, hz2⟩ := info_parts Try.infoU8
  clear h
  have bA : Below w.heap.size w ((w.alloc (.cells #[.int .i64 kd, .int .i64 sr, .int .i64 ds, .int .i64 sp, .int .i64 ty, .int .i64 wt, .bool ye, .slice a0 ss.length c0, .slice b0 ps.length d0, .int .i64 cd, .slice v0 vs.length e0, .int .i64 se, .int .i64 nu, .int .i64 ck, .string tx, .int .i64 sl, .int .i64 ho] 28)).alloc (.cells #[] 5)) := ((Below.refl _ _).alloc (Nat.le_refl _) _).alloc (by simp) _
  have hbx : Box ((w.alloc (.cells #[.int .i64 kd, .int .i64 sr, .int .i64 ds, .int .i64 sp, .int .i64 ty, .int .i64 wt, .bool ye, .slice a0 ss.length c0, .slice b0 ps.length d0, .int .i64 cd, .slice v0 vs.length e0, .int .i64 se, .int .i64 nu, .int .i64 ck, .string tx, .int .i64 sl, .int .i64 ho] 28)).alloc (.cells #[] 5)) w.heap.size 28 #[.int .i64 kd, .int .i64 sr, .int .i64 ds, .int .i64 sp, .int .i64 ty, .int .i64 wt, .bool ye, .slice a0 ss.length c0, .slice b0 ps.length d0, .int .i64 cd, .slice v0 vs.length e0, .int .i64 se, .int .i64 nu, .int .i64 ck, .string tx, .int .i64 sl, .int .i64 ho] := (Box.made _ _ _).alloc _
  go_enter Try.func9, Try.ntmps9
  go_wp2_with (refine wpList_load_row rfl 28 _ rfl w.heap.size rfl 28 #[.int .i64 kd, .int .i64 sr, .int .i64 ds, .int .i64 sp, .int .i64 ty, .int .i64 wt, .bool ye, .slice a0 ss.length c0, .slice b0 ps.length d0, .int .i64 cd, .slice v0 vs.length e0, .int .i64 se, .int .i64 nu, .int .i64 ck, .string tx, .int .i64 sl, .int .i64 ho] _ _ hbx.row Try.underlying28 rfl (by kernel_rfl) ?_)
  have how : OwnB ((w.alloc (.cells #[.int .i64 kd, .int .i64 sr, .int .i64 ds, .int .i64 sp, .int .i64 ty, .int .i64 wt, .bool ye, .slice a0 ss.length c0, .slice b0 ps.length d0, .int .i64 cd, .slice v0 vs.length e0, .int .i64 se, .int .i64 nu, .int .i64 ck, .string tx, .int .i64 sl, .int .i64 ho] 28)).alloc (.cells #[] 5)) (w.heap.size + 1) (.slice (some ⟨w.heap.size + 1, 0, none⟩) 0 0) [] := by
    have := World.ownsRow_made (base := w.heap.size + 1) (e := 5) (size := 1) (w.alloc (.cells #[.int .i64 kd, .int .i64 sr, .int .i64 ds, .int .i64 sp, .int .i64 ty, .int .i64 wt, .bool ye, .slice a0 ss.length c0, .slice b0 ps.length d0, .int .i64 cd, .slice v0 vs.length e0, .int .i64 se, .int .i64 nu, .int .i64 ck, .string tx, .int .i64 sl, .int .i64 ho] 28)) #[] 0 (by simp) (by simp [maxLen]) (by simp)
    unfold OwnB
    simpa using this
  refine (unhide HWO _ ((unhide HWD).kept bA)).mono ?_; rintro e w1 ⟨rfl, h1⟩
  have HB1 := hide (bA.trans (h1.mono bA.size))
  have HX1 := hide (hbx.kept h1)
  have HO1 : Hid (OwnB w1 (w.heap.size + 1) (.slice (some ⟨w.heap.size + 1, 0, none⟩) 0 0) []) := ownsRow_below how h1
  have z1 := h1.size
  simp at z1
  clear bA hbx how h1
  cases OKW
  · have hpk := unhide HPK
    simp only [Bool.false_eq_true, if_false] at hpk
    subst hpk
    clear HPK HBD
    go_wp2_with fail
    go_ret
    exact ⟨_, rfl, ownsRow_base (unhide HO1) (by omega), unhide HB1⟩
  have hpk := unhide HPK
  simp only [if_true] at hpk
  have HP := hide hpk
  have hbd := unhide HBD (by first | rfl | trivial)
  have HD := hide hbd
  clear hpk hbd HPK HBD HWO
  go_wp2_with fail
  go_cut [4] (fun s wz => s = .slice (some ⟨w1.heap.size, 0, none⟩) 14 14 ∧ wz = (w1.alloc (.cells #[.int .i64 kd, .int .i64 sr, .int .i64 ds, .int .i64 sp, .int .i64 ty, .int .i64 wt, .int .i64 (yesN ye), .int .i64 cd, .int .i64 se, .int .i64 nu, .int .i64 ck, .int .i64 sl, .int .i64 ho, .int .i64 (tx.size : Int)] 3)).drew)
  case first =>
    refine wp_region_held_drew (S := fun w' => Box w' w.heap.size 28 #[.int .i64 kd, .int .i64 sr, .int .i64 ds, .int .i64 sp, .int .i64 ty, .int .i64 wt, .bool ye, .slice a0 ss.length c0, .slice b0 ps.length d0, .int .i64 cd, .slice v0 vs.length e0, .int .i64 se, .int .i64 nu, .int .i64 ck, .string tx, .int .i64 sl, .int .i64 ho]) (by kernel_rfl) ⟨(unhide HX1).row⟩ (fun hHeld => ?_)
    refine wpAnyH_take (i := 0) (v := ?v1) rfl (by kernel_rfl) (by kernel_rfl) (by kernel_rfl) (fun _ _ _ h => h) (Or.inl ⟨by rfl, ?h1⟩) (by assumption) ?_
    case h1 => (intro w0 hSw; clear hSw; go_simp; try (with_reducible rfl))
    try simp only [Act.put]
    refine wpAnyH_take (i := 2) (v := ?v2) rfl (by kernel_rfl) (by kernel_rfl) (by kernel_rfl) (fun _ _ _ h => h) (Or.inl ⟨by rfl, ?h2⟩) (by assumption) ?_
    case h2 => (intro w0 hSw; clear hSw; go_simp; try (with_reducible rfl))
    try simp only [Act.put]
    refine wpAnyH_take (i := 4) (v := ?v3) rfl (by kernel_rfl) (by kernel_rfl) (by kernel_rfl) (fun _ _ _ h => h) (Or.inl ⟨by rfl, ?h3⟩) (by assumption) ?_
    case h3 => (intro w0 hSw; clear hSw; go_simp; try (with_reducible rfl))
    try simp only [Act.put]
    refine wpAnyH_take (i := 6) (v := ?v4) rfl (by kernel_rfl) (by kernel_rfl) (by kernel_rfl) (fun _ _ _ h => h) (Or.inl ⟨by rfl, ?h4⟩) (by assumption) ?_
    case h4 => (intro w0 hSw; clear hSw; go_simp; try (with_reducible rfl))
    try simp only [Act.put]
    refine wpAnyH_take (i := 8) (v := ?v5) rfl (by kernel_rfl) (by kernel_rfl) (by kernel_rfl) (fun _ _ _ h => h) (Or.inl ⟨by rfl, ?h5⟩) (by assumption) ?_
    case h5 => (intro w0 hSw; clear hSw; go_simp; try (with_reducible rfl))
    try simp only [Act.put]
    refine wpAnyH_take (i := 10) (v := ?v6) rfl (by kernel_rfl) (by kernel_rfl) (by kernel_rfl) (fun _ _ _ h => h) (Or.inl ⟨by rfl, ?h6⟩) (by assumption) ?_
    case h6 => (intro w0 hSw; clear hSw; go_simp; try (with_reducible rfl))
    try simp only [Act.put]
    refine wpAnyH_take (i := 12) (v := ?v7) rfl (by kernel_rfl) (by kernel_rfl) (by kernel_rfl) (fun _ _ _ h => h) (Or.inl ⟨by rfl, ?h7⟩) (by assumption) ?_
    case h7 => (intro w0 hSw; clear hSw; go_simp; try (with_reducible rfl))
    try simp only [Act.put]
    refine wpAnyH_take (i := 15) (v := ?v8) rfl (by kernel_rfl) (by kernel_rfl) (by kernel_rfl) (fun _ _ _ h => h) (Or.inl ⟨by rfl, ?h8⟩) (by assumption) ?_
    case h8 => (intro w0 hSw; clear hSw; go_simp; try (with_reducible rfl))
    try simp only [Act.put]
    refine wpAnyH_take (i := 17) (v := ?v9) rfl (by kernel_rfl) (by kernel_rfl) (by kernel_rfl) (fun _ _ _ h => h) (Or.inl ⟨by rfl, ?h9⟩) (by assumption) ?_
    case h9 => (intro w0 hSw; clear hSw; go_simp; try (with_reducible rfl))
    try simp only [Act.put]
    refine wpAnyH_take (i := 20) (v := ?v10) rfl (by kernel_rfl) (by kernel_rfl) (by kernel_rfl) (fun _ _ _ h => h) (Or.inl ⟨by rfl, ?h10⟩) (by assumption) ?_
    case h10 => (intro w0 hSw; clear hSw; go_simp; try (with_reducible rfl))
    try simp only [Act.put]
    refine wpAnyH_take (i := 23) (v := ?v11) rfl (by kernel_rfl) (by kernel_rfl) (by kernel_rfl) (fun _ _ _ h => h) (Or.inl ⟨by rfl, ?h11⟩) (by assumption) ?_
    case h11 => (intro w0 hSw; clear hSw; go_simp; try (with_reducible rfl))
    try simp only [Act.put]
    refine wpAnyH_take (i := 26) (v := ?v12) rfl (by kernel_rfl) (by kernel_rfl) (by kernel_rfl) (fun _ _ _ h => h) (Or.inl ⟨by rfl, ?h12⟩) (by assumption) ?_
    case h12 => (intro w0 hSw; clear hSw; go_simp; try (with_reducible rfl))
    try simp only [Act.put]
    refine wpAnyH_take (i := 29) (v := ?v13) rfl (by kernel_rfl) (by kernel_rfl) (by kernel_rfl) (fun _ _ _ h => h) (Or.inl ⟨by rfl, ?h13⟩) (by assumption) ?_
    case h13 => (intro w0 hSw; clear hSw; go_simp; try (with_reducible rfl))
    try simp only [Act.put]
    refine wpAnyH_take (i := 32) (v := ?v14) rfl (by kernel_rfl) (by kernel_rfl) (by kernel_rfl) (fun _ _ _ h => h) (Or.inl ⟨by rfl, ?h14⟩) (by assumption) ?_
    case h14 => (intro w0 hSw; clear hSw; go_simp; try (with_reducible rfl))
    try simp only [Act.put]
    refine wpAnyH_take (i := 1) (v := ?v15) rfl (by kernel_rfl) (by kernel_rfl) (by kernel_rfl) (fun _ _ _ h => h) (Or.inl ⟨by rfl, ?h15⟩) (by assumption) ?_
    case h15 => (intro w0 hSw; have s0 := hSw.at 0 rfl; clear hSw; go_simp; try (with_reducible rfl))
    try simp only [Act.put]
    refine wpAnyH_take (i := 3) (v := ?v16) rfl (by kernel_rfl) (by kernel_rfl) (by kernel_rfl) (fun _ _ _ h => h) (Or.inl ⟨by rfl, ?h16⟩) (by assumption) ?_
    case h16 => (intro w0 hSw; have s0 := hSw.at 1 rfl; clear hSw; go_simp; try (with_reducible rfl))
    try simp only [Act.put]
    refine wpAnyH_take (i := 5) (v := ?v17) rfl (by kernel_rfl) (by kernel_rfl) (by kernel_rfl) (fun _ _ _ h => h) (Or.inl ⟨by rfl, ?h17⟩) (by assumption) ?_
    case h17 => (intro w0 hSw; have s0 := hSw.at 2 rfl; clear hSw; go_simp; try (with_reducible rfl))
    try simp only [Act.put]
    refine wpAnyH_take (i := 7) (v := ?v18) rfl (by kernel_rfl) (by kernel_rfl) (by kernel_rfl) (fun _ _ _ h => h) (Or.inl ⟨by rfl, ?h18⟩) (by assumption) ?_
    case h18 => (intro w0 hSw; have s0 := hSw.at 3 rfl; clear hSw; go_simp; try (with_reducible rfl))
    try simp only [Act.put]
    refine wpAnyH_take (i := 9) (v := ?v19) rfl (by kernel_rfl) (by kernel_rfl) (by kernel_rfl) (fun _ _ _ h => h) (Or.inl ⟨by rfl, ?h19⟩) (by assumption) ?_
    case h19 => (intro w0 hSw; have s0 := hSw.at 4 rfl; clear hSw; go_simp; try (with_reducible rfl))
    try simp only [Act.put]
    refine wpAnyH_take (i := 11) (v := ?v20) rfl (by kernel_rfl) (by kernel_rfl) (by kernel_rfl) (fun _ _ _ h => h) (Or.inl ⟨by rfl, ?h20⟩) (by assumption) ?_
    case h20 => (intro w0 hSw; have s0 := hSw.at 5 rfl; clear hSw; go_simp; try (with_reducible rfl))
    try simp only [Act.put]
    refine wpAnyH_take (i := 13) (v := ?v21) rfl (by kernel_rfl) (by kernel_rfl) (by kernel_rfl) (fun _ _ _ h => h) (Or.inl ⟨by rfl, ?h21⟩) (by assumption) ?_
    case h21 => (intro w0 hSw; have s0 := hSw.at 6 rfl; clear hSw; go_simp; try (with_reducible rfl))
    try simp only [Act.put]
    refine wpAnyH_take (i := 16) (v := ?v22) rfl (by kernel_rfl) (by kernel_rfl) (by kernel_rfl) (fun _ _ _ h => h) (Or.inl ⟨by rfl, ?h22⟩) (by assumption) ?_
    case h22 => (intro w0 hSw; have s0 := hSw.at 9 rfl; clear hSw; go_simp; try (with_reducible rfl))
    try simp only [Act.put]
    refine wpAnyH_take (i := 18) (v := ?v23) rfl (by kernel_rfl) (by kernel_rfl) (by kernel_rfl) (fun _ _ _ h => h) (Or.inl ⟨by rfl, ?h23⟩) (by assumption) ?_
    case h23 => (intro w0 hSw; clear hSw; go_simp; try (with_reducible rfl))
    try simp only [Act.put]
    refine wpAnyH_take (i := 21) (v := ?v24) rfl (by kernel_rfl) (by kernel_rfl) (by kernel_rfl) (fun _ _ _ h => h) (Or.inl ⟨by rfl, ?h24⟩) (by assumption) ?_
    case h24 => (intro w0 hSw; clear hSw; go_simp; try (with_reducible rfl))
    try simp only [Act.put]
    refine wpAnyH_take (i := 24) (v := ?v25) rfl (by kernel_rfl) (by kernel_rfl) (by kernel_rfl) (fun _ _ _ h => h) (Or.inl ⟨by rfl, ?h25⟩) (by assumption) ?_
    case h25 => (intro w0 hSw; clear hSw; go_simp; try (with_reducible rfl))
    try simp only [Act.put]
    refine wpAnyH_take (i := 27) (v := ?v26) rfl (by kernel_rfl) (by kernel_rfl) (by kernel_rfl) (fun _ _ _ h => h) (Or.inl ⟨by rfl, ?h26⟩) (by assumption) ?_
    case h26 => (intro w0 hSw; clear hSw; go_simp; try (with_reducible rfl))
    try simp only [Act.put]
    refine wpAnyH_take (i := 30) (v := ?v27) rfl (by kernel_rfl) (by kernel_rfl) (by kernel_rfl) (fun _ _ _ h => h) (Or.inl ⟨by rfl, ?h27⟩) (by assumption) ?_
    case h27 => (intro w0 hSw; clear hSw; go_simp; try (with_reducible rfl))
    try simp only [Act.put]
    refine wpAnyH_take (i := 33) (v := ?v28) rfl (by kernel_rfl) (by kernel_rfl) (by kernel_rfl) (fun _ _ _ h => h) (Or.inl ⟨by rfl, ?h28⟩) (by assumption) ?_
    case h28 => (intro w0 hSw; clear hSw; go_simp; try (with_reducible rfl))
    try simp only [Act.put]
    refine wpAnyH_take (i := 19) (v := ?v29) rfl (by kernel_rfl) (by kernel_rfl) (by kernel_rfl) (fun _ _ _ h => h) (Or.inl ⟨by rfl, ?h29⟩) (by assumption) ?_
    case h29 => (intro w0 hSw; have s0 := hSw.at 11 rfl; clear hSw; go_simp; try (with_reducible rfl))
    try simp only [Act.put]
    refine wpAnyH_take (i := 22) (v := ?v30) rfl (by kernel_rfl) (by kernel_rfl) (by kernel_rfl) (fun _ _ _ h => h) (Or.inl ⟨by rfl, ?h30⟩) (by assumption) ?_
    case h30 => (intro w0 hSw; have s0 := hSw.at 12 rfl; clear hSw; go_simp; try (with_reducible rfl))
    try simp only [Act.put]
    refine wpAnyH_take (i := 25) (v := ?v31) rfl (by kernel_rfl) (by kernel_rfl) (by kernel_rfl) (fun _ _ _ h => h) (Or.inl ⟨by rfl, ?h31⟩) (by assumption) ?_
    case h31 => (intro w0 hSw; have s0 := hSw.at 13 rfl; clear hSw; go_simp; try (with_reducible rfl))
    try simp only [Act.put]
    refine wpAnyH_take (i := 28) (v := ?v32) rfl (by kernel_rfl) (by kernel_rfl) (by kernel_rfl) (fun _ _ _ h => h) (Or.inl ⟨by rfl, ?h32⟩) (by assumption) ?_
    case h32 => (intro w0 hSw; have s0 := hSw.at 15 rfl; clear hSw; go_simp; try (with_reducible rfl))
    try simp only [Act.put]
    refine wpAnyH_take (i := 31) (v := ?v33) rfl (by kernel_rfl) (by kernel_rfl) (by kernel_rfl) (fun _ _ _ h => h) (Or.inl ⟨by rfl, ?h33⟩) (by assumption) ?_
    case h33 => (intro w0 hSw; have s0 := hSw.at 16 rfl; clear hSw; go_simp; try (with_reducible rfl))
    try simp only [Act.put]
    refine wpAnyH_take (i := 34) (v := ?v34) rfl (by kernel_rfl) (by kernel_rfl) (by kernel_rfl) (fun _ _ _ h => h) (Or.inl ⟨by rfl, ?h34⟩) (by assumption) ?_
    case h34 => (intro w0 hSw; have s0 := hSw.at 14 rfl; clear hSw; go_simp; try (with_reducible rfl))
    try simp only [Act.put]
    refine wpAnyH_take (i := 35) (v := ?v35) rfl (by kernel_rfl) (by kernel_rfl) (by kernel_rfl) (fun _ _ _ h => h) (Or.inl ⟨by rfl, ?h35⟩) (by assumption) ?_
    case h35 => (intro w0 hSw; clear hSw; go_simp; try (with_reducible rfl))
    try simp only [Act.put]
    refine wpAnyH_ready (rs := [14]) (by kernel_rfl) (by simp) ?_
    refine AllReadyH.cons rfl (fun K hK => ?_) AllReadyH.nil
    go_simp
    go_at_call 28
    refine (l13Yes_any _ _).mono ?_; rintro e w' ⟨rfl, rfl⟩
    try go_wp2_with fail
    clear hHeld
    refine hK.out _ _ (Box.mk (unhide HX1).row) (fun hHeld => ?_)
    clear hK K
    refine wpAnyH_ready (rs := [36]) (by kernel_rfl) (by simp) ?_
    refine AllReadyH.cons rfl (fun K hK => ?_) AllReadyH.nil
    go_simp
    try go_wp2_with fail
    clear hHeld
    refine hK.out _ _ (Box.mk (Box.alloc (unhide HX1) _).row) (fun hHeld => ?_)
    clear hK K
    refine wpAnyH_ready (rs := [37]) (by kernel_rfl) (by simp) ?_
    refine AllReadyH.cons rfl (fun K hK => ?_) AllReadyH.nil
    go_simp
    try go_wp2_with fail
    refine hK.out _ _ (by assumption) (fun hHeld' => ?_)
    clear hK K hHeld
    have hHeld := hHeld'
    clear hHeld'
    refine wpAnyH_done (by kernel_rfl) ?_ _
    clear hHeld
    try go_wp2_with fail
    go_meet
    case rel => exact ⟨rfl, rfl⟩
  case rest =>
    obtain ⟨rfl, rfl⟩ := hcut
    obtain ⟨w2, hw2⟩ : ∃ z, z = (w1.alloc (.cells #[.int .i64 kd, .int .i64 sr, .int .i64 ds, .int .i64 sp, .int .i64 ty, .int .i64 wt, .int .i64 (yesN ye), .int .i64 cd, .int .i64 se, .int .i64 nu, .int .i64 ck, .int .i64 sl, .int .i64 ho, .int .i64 (tx.size : Int)] 3)).drew := ⟨_, rfl⟩
    have hb12 : Below w1.heap.size w1 w2 := by rw [hw2]; exact ((Below.refl _ _).alloc (Nat.le_refl _) _).drew
    have hHLe : HL = [kd, sr, ds, sp, ty, wt, yesN ye, cd, se, nu, ck, sl, ho, (tx.size : Int)] := by rw [← unhide HHL]; rfl
    have hHL14 : HL.length = 14 := by rw [hHLe]; rfl
    have hci : InsAt w2 (.slice (some ⟨w1.heap.size, 0, none⟩) 14 14) HL := by
      have := (head_ins w1 HL hHL14).kept (Below.drew (Below.refl _ _))
      rw [hw2]; rw [hHLe] at this ⊢; exact this
    have HCI := hide hci
    have HX2 := hide ((unhide HX1).kept hb12)
    have HO2 : Hid (OwnB w2 (w.heap.size + 1) (.slice (some ⟨w.heap.size + 1, 0, none⟩) 0 0) []) := ownsRow_below (unhide HO1) hb12
    have HB2 := hide ((unhide HB1).trans (hb12.mono (unhide HB1).size))
    have z2 := hb12.size
    have HDH := hide ((unhide HD).head)
    rw [unhide HHL] at HDH
    have HH14 := hide hHL14
    rw [← hw2]
    clear hw2 hb12 hci HX1 HO1 HB1 hHLe hHL14
    go_wp2_with fail
    go_loopw [3, 5] (fun r i wr => ∃ k : Nat, k ≤ 14 ∧ i = .int .i64 k ∧ OwnB wr (w.heap.size + 1) r (nbsB (HL.take k)) ∧ Gw w2 wr (.slice (some ⟨w.heap.size + 1, 0, none⟩) 0 0) r) (fun _ i _ => 14 - (intOf i).toNat)
    case atStart => exact ⟨0, Nat.zero_le _, rfl, by simpa [nbsB] using unhide HO2, Gw.refl _ _⟩
    case round =>
      obtain ⟨k, hk, rfl, ho, hg⟩ := hrel
      have hls := nbsB_len (xs := HL.take k) (fun y hy => unhide HDH y (List.mem_of_mem_take hy))
      have htk : (HL.take k).length ≤ k := List.length_take_le _ _
      have sz := hg.1.size
      have HOR := hide ho
      have HGR := hide hg
      clear ho hg
      by_cases hlt : k < 14
      ·
        have hir := (unhide HGR).ins (unhide HCI) (fun q e => by simp [Value.ownBlock] at e ⊢; omega)
        obtain ⟨b, off, hbo, hc⟩ := hir.cellsP (by intro h0; have := unhide HH14; rw [h0] at this; cases this)
        simp only [Option.some.injEq, Addr.mk.injEq, and_true] at hbo
        obtain ⟨rfl, rfl⟩ := hbo
        have c0 := hc k (by have := unhide HH14; omega)
        simp only [Nat.zero_add] at c0
        have hb0 := unhide HDH (HL.getD k 0) (by have := unhide HH14; simp [List.getD, show k < HL.length by omega])
        have hsn := nbsB_snoc (xs := HL) (k := k) (by have := unhide HH14; omega)
        generalize HL.getD k 0 = x at *
        have HSN := hide hsn
        have hkI : (k : Int) < 14 := by omega
        have hk0 : (0 : Int) ≤ (k : Int) := by omega
        clear hir hc hsn
        go_wp2_with fail
        refine (l13Num_any (w.heap.size + 1) _ _ x _ (unhide HOR) (by omega) (by omega) hb0.1 hb0.2).mono ?_; rintro e w3 ⟨v3, rfl, ho3, hg3⟩
        have HO3 := hide ho3
        have HG3 : Hid (Gw w2 w3 (.slice (some ⟨w.heap.size + 1, 0, none⟩) 0 0) v3) := (unhide HGR).trans hg3
        clear ho3 hg3 c0
        go_wp2_with fail
        go_roundw
        case rel => exact ⟨k + 1, hlt, by go_num, by rw [unhide HSN]; exact unhide HO3, unhide HG3⟩
        case measure => simp [intOf]; omega
      ·
        obtain rfl : k = 14 := by omega
        have hfull : HL.take 14 = HL := List.take_of_length_le (by have := unhide HH14; omega)
        rw [hfull] at HOR hls
        rename World => w4
        obtain ⟨hb4, hx4⟩ := (unhide HGR).keep (unhide HO2) (unhide HB2) (unhide HX2)
        have HB4 := hide hb4
        have HX4 := hide hx4
        have hn4 : (nbsB HL).length ≤ 56 := by have := unhide HH14; omega
        have htx := (unhide HD).text
        simp only at htx
        have hcv : ∀ ws : World, (convert 9 22 (.string tx)).run Try.prog ws = .ok (.slice (some ⟨ws.heap.size, 0, none⟩) tx.size (grownCap ws tx.size 0 5)) (ws.drew.alloc (.cells (bytesRow tx (grownCap ws tx.size 0 5)) 5 ((bytesRow tx (grownCap ws tx.size 0 5)).size, (bytesRow tx (grownCap ws tx.size 0 5)).size + 1))) := fun ws => run_bytes_of_string ws 9 22 5 tx Try.underlying9 Try.underlying22 Try.underlying5
        have s14 := hx4.at 14 rfl
        have lx4 := hx4.lt
        clear hb4 hx4 hls htk hfull
        go_wp2_with (at_builtin; refine wpList_append_at rfl _ _ 22 rfl (w.heap.size + 1) 5 i0 (.int .u8 0) 1 1 Try.underlying22 hi hz0 hz1 hz2 rfl (by decide) _ (nbsB HL).length _ rfl ((unhide HOR).drew.alloc _) _ tx.size _ ((textB tx).map (Value.int .u8)) rfl (by rw [List.length_map, textB_length]; omega) (srcText _ _ _ _ _) (by simp [Value.oneCell']) (by unfold maxLen; omega) (by omega) (by simp; omega) _ rfl ?_; intro b5 cp5 w5 hown5 hgrow5 hat5)
        have hg5 : Gw w2 w5 (.slice (some ⟨w.heap.size + 1, 0, none⟩) 0 0) (.slice b5 ((nbsB HL).length + tx.size) cp5) := ((unhide HGR).below (((Below.refl _ _).drew).alloc (Nat.le_refl _) _)).trans (Gw.app hgrow5 hat5)
        have ho5 := OwnB.pushT hown5
        obtain ⟨hb5, hx5⟩ := hg5.keep (unhide HO2) (unhide HB2) (unhide HX2)
        have hl5 : (nbsB HL ++ textB tx).length ≤ 200 := by rw [List.length_append, textB_length]; omega
        have HG5 := hide hg5
        have HO5 := hide ho5
        have HB5 := hide hb5
        have HX5 := hide hx5
        have z5 := hg5.1.size
        generalize nbsB HL ++ textB tx = L5 at *
        generalize hv5 : Value.slice b5 ((nbsB HL).length + tx.size) cp5 = v5 at *
        clear hcv s14 hown5 hgrow5 hat5 hg5 ho5 hb5 hx5 HGR HOR HB4 HX4 hv5 HCI HDH HH14
        have l5 := (unhide HX5).lt
        obtain ⟨n6, hn6⟩ : ∃ n6, n6 = nbB ss.length ++ nbsB ss := ⟨_, rfl⟩
        obtain ⟨n7, hn7⟩ : ∃ n7, n7 = nbB vs.length ++ nbsB vs := ⟨_, rfl⟩
        have b1 := (unhide HD).slots
        have b2 := (unhide HD).vals
        have b3 := (unhide HD).prs
        simp only at b1 b2 b3
        have hl6 : n6.length ≤ 36 := by
          have h1 := nbB_len (n := (ss.length : Int)) (by omega) (by omega)
          have h2 := nbsB_len (xs := ss) (unhide HD).slotsB
          rw [hn6, List.length_append]; omega
        have hl7 : n7.length ≤ 36 := by
          have h1 := nbB_len (n := (vs.length : Int)) (by omega) (by omega)
          have h2 := nbsB_len (xs := vs) (unhide HD).valsB
          rw [hn7, List.length_append]; omega
        have HN6 := hide hn6
        have HN7 := hide hn7
        clear hn6 hn7
        refine wp_region_held_drew (S := fun w' => Box w' w.heap.size 28 #[.int .i64 kd, .int .i64 sr, .int .i64 ds, .int .i64 sp, .int .i64 ty, .int .i64 wt, .bool ye, .slice a0 ss.length c0, .slice b0 ps.length d0, .int .i64 cd, .slice v0 vs.length e0, .int .i64 se, .int .i64 nu, .int .i64 ck, .string tx, .int .i64 sl, .int .i64 ho]) (by kernel_rfl) ⟨(unhide HX5).row⟩ (fun hHeld => ?_)
        refine wpAnyH_take (i := 0) (v := ?v36) rfl (by kernel_rfl) (by kernel_rfl) (by kernel_rfl) (fun _ _ _ h => h) (Or.inl ⟨by rfl, ?h36⟩) (by assumption) ?_
        case h36 => (intro w0 hSw; clear hSw; go_simp; try (with_reducible rfl))
        try simp only [Act.put]
        refine wpAnyH_take (i := 1) (v := ?v37) rfl (by kernel_rfl) (by kernel_rfl) (by kernel_rfl) (fun _ _ _ h => h) (Or.inl ⟨by rfl, ?h37⟩) (by assumption) ?_
        case h37 => (intro w0 hSw; clear hSw; go_simp; try (with_reducible rfl))
        try simp only [Act.put]
        refine wpAnyH_take (i := 4) (v := ?v38) rfl (by kernel_rfl) (by kernel_rfl) (by kernel_rfl) (fun _ _ _ h => h) (Or.inl ⟨by rfl, ?h38⟩) (by assumption) ?_
        case h38 => (intro w0 hSw; clear hSw; go_simp; try (with_reducible rfl))
        try simp only [Act.put]
        refine wpAnyH_take (i := 2) (v := ?v39) rfl (by kernel_rfl) (by kernel_rfl) (by kernel_rfl) (fun _ _ _ h => h) (Or.inl ⟨by rfl, ?h39⟩) (by assumption) ?_
        case h39 => (intro w0 hSw; have s0 := hSw.at 7 rfl; clear hSw; go_simp; try (with_reducible rfl))
        try simp only [Act.put]
        refine wpAnyH_take (i := 5) (v := ?v40) rfl (by kernel_rfl) (by kernel_rfl) (by kernel_rfl) (fun _ _ _ h => h) (Or.inl ⟨by rfl, ?h40⟩) (by assumption) ?_
        case h40 => (intro w0 hSw; have s0 := hSw.at 10 rfl; clear hSw; go_simp; try (with_reducible rfl))
        try simp only [Act.put]
        refine wpAnyH_ready (rs := [3]) (by kernel_rfl) (by simp) ?_
        refine AllReadyH.cons rfl (fun K hK => ?_) AllReadyH.nil
        go_simp
        go_at_call 30
        refine (l13Nums_any (w.heap.size + 1) v5 _ L5 ss _ (unhide HO5).drew ((unhide HWD).slots.kept (unhide HB5).drew) (fun hx q e e' => by have := (unhide HWD).slots.lt hx q e; have := ((unhide HO5).drew.lt q e').1; omega) (by first | omega | (simp only [World.drew]; omega)) (by first | omega | (rw [List.length_append]; omega)) (unhide HD).slotsB (by omega)).mono ?_; rintro e w6 ⟨v6, rfl, ho6, hg6⟩
        obtain ⟨hb6, hx6⟩ := hg6.keep (unhide HO5).drew (unhide HB5).drew (Box.mk (unhide HX5).row : Box w5.drew _ _ _)
        have HO6 : Hid (OwnB w6 (w.heap.size + 1) v6 (L5 ++ n6)) := by rw [unhide HN6]; exact ho6
        have HB6 := hide hb6
        have HX6 := hide hx6
        have z6 := hg6.1.size
        (try simp only [World.drew] at z6)
        clear ho6 hg6 hb6 hx6
        try go_wp2_with fail
        clear hHeld
        refine hK.out _ _ (unhide HX6) (fun hHeld => ?_)
        clear hK K
        refine wpAnyH_ready (rs := [6]) (by kernel_rfl) (by simp) ?_
        refine AllReadyH.cons rfl (fun K hK => ?_) AllReadyH.nil
        go_simp
        go_at_call 30
        refine (l13Nums_any (w.heap.size + 1) v6 _ (L5 ++ n6) vs _ (unhide HO6) ((unhide HWD).vals.kept (unhide HB6)) (fun hx q e e' => by have := (unhide HWD).vals.lt hx q e; have := ((unhide HO6).lt q e').1; omega) (by first | omega | (simp only [World.drew]; omega)) (by first | omega | (rw [List.length_append]; omega)) (unhide HD).valsB (by omega)).mono ?_; rintro e w7 ⟨v7, rfl, ho7, hg7⟩
        obtain ⟨hb7, hx7⟩ := hg7.keep (unhide HO6) (unhide HB6) (unhide HX6)
        have HO7 : Hid (OwnB w7 (w.heap.size + 1) v7 ((L5 ++ n6) ++ n7)) := by rw [unhide HN7]; exact ho7
        have HB7 := hide hb7
        have HX7 := hide hx7
        have z7 := hg7.1.size
        (try simp only [World.drew] at z7)
        clear ho7 hg7 hb7 hx7
        try go_wp2_with fail
        clear hHeld
        refine hK.out _ _ (unhide HX7) (fun hHeld => ?_)
        clear hK K
        refine wpAnyH_ready (rs := [7]) (by kernel_rfl) (by simp) ?_
        refine AllReadyH.cons rfl (fun K hK => ?_) AllReadyH.nil
        go_simp
        try go_wp2_with fail
        refine hK.out _ _ (by assumption) (fun hHeld' => ?_)
        clear hK K hHeld
        have hHeld := hHeld'
        clear hHeld'
        refine wpAnyH_done (by kernel_rfl) ?_ _
        clear hHeld
        have hl : (L5 ++ n6 ++ n7).length ≤ 280 := by simp only [List.length_append]; omega
        have s8 := (unhide HX7).at 8 rfl
        have lx7 := (unhide HX7).lt
        clear HO5 HO6 HB5 HB6 HX5 HX6 HG5
        generalize hL7 : L5 ++ n6 ++ n7 = L7 at *
        have HL7 := hide hL7
        clear hL7
        go_wp2_with fail
        refine (l13Num_any (w.heap.size + 1) v7 L7 ps.length w7 (unhide HO7) (by omega) (by omega) (by omega) (by omega)).mono ?_; rintro e w8 ⟨v8, rfl, ho8, hg8⟩
        obtain ⟨hb8, hx8⟩ := Gw.keep hg8 (unhide HO7) (unhide HB7) (unhide HX7)
        have HO8 := hide ho8
        have HB8 := hide hb8
        have HX8 := hide hx8
        have z8 := hg8.1.size
        have hn8 := nbB_len (n := (ps.length : Int)) (by omega) (by omega)
        have hl8 : (L7 ++ nbB ps.length).length ≤ 290 := by rw [List.length_append]; omega
        clear ho8 hg8 hb8 hx8 HO7 HB7 HX7 s8 lx7
        generalize hL8 : L7 ++ nbB ps.length = L8 at *
        have HL8 := hide hL8
        clear hL8
        generalize hN : ps.length = N at *
        have HN := hide hN
        clear hN
        go_wp2_with fail
        go_loopw [3, 6] (fun r i wr => ∃ k : Nat, k ≤ N ∧ i = .int .i64 k ∧ OwnB wr (w.heap.size + 1) r (L8 ++ nbsB (prL (ps.take k))) ∧ Gw w8 wr v8 r) (fun _ i _ => N - (intOf i).toNat)
        case atStart => exact ⟨0, Nat.zero_le _, rfl, by simpa [nbsB, prL] using unhide HO8, Gw.refl _ _⟩
        case round =>
          obtain ⟨k, hk, rfl, ho, hg⟩ := hrel
          obtain ⟨hbr, hxr⟩ := hg.keep (unhide HO8) (unhide HB8) (unhide HX8)
          have hls := nbsB_len (xs := prL (ps.take k)) (prBd (fun p hp => (unhide HD).prsB p (List.mem_of_mem_take hp)))
          have htk : (ps.take k).length ≤ k := List.length_take_le _ _
          have hpl := prL_length (ps.take k)
          have hlr : (L8 ++ nbsB (prL (ps.take k))).length ≤ 600 := by rw [List.length_append]; omega
          have sz := hg.1.size
          have s8 := hxr.at 8 rfl
          have lxr := hxr.lt
          have HOR := hide ho
          have HGR := hide hg
          have HBR := hide hbr
          have HXR := hide hxr
          clear ho hg hbr hxr hls htk hpl
          by_cases hlt : k < N
          ·
            have HPA := hide (unhide HWD).prs
            obtain ⟨a', cap', hva, hva1, hva2, hva3⟩ := unhide HPA
            obtain ⟨b, off, hbo, hc⟩ := hva3.resolve_left (by rintro h0; have := unhide HN; simp only at h0; rw [h0] at this; simp at this; omega)
            simp only [Value.slice.injEq] at hva
            obtain ⟨hva, -, -⟩ := hva
            rw [hbo] at hva
            subst hva
            simp only at hc
            obtain ⟨c0, c1⟩ := hc k (by rw [unhide HN]; exact hlt)
            have hbd := (unhide HD).prsB (ps.getD k Pr.z) (by have := unhide HN; simp [List.getD, show k < ps.length by omega])
            have hsn : prL (ps.take (k + 1)) = prL (ps.take k) ++ [(ps.getD k Pr.z).key, (ps.getD k Pr.z).val] := prL_snoc (by rw [unhide HN]; exact hlt)
            generalize ps.getD k Pr.z = x at *
            obtain ⟨⟨x1, x2⟩, x3, x4⟩ := hbd
            have r0 := cell_kept' (unhide HBR) c0 (lt_of_cell c0)
            have r1 := cell_kept' (unhide HBR) c1 (lt_of_cell c1)
            have HSN := hide hsn
            have hkI : (k : Int) < (N : Int) := by omega
            have hk0 : (0 : Int) ≤ (k : Int) := by omega
            have lb := lt_of_cell c0
            simp only at lb
            have HC0 := hide c0
            have HC1 := hide c1
            clear hsn hc hva1 hva2 hva3 hbo HPA c0 c1
            go_wp2_with fail
            refine wp_region_held_drew (S := fun w' => Box w' w.heap.size 28 #[.int .i64 kd, .int .i64 sr, .int .i64 ds, .int .i64 sp, .int .i64 ty, .int .i64 wt, .bool ye, .slice a0 ss.length c0, .slice (some ⟨b, off, none⟩) N d0, .int .i64 cd, .slice v0 vs.length e0, .int .i64 se, .int .i64 nu, .int .i64 ck, .string tx, .int .i64 sl, .int .i64 ho] ∧ w'.cell? ⟨b, off + k * 2, none⟩ = some (.int .i64 x.key) ∧ w'.cell? ⟨b, off + k * 2 + 1, none⟩ = some (.int .i64 x.val)) (by kernel_rfl) ⟨⟨(unhide HXR).row⟩, r0, r1⟩ (fun hHeld => ?_)
            clear r0 r1 s8
            refine wpAnyH_take (i := 0) (v := ?v41) rfl (by kernel_rfl) (by kernel_rfl) (by kernel_rfl) (fun _ _ _ h => h) (Or.inl ⟨by rfl, ?h41⟩) (by assumption) ?_
            case h41 => (intro w0 hSw; clear hSw; go_simp; try (with_reducible rfl))
            try simp only [Act.put]
            refine wpAnyH_take (i := 1) (v := ?v42) rfl (by kernel_rfl) (by kernel_rfl) (by kernel_rfl) (fun _ _ _ h => h) (Or.inl ⟨by rfl, ?h42⟩) (by assumption) ?_
            case h42 => (intro w0 hSw; clear hSw; go_simp; try (with_reducible rfl))
            try simp only [Act.put]
            refine wpAnyH_take (i := 3) (v := ?v43) rfl (by kernel_rfl) (by kernel_rfl) (by kernel_rfl) (fun _ _ _ h => h) (Or.inl ⟨by rfl, ?h43⟩) (by assumption) ?_
            case h43 => (intro w0 hSw; clear hSw; go_simp; try (with_reducible rfl))
            try simp only [Act.put]
            refine wpAnyH_take (i := 8) (v := ?v44) rfl (by kernel_rfl) (by kernel_rfl) (by kernel_rfl) (fun _ _ _ h => h) (Or.inl ⟨by rfl, ?h44⟩) (by assumption) ?_
            case h44 => (intro w0 hSw; clear hSw; go_simp; try (with_reducible rfl))
            try simp only [Act.put]
            refine wpAnyH_take (i := 10) (v := ?v45) rfl (by kernel_rfl) (by kernel_rfl) (by kernel_rfl) (fun _ _ _ h => h) (Or.inl ⟨by rfl, ?h45⟩) (by assumption) ?_
            case h45 => (intro w0 hSw; clear hSw; go_simp; try (with_reducible rfl))
            try simp only [Act.put]
            refine wpAnyH_take (i := 2) (v := ?v46) rfl (by kernel_rfl) (by kernel_rfl) (by kernel_rfl) (fun _ _ _ h => h) (Or.inl ⟨by rfl, ?h46⟩) (by assumption) ?_
            case h46 => (intro w0 hSw; have s0 := hSw.1.at 8 rfl; clear hSw; go_simp; try (with_reducible rfl))
            try simp only [Act.put]
            refine wpAnyH_take (i := 9) (v := ?v47) rfl (by kernel_rfl) (by kernel_rfl) (by kernel_rfl) (fun _ _ _ h => h) (Or.inl ⟨by rfl, ?h47⟩) (by assumption) ?_
            case h47 => (intro w0 hSw; have s0 := hSw.1.at 8 rfl; clear hSw; go_simp; try (with_reducible rfl))
            try simp only [Act.put]
            refine wpAnyH_take (i := 4) (v := ?v48) rfl (by kernel_rfl) (by kernel_rfl) (by kernel_rfl) (fun _ _ _ h => h) (Or.inl ⟨by rfl, ?h48⟩) (by assumption) ?_
            case h48 => (intro w0 hSw; clear hSw; go_simp; try (with_reducible rfl))
            try simp only [Act.put]
            refine wpAnyH_take (i := 11) (v := ?v49) rfl (by kernel_rfl) (by kernel_rfl) (by kernel_rfl) (fun _ _ _ h => h) (Or.inl ⟨by rfl, ?h49⟩) (by assumption) ?_
            case h49 => (intro w0 hSw; clear hSw; go_simp; try (with_reducible rfl))
            try simp only [Act.put]
            refine wpAnyH_take (i := 5) (v := ?v50) rfl (by kernel_rfl) (by kernel_rfl) (by kernel_rfl) (fun _ _ _ h => h) (Or.inl ⟨by rfl, ?h50⟩) (by assumption) ?_
            case h50 => (intro w0 hSw; clear hSw; go_simp; try (with_reducible rfl))
            try simp only [Act.put]
            refine wpAnyH_take (i := 12) (v := ?v51) rfl (by kernel_rfl) (by kernel_rfl) (by kernel_rfl) (fun _ _ _ h => h) (Or.inl ⟨by rfl, ?h51⟩) (by assumption) ?_
            case h51 => (intro w0 hSw; clear hSw; go_simp; try (with_reducible rfl))
            try simp only [Act.put]
            refine wpAnyH_take (i := 6) (v := ?v52) rfl (by kernel_rfl) (by kernel_rfl) (by kernel_rfl) (fun _ _ _ h => h) (Or.inl ⟨by rfl, ?h52⟩) (by assumption) ?_
            case h52 => (intro w0 hSw; obtain ⟨-, s0, -⟩ := hSw; go_simp; try (with_reducible rfl))
            try simp only [Act.put]
            refine wpAnyH_take (i := 13) (v := ?v53) rfl (by kernel_rfl) (by kernel_rfl) (by kernel_rfl) (fun _ _ _ h => h) (Or.inl ⟨by rfl, ?h53⟩) (by assumption) ?_
            case h53 => (intro w0 hSw; obtain ⟨-, -, s0⟩ := hSw; go_simp; try (with_reducible rfl))
            try simp only [Act.put]
            refine wpAnyH_ready (rs := [7]) (by kernel_rfl) (by simp) ?_
            refine AllReadyH.cons rfl (fun K hK => ?_) AllReadyH.nil
            go_simp
            go_at_call 29
            refine (l13Num_any (w.heap.size + 1) _ _ x.key _ (unhide HOR).drew (by first | omega | (simp only [World.drew]; omega)) (by first | omega | (rw [List.length_append]; omega)) x1 x2).mono ?_; rintro e w9 ⟨v9, rfl, ho9, hg9⟩
            obtain ⟨hb9, hx9⟩ := Gw.keep hg9 (unhide HOR).drew (unhide HBR).drew (Box.mk (unhide HXR).row : Box wr.drew _ _ _)
            have HO9 := hide ho9
            have HB9 := hide hb9
            have HX9 := hide hx9
            have HG9 : Hid (Gw _ w9 _ v9) := hg9
            have z9 := hg9.1.size
            (try simp only [World.drew] at z9)
            clear ho9 hg9 hb9 hx9
            try go_wp2_with fail
            clear hHeld
            refine hK.out _ _ ⟨unhide HX9, cell_kept' (unhide HB9) (unhide HC0) lb, cell_kept' (unhide HB9) (unhide HC1) lb⟩ (fun hHeld => ?_)
            clear hK K
            have hnk := nbB_len x1 x2
            refine wpAnyH_ready (rs := [14]) (by kernel_rfl) (by simp) ?_
            refine AllReadyH.cons rfl (fun K hK => ?_) AllReadyH.nil
            go_simp
            go_at_call 29
            refine (l13Num_any (w.heap.size + 1) v9 _ x.val _ (unhide HO9) (by first | omega | (simp only [World.drew]; omega)) (by first | omega | (rw [List.length_append]; omega)) x3 x4).mono ?_; rintro e w10 ⟨v10, rfl, ho10, hg10⟩
            obtain ⟨hb10, hx10⟩ := Gw.keep hg10 (unhide HO9) (unhide HB9) (unhide HX9)
            have HO10 := hide ho10
            have HB10 := hide hb10
            have HX10 := hide hx10
            have HG10 : Hid (Gw _ w10 v9 v10) := hg10
            have z10 := hg10.1.size
            (try simp only [World.drew] at z10)
            clear ho10 hg10 hb10 hx10
            try go_wp2_with fail
            clear hHeld
            refine hK.out _ _ ⟨unhide HX10, cell_kept' (unhide HB10) (unhide HC0) lb, cell_kept' (unhide HB10) (unhide HC1) lb⟩ (fun hHeld => ?_)
            clear hK K
            refine wpAnyH_ready (rs := [15]) (by kernel_rfl) (by simp) ?_
            refine AllReadyH.cons rfl (fun K hK => ?_) AllReadyH.nil
            go_simp
            try go_wp2_with fail
            refine hK.out _ _ (by assumption) (fun hHeld' => ?_)
            clear hK K hHeld
            have hHeld := hHeld'
            clear hHeld'
            refine wpAnyH_done (by kernel_rfl) ?_ _
            clear hHeld
            go_wp2_with fail
            go_roundw
            case rel =>
              refine ⟨k + 1, hlt, by go_num, ?_, ((unhide HGR).below ((Below.refl _ _).drew)).trans ((unhide HG9).trans (unhide HG10))⟩
              rw [unhide HSN, nbsB_append]
              have := unhide HO10
              simpa [nbsB, List.append_assoc] using this
            case measure => simp [intOf]; omega
          ·
            obtain rfl : k = N := by omega
            have hfull : ps.take k = ps := List.take_of_length_le (by rw [unhide HN]; omega)
            rw [hfull] at HOR
            go_wp2_with fail
            go_ret
            refine ⟨_, rfl, ?_, unhide HBR⟩
            have h1 := ownsRow_base (unhide HOR) (Nat.le_succ w.heap.size)
            have h2 : PK = L8 ++ nbsB (prL ps) := by
              rw [unhide HP, ← unhide HL8, ← unhide HL7, unhide HN6, unhide HN7]
              simp [List.append_assoc]
            rw [h2]
            exact h1

end Go.Proofs.Ytfankbnlgmfdjaa
