/- Words as bytes: the specification's writer. -/
import Derived.Test.YtfankbnlgmfdjaaPkM
import Derived.Deep.AppendLies
namespace Go.Proofs.Ytfankbnlgmfdjaa
open Go.RowKit

theorem Try.infoU8 : (Try.prog.info? 5).map (fun i => (i.zero, i.size, i.bytes)) = some (some (.int .u8 0), 1, 1) := by kernel_rfl
abbrev OwnB (w : World) (base : Nat) (v : Value) (bs : List Int) : Prop := w.ownsRow base 5 1 v bs.length (bs.map (Value.int .u8))
theorem OwnB.push {w : World} {base : Nat} {v : Value} {bs : List Int} {x : Int} (h : w.ownsRow base 5 1 v (bs.length + 1) (bs.map (Value.int .u8) ++ [.int .u8 x])) : OwnB w base v (bs ++ [x]) := by
  unfold OwnB; rw [List.length_append, List.map_append]; exact h

set_option maxRecDepth 100000 in
set_option maxHeartbeats 1000000 in
theorem l13Num_any (base : Nat) (v : Value) (bs : List Int) (n : Int) (w : World) (hown : OwnB w base v bs) (hbs : base ≤ w.heap.size) (hl : bs.length ≤ 100000000) (h0 : -100000000 ≤ n) (h1 : n ≤ 100000000) :
    Calls Try.prog 29 #[v, .int .i64 n] w fun e w' => ∃ v', e = .returned v' ∧ OwnB w' base v' (bs ++ nbB n) ∧ Fw w w' (fun k => v.ownBlock = some k) ∧ (∀ q, v'.ownBlock = some q → v.ownBlock = some q ∨ w.heap.size ≤ q) := by
  obtain ⟨i0, hi, hz0, hz1, hz2⟩ := info_parts Try.infoU8
  have HO := hide hown
  have HLN := hide (nbB_len h0 h1)
  obtain ⟨M, hM⟩ : ∃ M : Nat, M = foldN n := ⟨_, rfl⟩
  have hM2 : M ≤ 200000000 := by rw [hM]; exact foldN_le (b := 100000000) (by omega) (by omega)
  have HNB : Hid (nbB n = natB M) := by show nbB n = natB M; rw [hM]; rfl
  clear hown
  by_cases hn : n < 0
  case' pos =>
    have hMe : -2 * n - 1 = (M : Int) := by rw [hM]; unfold foldN; rw [if_pos hn]; omega
    have HME := hide hMe
  case' neg =>
    have hMe : 2 * n = (M : Int) := by rw [hM]; unfold foldN; rw [if_neg hn]; omega
    have HME := hide hMe
  all_goals
    clear hM hMe
    go_enter Try.func29, Try.ntmps29
    go_wp2_with fail
    rw [unhide HME]
    go_loopw [0, 1] (fun r i wr => ∃ (m : Nat) (cs : List Int), i = .int .i64 m ∧ m ≤ 200000000 ∧ cs ++ natB m = natB M ∧ OwnB wr base r (bs ++ cs) ∧ Fw w wr (fun k => v.ownBlock = some k) ∧ (∀ q, r.ownBlock = some q → v.ownBlock = some q ∨ w.heap.size ≤ q)) (fun _ i _ => (intOf i).toNat)
    case atStart => exact ⟨M, [], rfl, hM2, rfl, by simpa using unhide HO, Fw.refl _ _, fun q h => .inl h⟩
    case round =>
      obtain ⟨m, cs, rfl, hm, hcs, ho, hf, hq⟩ := hrel
      have hcl : cs.length ≤ 4 := by
        have h4 := unhide HLN
        rw [unhide HNB, ← hcs] at h4
        simp at h4; omega
      have hbl : (bs ++ cs).length = bs.length + cs.length := by simp
      have HOR := hide ho
      have HCS := hide hcs
      have hsz := hf.size
      clear hcs ho
      by_cases hlt : 127 < m
      · have hltI : (127 : Int) < (m : Int) := by omega
        go_wp2_with ((at_builtin; refine wpList_append_lies _ rfl _ _ 22 rfl base 5 i0 (.int .u8 0) 1 1 Try.underlying22 hi hz0 hz1 hz2 rfl (by decide) _ (bs ++ cs).length _ rfl ((unhide HOR).alloc _) ⟨wr.heap.size, 0, none⟩ 1 1 [.int .u8 (128 + (m : Int) % 128)] rfl rfl (cell_one_new _ _ _) (by simp [Value.oneCell']) (by decide) (by unfold maxLen; omega) (by omega) (by simp; omega) (wr.heap.size + 1) (by simp) ?_; intro g cp w1 hown2 hgrow hat hlt2))
        have hfr : Fw w w1 (fun k => v.ownBlock = some k) := (hf.trans (fw_below ((Below.refl _ _).alloc (Nat.le_refl _) _) (fun _ => False)) (fun _ _ h => h.elim)).trans (fw_gr hgrow) (fun i hi e => (hq i e).resolve_right (by omega))
        go_roundw
        case rel =>
          refine ⟨m / 128, cs ++ [128 + (m : Int) % 128], by go_num, by omega, ?_, ?_, hfr, fun q e => ?_⟩
          · rw [← unhide HCS, natB_big (n := m) (by omega)]; simp
          · have := OwnB.push hown2
            rwa [List.append_assoc, hbl] at this
          · rcases hat with h | h
            · simp [Value.ownBlock] at e; subst e; exact hq _ h
            · simp [Value.ownBlock] at e; subst e; right; omega
        case measure => simp [intOf]; omega
      · have hltI : ¬ (127 : Int) < (m : Int) := by omega
        go_wp2_with ((at_builtin; refine wpList_append_lies _ rfl _ _ 22 rfl base 5 i0 (.int .u8 0) 1 1 Try.underlying22 hi hz0 hz1 hz2 rfl (by decide) _ (bs ++ cs).length _ rfl ((unhide HOR).alloc _) ⟨wr.heap.size, 0, none⟩ 1 1 [.int .u8 (m : Int)] rfl rfl (cell_one_new _ _ _) (by simp [Value.oneCell']) (by decide) (by unfold maxLen; omega) (by omega) (by simp; omega) (wr.heap.size + 1) (by simp) ?_; intro g cp w1 hown2 hgrow hat hlt2))
        have hfr : Fw w w1 (fun k => v.ownBlock = some k) := (hf.trans (fw_below ((Below.refl _ _).alloc (Nat.le_refl _) _) (fun _ => False)) (fun _ _ h => h.elim)).trans (fw_gr hgrow) (fun i hi e => (hq i e).resolve_right (by omega))
        go_ret
        refine ⟨_, rfl, ?_, hfr, fun q e => ?_⟩
        · have := OwnB.push hown2
          rw [List.append_assoc, hbl] at this
          rw [unhide HNB, ← unhide HCS, natB_small (n := m) (by omega)]
          exact this
        · rcases hat with h | h
          · simp [Value.ownBlock] at e; subst e; exact hq _ h
          · simp [Value.ownBlock] at e; subst e; right; omega

theorem l13Yes_any (b : Bool) (w : World) : Calls Try.prog 28 #[.bool b] w fun e w' => e = .returned (.int .i64 (yesN b)) ∧ w' = w := by
  cases b
  all_goals
    go_enter Try.func28, Try.ntmps28
    go_wp2
    go_ret
    exact ⟨rfl, rfl⟩

/-- One's own row of bytes has grown: what else has turned. -/
def Gw (w w' : World) (v v' : Value) : Prop := Fw w w' (fun k => v.ownBlock = some k) ∧ (∀ q, v'.ownBlock = some q → v.ownBlock = some q ∨ w.heap.size ≤ q)
theorem Gw.refl (w : World) (v : Value) : Gw w w v v := ⟨Fw.refl _ _, fun _ h => .inl h⟩
theorem Gw.trans {a b c : World} {v u x : Value} (h : Gw a b v u) (k : Gw b c u x) : Gw a c v x :=
  ⟨h.1.trans k.1 (fun i hi e => (h.2 i e).resolve_right (by omega)), fun q e => by
    rcases k.2 q e with e | e
    · exact h.2 q e
    · right; have := h.1.size; omega⟩
theorem Gw.below {a b c : World} {v u : Value} (h : Gw a b v u) (k : Below b.heap.size b c) : Gw a c v u :=
  ⟨h.1.trans (fw_below k (fun _ => False)) (fun _ _ e => e.elim), h.2⟩
theorem Gw.ahead {a b c : World} {v u : Value} (k : Below a.heap.size a b) (h : Gw b c v u) : Gw a c v u :=
  ⟨(fw_below k (fun q => v.ownBlock = some q)).trans h.1 (fun _ _ e => e), fun q e => by
    rcases h.2 q e with e | e
    · exact .inl e
    · right; have := k.size; omega⟩

set_option maxRecDepth 100000 in
set_option maxHeartbeats 1000000 in
theorem l13Nums_any (base : Nat) (v u : Value) (bs xs : List Int) (w : World) (hown : OwnB w base v bs) (hu : InsAt w u xs) (hne : xs ≠ [] → ∀ q, u.ownBlock = some q → v.ownBlock ≠ some q) (hbs : base ≤ w.heap.size) (hl : bs.length ≤ 10000000) (hx : ∀ x ∈ xs, -100000000 ≤ x ∧ x ≤ 100000000) (hxl : xs.length ≤ 1000000) :
    Calls Try.prog 30 #[v, u] w fun e w' => ∃ v', e = .returned v' ∧ OwnB w' base v' (bs ++ (nbB xs.length ++ nbsB xs)) ∧ Gw w w' v v' := by
  have HU := hide hu
  obtain ⟨a, cap, rfl, h1, h2, h3⟩ := hu
  have HO := hide hown
  have HX := hide hx
  have HNE := hide hne
  have hl4 := nbB_len (n := (xs.length : Int)) (by omega) (by omega)
  have hls := fun k => nbsB_len (xs := xs.take k) (fun y hy => hx y (List.mem_of_mem_take hy))
  generalize hN : xs.length = N at *
  have HN := hide hN
  clear hown hx hN hne
  unfold maxLen at h2
  go_enter Try.func30, Try.ntmps30
  go_wp2_with fail
  refine (l13Num_any base v bs N w (unhide HO) hbs (by omega) (by omega) (by omega)).mono ?_; rintro e w1 ⟨v1, rfl, ho1, hg1⟩
  have HO1 := hide ho1
  have HG1 : Hid (Gw w w1 v v1) := hg1
  have s1 := hg1.1.size
  clear ho1 hg1
  go_wp2_with fail
  go_loopw [0, 5] (fun r i wr => ∃ k : Nat, k ≤ N ∧ i = .int .i64 k ∧ OwnB wr base r (bs ++ (nbB N ++ nbsB (xs.take k))) ∧ Gw w wr v r) (fun _ i _ => N - (intOf i).toNat)
  case atStart => exact ⟨0, Nat.zero_le _, rfl, by simpa [nbsB] using unhide HO1, unhide HG1⟩
  case round =>
    obtain ⟨k, hk, rfl, ho, hg⟩ := hrel
    have hkl := hls k
    have htk : (xs.take k).length ≤ k := List.length_take_le _ _
    have hbl : (bs ++ (nbB N ++ nbsB (xs.take k))).length ≤ 15000000 := by simp; omega
    have sz := hg.1.size
    have HOR := hide ho
    have HGR := hide hg
    clear ho hg
    by_cases hlt : k < N
    · obtain ⟨b, off, rfl, hc⟩ : ∃ b off, a = some ⟨b, off, none⟩ ∧ InCells w b off N xs := by
        rcases h3 with h3 | h3
        · have := unhide HN; subst h3; simp at this; omega
        · exact h3
      clear h3
      have c0 := (unhide HGR).1.cell (fun e => unhide HNE (by rintro rfl; have := unhide HN; simp at this; omega) b rfl e) (hc k hlt)
      have hb0 := unhide HX (xs.getD k 0) (by have := unhide HN; simp [List.getD, show k < xs.length by omega])
      have hsn := nbsB_snoc (xs := xs) (k := k) (by have := unhide HN; omega)
      generalize xs.getD k 0 = x at *
      have HSN := hide hsn
      have hkI : (k : Int) < (N : Int) := by omega
      have hk0 : (0 : Int) ≤ (k : Int) := by omega
      clear hc hsn hkl hls htk
      go_wp2_with fail
      refine (l13Num_any base _ _ x _ (unhide HOR) (by omega) (by omega) (by omega) (by omega)).mono ?_; rintro e w2 ⟨v2, rfl, ho2, hg2⟩
      have HO2 := hide ho2
      have HG2 : Hid (Gw w w2 v v2) := (unhide HGR).trans hg2
      clear ho2 hg2
      go_wp2_with fail
      go_roundw
      case rel =>
        refine ⟨k + 1, hlt, by go_num, ?_, unhide HG2⟩
        rw [unhide HSN]
        have := unhide HO2
        simpa only [List.append_assoc] using this
      case measure => simp [intOf]; omega
    · obtain rfl : k = N := by omega
      have hfull : xs.take k = xs := List.take_of_length_le (by have := unhide HN; omega)
      rw [hfull] at HOR
      go_wp2_with fail
      go_ret
      exact ⟨_, rfl, unhide HOR, unhide HGR⟩

end Go.Proofs.Ytfankbnlgmfdjaa
