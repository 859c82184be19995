/- Words as bytes: the program's writer. -/
import Derived.Test.YtfankbnlgmfdjaaPkS
namespace Go.Proofs.Ytfankbnlgmfdjaa
open Go.RowKit

theorem foldSign_any (n : Int) (w : World) (h0 : -100000000 ≤ n) (h1 : n ≤ 100000000) :
    Calls Try.prog 78 #[.int .i64 n] w fun e w' => e = .returned (.int .u64 ((foldN n : Nat) : Int)) ∧ w' = w := by
  obtain ⟨M, hM⟩ : ∃ M : Nat, M = foldN n := ⟨_, rfl⟩
  by_cases hn : n < 0
  · have hMe : 2 * -(n + 1) + 1 = (M : Int) := by rw [hM]; unfold foldN; rw [if_pos hn]; omega
    rw [← hM]
    have HME := hide hMe
    clear hM hMe
    go_enter Try.func78, Try.ntmps78
    go_wp2
    go_ret
    exact ⟨by rw [← unhide HME]; rfl, rfl⟩
  · have hMe : 2 * n = (M : Int) := by rw [hM]; unfold foldN; rw [if_neg hn]; omega
    rw [← hM]
    have HME := hide hMe
    clear hM hMe
    go_enter Try.func78, Try.ntmps78
    go_wp2
    go_ret
    exact ⟨by rw [← unhide HME]; rfl, rfl⟩

/-- A row of bytes behind a pointer has grown: what else has turned. -/
def Pw (w w' : World) (g : Nat) (v v' : Value) : Prop := Fw w w' (fun k => k = g ∨ v.ownBlock = some k) ∧ (∀ q, v'.ownBlock = some q → v.ownBlock = some q ∨ w.heap.size ≤ q)
theorem Pw.refl (w : World) (g : Nat) (v : Value) : Pw w w g v v := ⟨Fw.refl _ _, fun _ h => .inl h⟩
theorem Pw.trans {a b c : World} {g : Nat} {v u x : Value} (h : Pw a b g v u) (k : Pw b c g u x) : Pw a c g v x :=
  ⟨h.1.trans k.1 (fun i hi e => by
    rcases e with e | e
    · exact .inl e
    · exact .inr ((h.2 i e).resolve_right (by omega))), fun q e => by
    rcases k.2 q e with e | e
    · exact h.2 q e
    · right; have := h.1.size; omega⟩
theorem Pw.below {a b c : World} {g : Nat} {v u : Value} (h : Pw a b g v u) (k : Below b.heap.size b c) : Pw a c g v u :=
  ⟨h.1.trans (fw_below k (fun _ => False)) (fun _ _ e => e.elim), h.2⟩

theorem Pw.app {w w' : World} {g : Nat} {v v' : Value} (hg : w.grownBy w' v.ownBlock) (hat : ∀ q, v'.ownBlock = some q → v.ownBlock = some q ∨ w.heap.size ≤ q) : Pw w w' g v v' := ⟨(fw_gr hg).mono (fun _ _ e => .inr e), hat⟩
theorem Pw.set {w w' : World} {g : Nat} {v v' : Value} (h : Pw w w' g v v') (u : Value) : Pw w (w'.setCell ⟨g, 0, none⟩ u) g v v' := ⟨h.1.set g 0 u (fun _ => .inl rfl), h.2⟩
theorem Box.set0 {w : World} {g : Nat} {T : TypeId} {u : Value} (h : Box w g T #[u]) (x : Value) : Box (w.setCell ⟨g, 0, none⟩ x) g T #[x] := ⟨by simpa using heap_setCell_same _ _ 0 _ _ x h.row⟩
theorem or128_fin : ∀ r : Fin 256, bits .or .u8 ((r.val : Nat) : Int) 128 = 128 + (((r.val % 128 : Nat)) : Int) := by decide +kernel
theorem or128 (m : Nat) : bits .or .u8 ((m : Int) % 256) 128 = 128 + (m : Int) % 128 := by
  have h := or128_fin ⟨m % 256, Nat.mod_lt _ (by omega)⟩
  simp only at h
  have e1 : ((m % 256 : Nat) : Int) = (m : Int) % 256 := by omega
  have e2 : ((m % 256 % 128 : Nat) : Int) = (m : Int) % 128 := by omega
  rw [e1, e2] at h
  exact h

set_option maxRecDepth 100000 in
set_option maxHeartbeats 1000000 in
theorem put_any (base g : Nat) (v u : Value) (bs xs : List Int) (w : World) (hx : Box w g 60 #[v]) (hown : OwnB w base v bs) (hvg : v.ownBlock ≠ some g) (hu : InsAt w u xs)
    (hne : xs ≠ [] → ∀ q, u.ownBlock = some q → q ≠ g ∧ v.ownBlock ≠ some q) (hbs : base ≤ w.heap.size) (hgb : g < base) (hl : bs.length ≤ 10000000) (hxb : ∀ x ∈ xs, -100000000 ≤ x ∧ x ≤ 100000000) (hxl : xs.length ≤ 1000000) :
    Calls Try.prog 37 #[.pointer (some ⟨g, 0, none⟩), u] w fun e w' => ∃ v', e = .returned (.tuple #[]) ∧ Box w' g 60 #[v'] ∧ OwnB w' base v' (bs ++ nbsB xs) ∧ Pw w w' g v v' := by
  have HU := hide hu
  obtain ⟨a, cap, rfl, h1, h2, h3⟩ := hu
  have HO := hide hown
  have HX := hide hxb
  have HBX := hide hx
  have HNE := hide hne
  have hls := fun k => nbsB_len (xs := xs.take k) (fun y hy => hxb y (List.mem_of_mem_take hy))
  obtain ⟨i0, hi, hz0, hz1, hz2⟩ := info_parts Try.infoU8
  generalize hN : xs.length = N at *
  have HN := hide hN
  clear hown hx hN hne hxb
  unfold maxLen at h2
  go_enter Try.func37, Try.ntmps37
  go_wp2_with fail
  go_loopw [9] (fun i wr => ∃ (k : Nat) (r : Value), k ≤ N ∧ i = .int .i64 k ∧ Box wr g 60 #[r] ∧ OwnB wr base r (bs ++ nbsB (xs.take k)) ∧ Pw w wr g v r) (fun i _ => N - (intOf i).toNat)
  case atStart => exact ⟨0, v, Nat.zero_le _, rfl, unhide HBX, by simpa [nbsB] using unhide HO, Pw.refl _ _ _⟩
  case round =>
    obtain ⟨k, r, hk, rfl, hbr, ho, hg⟩ := hrel
    have hkl := hls k
    have htk : (xs.take k).length ≤ k := List.length_take_le _ _
    have hbl : (bs ++ nbsB (xs.take k)).length ≤ 15000000 := by rw [List.length_append]; omega
    have sz := hg.1.size
    have HOR := hide ho
    have HGR := hide hg
    have HBR := hide hbr
    clear ho hg hbr
    by_cases hlt : k < N
    · obtain ⟨b, off, rfl, hc⟩ : ∃ b off, a = some ⟨b, off, none⟩ ∧ InCells w b off N xs := by
        rcases h3 with h3 | h3
        · have := unhide HN; subst h3; simp at this; omega
        · exact h3
      clear h3
      have c0 := (unhide HGR).1.cell (fun e => e.elim (fun e => (unhide HNE (by rintro rfl; have := unhide HN; simp at this; omega) b rfl).1 e) (fun e => (unhide HNE (by rintro rfl; have := unhide HN; simp at this; omega) b rfl).2 e)) (hc k hlt)
      have hb0 := unhide HX (xs.getD k 0) (by have := unhide HN; simp [List.getD, show k < xs.length by omega])
      have hsn := nbsB_snoc (xs := xs) (k := k) (by have := unhide HN; omega)
      generalize xs.getD k 0 = x at *
      generalize hL : bs ++ nbsB (xs.take k) = L at *
      have HL := hide hL
      have HSN := hide hsn
      have hkI : (k : Int) < (N : Int) := by omega
      have hk0 : (0 : Int) ≤ (k : Int) := by omega
      obtain ⟨y1, y2⟩ := hb0
      have HLN := hide (nbB_len y1 y2)
      obtain ⟨M, hM⟩ : ∃ M : Nat, M = foldN x := ⟨_, rfl⟩
      have hM2 : M ≤ 200000000 := by rw [hM]; exact foldN_le (b := 100000000) (by omega) (by omega)
      have HNB : Hid (nbB x = natB M) := by show nbB x = natB M; rw [hM]; rfl
      have HFS := hide (fun ww => foldSign_any x ww y1 y2)
      rw [← hM] at HFS
      clear hM hc hsn hL hkl hls htk
      go_wp2_with (go_at_call 78; refine (unhide HFS _).mono ?_; rintro e w' ⟨rfl, rfl⟩)
      clear c0
      rename World => wo
      go_loopw [6] (fun i wz => ∃ (m : Nat) (cs : List Int) (r' : Value), i = .int .u64 m ∧ m ≤ 200000000 ∧ cs ++ natB m = natB M ∧ Box wz g 60 #[r'] ∧ OwnB wz base r' (L ++ cs) ∧ Pw w wz g v r') (fun i _ => (intOf i).toNat)
      case atStart => exact ⟨M, [], r, rfl, hM2, rfl, unhide HBR, by simpa using unhide HOR, unhide HGR⟩
      case round =>
        obtain ⟨m, cs, r', rfl, hm, hcs, hbz, ho, hf⟩ := hrel
        have hcl : cs.length ≤ 4 := by
          have h4 := unhide HLN
          rw [unhide HNB, ← hcs] at h4
          simp at h4; omega
        have hnl : (L ++ cs).length ≤ 15000010 := by rw [List.length_append]; omega
        have hng : r'.ownBlock ≠ some g := fun e => by
          rcases hf.2 g e with h | h
          · exact hvg h
          · have := (unhide HBX).lt; omega
        unfold OwnB at ho
        generalize hn : (L ++ cs).length = n at *
        have HNN := hide hn
        clear hn
        obtain ⟨ar, cr, rfl, -⟩ := ownsRow_slice ho
        have q0 := hbz.cell 0
        have q1 := hbz.free 0
        simp only [List.getElem?_toArray, List.getElem?_cons_zero] at q0
        have lg := hbz.lt
        have HOZ := hide ho
        have HCS := hide hcs
        have HBZ := hide hbz
        have HF := hide hf
        have szz := hf.1.size
        clear hcs ho hbz hf
        by_cases hlt2 : 127 < m
        · have hltI : (127 : Int) < (m : Int) := by omega
          have hor := or128 m
          go_wp2_with ((at_builtin; refine wpList_append_lies _ rfl _ _ 60 rfl base 5 i0 (.int .u8 0) 1 1 Try.underlying60 hi hz0 hz1 hz2 rfl (by decide) _ n _ rfl ((unhide HOZ).alloc _) ⟨wr.heap.size, 0, none⟩ 1 1 [.int .u8 (128 + (m : Int) % 128)] rfl rfl (cell_one_new _ _ _) (by simp [Value.oneCell']) (by decide) (by unfold maxLen; omega) (by omega) (by simp; omega) (wr.heap.size + 1) (by simp) ?_; intro gn cp w1 hown2 hgrow hat hlt9; have hbw := ((unhide HBZ).alloc (.cells #[.int .u8 (128 + (m : Int) % 128)] 5)).far hgrow (fun e => hng e.symm); have q0 := hbw.cell 0; have q1 := hbw.free 0; have lg := hbw.lt; have HBW := hide hbw; simp only [List.getElem?_toArray, List.getElem?_cons_zero] at q0; clear hbw))
          have hp : Pw w w1 g v (.slice (some ⟨gn, 0, none⟩) (n + 1) cp) := ((unhide HF).below ((Below.refl _ _).alloc (Nat.le_refl _) (.cells #[.int .u8 (128 + (m : Int) % 128)] 5))).trans (Pw.app hgrow (fun q e => by
              simp [Value.ownBlock] at e; subst e
              rcases hat with h | h
              · exact .inl h
              · right; simp; omega))
          have hgn : gn ≠ g := by
            rcases hat with h | h
            · intro e; subst e; exact hng h
            · have := (unhide HBZ).lt; omega
          have hown3 : OwnB w1 base (.slice (some ⟨gn, 0, none⟩) (n + 1) cp) (L ++ (cs ++ [128 + (m : Int) % 128])) := by
            unfold OwnB
            rw [← List.append_assoc, List.length_append, unhide HNN, List.map_append]; exact hown2
          have hown4 : OwnB (w1.setCell ⟨g, 0, none⟩ (.slice (some ⟨gn, 0, none⟩) (n + 1) cp)) base (.slice (some ⟨gn, 0, none⟩) (n + 1) cp) (L ++ (cs ++ [128 + (m : Int) % 128])) := ownsRow_setCell_other hown3 (by simp [Value.ownBlock]; exact hgn)

          go_roundw
          case rel =>
            refine ⟨m / 128, cs ++ [128 + (m : Int) % 128], _, by go_num, by omega, ?_, (unhide HBW).set0 _, hown4, hp.set _⟩
            rw [← unhide HCS, natB_big (n := m) (by omega)]; simp
          case measure => simp [intOf]; omega
        · have hltI : ¬ (127 : Int) < (m : Int) := by omega
          go_wp2_with ((at_builtin; refine wpList_append_lies _ rfl _ _ 60 rfl base 5 i0 (.int .u8 0) 1 1 Try.underlying60 hi hz0 hz1 hz2 rfl (by decide) _ n _ rfl ((unhide HOZ).alloc _) ⟨wr.heap.size, 0, none⟩ 1 1 [.int .u8 (m : Int)] rfl rfl (cell_one_new _ _ _) (by simp [Value.oneCell']) (by decide) (by unfold maxLen; omega) (by omega) (by simp; omega) (wr.heap.size + 1) (by simp) ?_; intro gn cp w1 hown2 hgrow hat hlt9; have hbw := ((unhide HBZ).alloc (.cells #[.int .u8 (m : Int)] 5)).far hgrow (fun e => hng e.symm); have q0 := hbw.cell 0; have q1 := hbw.free 0; have lg := hbw.lt; have HBW := hide hbw; simp only [List.getElem?_toArray, List.getElem?_cons_zero] at q0; clear hbw))
          have hp : Pw w w1 g v (.slice (some ⟨gn, 0, none⟩) (n + 1) cp) := ((unhide HF).below ((Below.refl _ _).alloc (Nat.le_refl _) (.cells #[.int .u8 (m : Int)] 5))).trans (Pw.app hgrow (fun q e => by
              simp [Value.ownBlock] at e; subst e
              rcases hat with h | h
              · exact .inl h
              · right; simp; omega))
          have hgn : gn ≠ g := by
            rcases hat with h | h
            · intro e; subst e; exact hng h
            · have := (unhide HBZ).lt; omega
          have hown3 : OwnB w1 base (.slice (some ⟨gn, 0, none⟩) (n + 1) cp) (L ++ (cs ++ [(m : Int)])) := by
            unfold OwnB
            rw [← List.append_assoc, List.length_append, unhide HNN, List.map_append]; exact hown2
          have hown4 : OwnB (w1.setCell ⟨g, 0, none⟩ (.slice (some ⟨gn, 0, none⟩) (n + 1) cp)) base (.slice (some ⟨gn, 0, none⟩) (n + 1) cp) (L ++ (cs ++ [(m : Int)])) := ownsRow_setCell_other hown3 (by simp [Value.ownBlock]; exact hgn)

          go_roundw
          case rel =>
            refine ⟨k + 1, _, hlt, by go_num, (unhide HBW).set0 _, ?_, hp.set _⟩
            rw [unhide HSN, ← List.append_assoc, unhide HL, unhide HNB, ← unhide HCS, natB_small (n := m) (by omega)]
            exact hown4
          case measure => simp [intOf]; omega
    · obtain rfl : k = N := by omega
      have hfull : xs.take k = xs := List.take_of_length_le (by have := unhide HN; omega)
      rw [hfull] at HOR
      go_wp2_with fail
      go_end0
      exact ⟨_, rfl, unhide HBR, unhide HOR, unhide HGR⟩

end Go.Proofs.Ytfankbnlgmfdjaa
