/- Words as bytes: the program's answer. -/
import Derived.Test.YtfankbnlgmfdjaaPkI
import Derived.Test.YtfankbnlgmfdjaaPkM2
import Derived.Test.YtfankbnlgmfdjaaWdI3
import Derived.Lib.AppendStr
namespace Go.Proofs.Ytfankbnlgmfdjaa
open Go.RowKit

/-- A row of bytes behind a pointer has grown: all below base but the pointer's block is as it was. -/
abbrev Kw (w w' : World) (g base : Nat) : Prop := Fw w w' (fun k => k = g ∨ base ≤ k)
theorem Kw.of {w w' : World} {g base : Nat} {v v' : Value} {bs : List Int} (h : Pw w w' g v v') (ho : OwnB w base v bs) : Kw w w' g base :=
  h.1.mono (fun k _ e => e.imp id (fun e => (ho.lt k e).1))
theorem Kw.keep {a w w' : World} {g base B : Nat} {T : TypeId} {C : Array Value} (h : Kw w w' g base) (hB : B < g) (hg : g < base) (hb : Below B a w) (hx : Box w B T C) : Below B a w' ∧ Box w' B T C :=
  ⟨h.below hb (Nat.le_of_lt hx.lt) (fun k hk e => by omega), h.box hx (fun e => by omega)⟩
theorem own_ne {w : World} {base g : Nat} {v : Value} {bs : List Int} (ho : OwnB w base v bs) (hg : g < base) : v.ownBlock ≠ some g := fun e => by have := (ho.lt g e).1; omega
theorem lit_ins (w : World) (X : List Int) (hX : X.length ≤ 100) (cs : Array Value) (h : cs = (X.map (Value.int .i64)).toArray) : InsAt (w.alloc (.cells cs 3)) (.slice (some ⟨w.heap.size, 0, none⟩) X.length X.length) X := by
  subst h
  refine ⟨_, _, rfl, Nat.le_refl _, by unfold maxLen; omega, .inr ⟨_, 0, rfl, fun i hi => ?_⟩⟩
  rw [Nat.zero_add, cell_of_row _ _ i _ _ _ (heap_alloc_new _ _)]
  simp [List.getD, hi]

theorem put_lit (X : List Int) (n : Nat) (cs : Array Value) (hn : X.length = n) (hX : X.length ≤ 100) (hcs : cs = (X.map (Value.int .i64)).toArray) (hb : ∀ x ∈ X, Bd x) (base g : Nat) (v : Value) (bs : List Int) (w : World) (hx : Box w g 60 #[v]) (hown : OwnB w base v bs) (hbs : base ≤ w.heap.size) (hgb : g < base) (hl : bs.length ≤ 10000000) :
    Calls Try.prog 37 #[.pointer (some ⟨g, 0, none⟩), .slice (some ⟨w.heap.size, 0, none⟩) n n] (w.alloc (.cells cs 3)) fun e w' => ∃ v', e = .returned (.tuple #[]) ∧ Box w' g 60 #[v'] ∧ OwnB w' base v' (bs ++ nbsB X) ∧ Kw w w' g base := by
  subst hn
  refine (put_any base g v _ bs X _ (hx.alloc _) (hown.alloc _) (own_ne hown hgb) (lit_ins w X hX cs hcs) (fun _ q e => ?_) (by simp; omega) hgb hl hb (by omega)).mono ?_
  · simp [Value.ownBlock] at e
    subst e
    refine ⟨by omega, fun e => ?_⟩
    have := (hown.lt _ e).2; omega
  · rintro e w' ⟨v', rfl, h1, h2, h3⟩
    exact ⟨v', rfl, h1, h2, (fw_below ((Below.refl _ _).alloc (Nat.le_refl _) _) _).trans (Kw.of h3 (hown.alloc _)) (fun _ _ e => e)⟩

set_option maxRecDepth 100000 in
set_option maxHeartbeats 1000000 in
theorem putYes_any (b : Bool) (base g : Nat) (v : Value) (bs : List Int) (w : World) (hx : Box w g 60 #[v]) (hown : OwnB w base v bs) (hbs : base ≤ w.heap.size) (hgb : g < base) (hl : bs.length ≤ 10000000) :
    Calls Try.prog 38 #[.pointer (some ⟨g, 0, none⟩), .bool b] w fun e w' => ∃ v', e = .returned (.tuple #[]) ∧ Box w' g 60 #[v'] ∧ OwnB w' base v' (bs ++ nbsB [yesN b]) ∧ Kw w w' g base := by
  have HP := hide (fun x hxx => put_lit [x] 1 #[.int .i64 x] rfl (by simp) rfl hxx base g v bs w hx hown hbs hgb hl)
  clear hx hown
  cases b
  all_goals
    go_enter Try.func38, Try.ntmps38
    go_wp2_with fail
    refine (unhide HP _ (by intro x hx; simp at hx; subst hx; decide)).mono ?_; rintro e w1 ⟨v1, rfl, h1, h2, h3⟩
    have H1 := hide h1
    have H2 := hide h2
    have H3 := hide h3
    clear h1 h2 h3
    go_wp2_with fail
    go_end0
    exact ⟨v1, rfl, unhide H1, unhide H2, unhide H3⟩

theorem OwnB.pushS {w : World} {base : Nat} {v : Value} {bs : List Int} {tx : ByteArray} (h : w.ownsRow base 5 1 v (bs.length + tx.size) (bs.map (Value.int .u8) ++ Lib.strCells tx)) : OwnB w base v (bs ++ textB tx) := by
  have e : Lib.strCells tx = (textB tx).map (Value.int .u8) := by simp [Lib.strCells, textB]
  rw [e] at h
  unfold OwnB; rw [List.length_append, List.map_append, textB_length]; exact h

set_option maxRecDepth 100000 in
set_option maxHeartbeats 1000000 in
theorem putText_any (tx : ByteArray) (base g : Nat) (v : Value) (bs : List Int) (w : World) (hx : Box w g 60 #[v]) (hown : OwnB w base v bs) (hbs : base ≤ w.heap.size) (hgb : g < base) (hl : bs.length ≤ 1000000) (ht : tx.size ≤ 1000000) :
    Calls Try.prog 39 #[.pointer (some ⟨g, 0, none⟩), .string tx] w fun e w' => ∃ v', e = .returned (.tuple #[]) ∧ Box w' g 60 #[v'] ∧ OwnB w' base v' (bs ++ nbsB [(tx.size : Int)] ++ textB tx) ∧ Kw w w' g base := by
  have HP := hide (put_lit [(tx.size : Int)] 1 #[.int .i64 (tx.size : Int)] rfl (by simp) rfl (by intro x hx; simp at hx; subst hx; unfold Bd; omega) base g v bs w hx hown hbs hgb (by omega))
  obtain ⟨i0, hi, hz0, hz1, hz2⟩ := info_parts Try.infoU8
  have hlg := hx.lt
  clear hx hown
  go_enter Try.func39, Try.ntmps39
  go_wp2_with fail
  refine (unhide HP).mono ?_; rintro e w1 ⟨v1, rfl, h1, h2, h3⟩
  have hnl : (bs ++ nbsB [(tx.size : Int)]).length ≤ 1000010 := by
    have := nbsB_len (xs := [(tx.size : Int)]) (by intro x hx; simp at hx; subst hx; omega)
    rw [List.length_append]; simp only [List.length_cons, List.length_nil] at this; omega
  have hng := own_ne h2 hgb
  generalize hLL : bs ++ nbsB [(tx.size : Int)] = L at *
  have HLL := hide hLL
  clear hLL
  obtain ⟨ar, cr, rfl, -⟩ := ownsRow_slice h2
  have q0 := h1.cell 0
  have q1 := h1.free 0
  simp only [List.getElem?_toArray, List.getElem?_cons_zero] at q0
  have lg := h1.lt
  have H1 := hide h1
  have H2 := hide h2
  have H3 := hide h3
  have sz := h3.size
  unfold OwnB at h2
  generalize hn : L.length = n at *
  have HN := hide hn
  have H2' := hide h2
  clear h1 h2 h3 HP hn
  go_wp2_with (at_builtin; refine Lib.wpList_append_own_string _ rfl _ _ 60 9 rfl base 5 i0 Try.underlying60 Try.underlying9 hi hz0 hz1 hz2 _ n _ rfl (unhide H2') tx rfl (by unfold maxLen; omega) (by omega) (by omega) ?_; intro v2 w2 hown2 hgrow _; have hb2 := (unhide H1).far hgrow (fun e => hng e.symm); obtain ⟨a2, c2, rfl, -⟩ := ownsRow_slice hown2; have q2 := hb2.cell 0; have q3 := hb2.free 0; simp only [List.getElem?_toArray, List.getElem?_cons_zero] at q2; have lg2 := hb2.lt; have HB2 := hide hb2; have HO2 := hide hown2; have HK2 : Hid (Kw w w2 g base) := (unhide H3).trans (fw_gr hgrow) (fun i _ e => .inr ((unhide H2').lt i e).1); clear hb2 hown2 hgrow q0 q1)
  go_end0
  have ho3 : OwnB w2 base (.slice a2 (n + tx.size) c2) (L ++ textB tx) := OwnB.pushS (by rw [unhide HN]; exact unhide HO2)
  rw [unhide HLL]
  exact ⟨_, rfl, (unhide HB2).set0 _, ownsRow_setCell_other ho3 (fun e => by have := (ho3.lt g e).1; omega), (unhide HK2).set g 0 _ (fun _ => .inl rfl)⟩

set_option maxRecDepth 100000 in
set_option maxHeartbeats 1000000 in
theorem putList_any (u : Value) (xs : List Int) (base g : Nat) (v : Value) (bs : List Int) (w : World) (hx : Box w g 60 #[v]) (hown : OwnB w base v bs) (hbs : base ≤ w.heap.size) (hgb : g < base) (hl : bs.length ≤ 1000000) (hu : InsAt w u xs) (hne : xs ≠ [] → ∀ q, u.ownBlock = some q → q < g) (hxb : ∀ x ∈ xs, Bd x) (hxl : xs.length ≤ 1000000) :
    Calls Try.prog 40 #[.pointer (some ⟨g, 0, none⟩), u] w fun e w' => ∃ v', e = .returned (.tuple #[]) ∧ Box w' g 60 #[v'] ∧ OwnB w' base v' (bs ++ (nbB xs.length ++ nbsB xs)) ∧ Kw w w' g base := by
  have HU := hide hu
  obtain ⟨a, cap, rfl, h1, h2, h3⟩ := hu
  have HX := hide hxb
  have HNE := hide hne
  have hl4 := nbB_len (n := (xs.length : Int)) (by omega) (by omega)
  have HP := hide (put_lit [(xs.length : Int)] 1 #[.int .i64 (xs.length : Int)] rfl (by simp) rfl (by intro x hx; simp at hx; subst hx; unfold Bd; omega) base g v bs w hx hown hbs hgb (by omega))
  have hlg := hx.lt
  generalize hN : xs.length = N at *
  have HN := hide hN
  clear hx hown hN hne hxb h3
  unfold maxLen at h2
  go_enter Try.func40, Try.ntmps40
  go_wp2_with fail
  refine (unhide HP).mono ?_; rintro e w1 ⟨v1, rfl, b1, o1, k1⟩
  have e1 : nbsB [(N : Int)] = nbB N := by simp [nbsB]
  rw [e1] at o1
  have hu1 : InsAt w1 (.slice a N cap) xs := by
    rcases Classical.em (xs = []) with h0 | h0
    · have hN0 := unhide HN
      subst h0
      obtain ⟨a', c', he, hh1, hh2, -⟩ := unhide HU
      exact ⟨a', c', he, hh1, hh2, .inl rfl⟩
    · exact k1.ins (unhide HU) (fun q e hs => by have := unhide HNE h0 q e; omega)
  have HPA := hide (put_any base g v1 _ _ xs w1 b1 o1 (own_ne o1 hgb) hu1 (fun h0 q e => by
    have := unhide HNE h0 q e
    exact ⟨by omega, fun e' => by have := (o1.lt q e').1; omega⟩) (by have := k1.size; omega) hgb (by rw [List.length_append]; omega) (unhide HX) (by have := unhide HN; omega))
  have HK1 := hide k1
  have HO1 := hide o1
  clear b1 o1 k1 hu1 HP e1
  go_wp2_with fail
  refine (unhide HPA).mono ?_; rintro e w2 ⟨v2, rfl, b2, o2, p2⟩
  have HB2 := hide b2
  have HO2 := hide o2
  have HK2 : Hid (Kw w w2 g base) := (unhide HK1).trans (Kw.of p2 (unhide HO1)) (fun _ _ e => e)
  clear b2 o2 p2
  go_wp2_with fail
  go_end0
  refine ⟨v2, rfl, unhide HB2, ?_, unhide HK2⟩
  have := unhide HO2
  simpa only [List.append_assoc] using this

set_option maxRecDepth 100000 in
set_option maxHeartbeats 1000000 in
theorem putPairs_any (u : Value) (ps : List Pr) (base g : Nat) (v : Value) (bs : List Int) (w : World) (hx : Box w g 60 #[v]) (hown : OwnB w base v bs) (hbs : base ≤ w.heap.size) (hgb : g < base) (hl : bs.length ≤ 1000000) (hu : PrsAt w u ps) (hne : ps ≠ [] → ∀ q, u.ownBlock = some q → q < g) (hpb : ∀ p ∈ ps, Bd p.key ∧ Bd p.val) (hpl : ps.length ≤ 32) :
    Calls Try.prog 41 #[.pointer (some ⟨g, 0, none⟩), u] w fun e w' => ∃ v', e = .returned (.tuple #[]) ∧ Box w' g 60 #[v'] ∧ OwnB w' base v' (bs ++ (nbB ps.length ++ nbsB (prL ps))) ∧ Kw w w' g base := by
  obtain ⟨a, cap, rfl, h1, h2, h3⟩ := hu
  have HX := hide hpb
  have HNE := hide hne
  have hl4 := nbB_len (n := (ps.length : Int)) (by omega) (by omega)
  have hls := fun k => nbsB_len (xs := prL (ps.take k)) (prBd (fun p hp => hpb p (List.mem_of_mem_take hp)))
  have HP := hide (put_lit [(ps.length : Int)] 1 #[.int .i64 (ps.length : Int)] rfl (by simp) rfl (by intro x hx; simp at hx; subst hx; unfold Bd; omega) base g v bs w hx hown hbs hgb (by omega))
  have hlg := hx.lt
  generalize hN : ps.length = N at *
  have HN := hide hN
  clear hx hown hN hne hpb
  unfold maxLen at h2
  go_enter Try.func41, Try.ntmps41
  go_wp2_with fail
  refine (unhide HP).mono ?_; rintro e w1 ⟨v1, rfl, b1, o1, k1⟩
  have e1 : nbsB [(N : Int)] = nbB N := by simp [nbsB]
  rw [e1] at o1
  have HB1 := hide b1
  have HO1 := hide o1
  have HK1 := hide k1
  clear b1 o1 k1 HP e1
  go_wp2_with fail
  go_loopw [13] (fun i wr => ∃ (k : Nat) (r : Value), k ≤ N ∧ i = .int .i64 k ∧ Box wr g 60 #[r] ∧ OwnB wr base r (bs ++ (nbB N ++ nbsB (prL (ps.take k)))) ∧ Kw w wr g base) (fun i _ => N - (intOf i).toNat)
  case atStart => exact ⟨0, v1, Nat.zero_le _, rfl, unhide HB1, by simpa [nbsB, prL] using unhide HO1, unhide HK1⟩
  case round =>
    obtain ⟨k, r, hk, rfl, hbr, ho, hg⟩ := hrel
    have hkl := hls k
    have htk : (ps.take k).length ≤ k := List.length_take_le _ _
    have hpl2 := prL_length (ps.take k)
    have hbl : (bs ++ (nbB N ++ nbsB (prL (ps.take k)))).length ≤ 1001000 := by rw [List.length_append, List.length_append]; omega
    have sz := hg.size
    have HOR := hide ho
    have HGR := hide hg
    have HBR := hide hbr
    clear ho hg hbr hkl htk hpl2
    by_cases hlt : k < N
    · obtain ⟨b, off, rfl, hc⟩ : ∃ b off, a = some ⟨b, off, none⟩ ∧ PrCells w b off N ps := by
        rcases h3 with h3 | h3
        · have := unhide HN; subst h3; simp at this; omega
        · exact h3
      clear h3
      have hbg : b < g := unhide HNE (by rintro rfl; have := unhide HN; simp at this; omega) b rfl
      obtain ⟨c0, c1⟩ := hc k hlt
      have d0 := (unhide HGR).cell (fun e => by omega) c0
      have d1 := (unhide HGR).cell (fun e => by omega) c1
      have hbd := unhide HX (ps.getD k Pr.z) (by have := unhide HN; simp [List.getD, show k < ps.length by omega])
      have hsn : prL (ps.take (k + 1)) = prL (ps.take k) ++ [(ps.getD k Pr.z).key, (ps.getD k Pr.z).val] := prL_snoc (by have := unhide HN; omega)
      generalize ps.getD k Pr.z = x at *
      have HSN := hide hsn
      have hkI : (k : Int) < (N : Int) := by omega
      have hk0 : (0 : Int) ≤ (k : Int) := by omega
      have HPL := hide (put_lit [x.key, x.val] 2 #[.int .i64 x.key, .int .i64 x.val] rfl (by simp) rfl (by intro y hy; simp at hy; rcases hy with rfl | rfl; exact hbd.1; exact hbd.2) base g r _ (wr.alloc (.cells #[.int .i64 x.key, .int .i64 x.val] 54)) ((unhide HBR).alloc _) ((unhide HOR).alloc _) (by simp; omega) hgb (by omega))
      clear hsn hc c0 c1 hbd
      go_wp2_with fail
      have e2 : (wr.alloc (.cells #[.int .i64 x.key, .int .i64 x.val] 54)).heap.size = wr.heap.size + 1 := by simp
      rw [e2] at HPL
      clear e2
      refine (unhide HPL).mono ?_; rintro e w2 ⟨v2, rfl, b2, o2, p2⟩
      have HB2 := hide b2
      have HO2 := hide o2
      have HK2 : Hid (Kw w w2 g base) := ((unhide HGR).trans (fw_below ((Below.refl _ _).alloc (Nat.le_refl _) (.cells #[.int .i64 x.key, .int .i64 x.val] 54)) (fun k => k = g ∨ base ≤ k)) (fun _ _ e => e)).trans p2 (fun _ _ e => e)
      clear b2 o2 p2 HPL d0 d1
      go_wp2_with fail
      go_roundw
      case rel =>
        refine ⟨k + 1, v2, hlt, by go_num, unhide HB2, ?_, unhide HK2⟩
        rw [unhide HSN, nbsB_append]
        have := unhide HO2
        simpa only [List.append_assoc] using this
      case measure => simp [intOf]; omega
    · obtain rfl : k = N := by omega
      have hfull : ps.take k = ps := List.take_of_length_le (by have := unhide HN; omega)
      rw [hfull] at HOR
      go_wp2_with fail
      go_end0
      exact ⟨_, rfl, unhide HBR, unhide HOR, unhide HGR⟩

end Go.Proofs.Ytfankbnlgmfdjaa
