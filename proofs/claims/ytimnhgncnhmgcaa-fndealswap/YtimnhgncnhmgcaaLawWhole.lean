/- The law FnDealWhole answers true at every code. -/
import Derived.Test.YtimnhgncnhmgcaaDealM
import Derived.Test.YtimnhgncnhmgcaaLo
import Derived.Test.YtimnhgncnhmgcaaLoInts
import Derived.Deep.QuietTactic
import Derived.BigQuiet
namespace Go.Proofs.Ytimnhgncnhmgcaa
open Go.RowKit

/-- What came of a deal lies in memory. -/
structure GotAt (w : World) (R : Except Int Sta) (a b : Value) : Prop where
  got : InsAt w a (gotM R)
  ch : PrsAt w b (chM R)

theorem GotAt.of {w : World} {base : Nat} {R : Except Int Sta} {a b : Value} (h : RunAt w base R a b) : GotAt w R a b := ⟨(owned_ins h.1).1, (owned_prs h.2.1).1⟩
theorem GotAt.kept {w w' : World} {R : Except Int Sta} {a b : Value} (h : GotAt w R a b) (hb : Below w.heap.size w w') : GotAt w' R a b := ⟨h.got.kept hb, h.ch.kept hb⟩

theorem InsAt.shapeD {w : World} {v : Value} {xs : List Int} (h : InsAt w v xs) : ∃ a cap, v = .slice a xs.length cap ∧ xs.length ≤ maxLen := by
  obtain ⟨a, cap, rfl, h1, h2, _⟩ := h; exact ⟨a, cap, rfl, by omega⟩

theorem code_ne {a : Int} : (a != a) = false := by simp

set_option maxRecDepth 100000 in
set_option maxHeartbeats 4000000 in
theorem lawWhole_any (v : Value) (n : Nat) (w : World) (hv : BytesAt w v n) :
    Calls Try.prog 3 #[v] w fun e w' => e = .returned (.bool true) ∧ Below w.heap.size w w' := by
  have HV := hide hv
  obtain ⟨a, cap, rfl, h1, h2, h3⟩ := hv
  unfold maxLen at h2
  clear h3
  by_cases hn : 1048576 < (n : Int)
  · go_enter Try.func3, Try.ntmps3
    go_wp2_with fail
    go_ret
    exact ⟨rfl, Below.refl _ _⟩
  go_enter Try.func3, Try.ntmps3
  go_wp2_with fail
  refine (drawRun_any _ n w (unhide HV)).mono ?_; rintro e w1 ⟨r, s, ss, ps, rfl, hx, hy, hxl, hyl, b1⟩
  clear HV h1 h2
  have hcs := dealM_cases ss ps
  have hgl := dealM_got ss ps
  have hcl := dealM_ch ss ps
  have hfst : ∀ s, dealM ss ps = .ok s → s.g.length = gets ss := fun s h => by have := runM_gets (dealM_ok h).2.2; simpa [startM] using this
  have hned : ∀ s, dealM ss ps = .ok s → 0 < ss.length → (ss.getD 0 St.z).op = 4 → ¬ getP ps (ss.getD 0 St.z).key < (ss.getD 0 St.z).num := fun s h => first_need h
  go_wp2_with fail
  refine (specRun_any _ _ ss ps _ hx hy).mono ?_; rintro e w2 ⟨a2, c2, rfl, ho2, h2⟩
  have b2 := b1.trans (h2.mono b1.size)
  have hx2 := hx.kept h2
  have hy2 := hy.kept h2
  have hg2 := GotAt.of ho2
  clear ho2 hx hy
  go_wp2_with fail
  refine (implRun_any _ _ ss ps _ hx2 hy2).mono ?_; rintro e w3 ⟨a3, c3, rfl, ho3, h3⟩
  have b3 := b2.trans (h3.mono b2.size)
  have hx3 := hx2.kept h3
  have hy3 := hy2.kept h3
  have hg23 := hg2.kept h3
  have hg3 := GotAt.of ho3
  clear ho3 hx2 hy2 hg2 h2 h3 b1 b2
  have hei := eqIns_self (gotM (dealM ss ps))
  have hep := eqPrs_self (chM (dealM ss ps))
  have hcc := code_ne (a := codeM (dealM ss ps))
  generalize dealM ss ps = R at *
  generalize hK : codeM R = K at *
  have HK := hide hK
  have HFST := hide hfst
  have HNED := hide hned
  clear hK hfst hned
  go_wp2_with fail
  refine (loIns_any _ _ _ _ _ hg3.got hg23.got).mono ?_; rintro e w4 ⟨rfl, h4⟩
  have b4 := b3.trans (h4.mono b3.size)
  have hx4 := hx3.kept h4
  have hy4 := hy3.kept h4
  have hg4 := hg3.kept h4
  have hg24 := hg23.kept h4
  clear hx3 hy3 hg3 hg23 h4 b3
  go_wp2_with fail
  refine (loPrs_any _ _ _ _ _ hg4.ch hg24.ch).mono ?_; rintro e w5 ⟨rfl, h5⟩
  have b5 := b4.trans (h5.mono b4.size)
  have hx5 := hx4.kept h5
  have hy5 := hy4.kept h5
  have hg5 := hg4.kept h5
  clear hx4 hy4 hg4 hg24 h5 b4
  obtain ⟨ai, ci, rfl, -⟩ := hg5.got.shapeD
  obtain ⟨ap, cp, rfl, -⟩ := hg5.ch.slice
  rcases hcs with ⟨hk0, hgn, hcn, -⟩ | ⟨hk0, sOk, hR⟩
  · have hkb : (K != 0) = true := by simpa using hk0
    rw [hgn, hcn]
    go_wp2_with fail
    go_ret
    exact ⟨rfl, b5⟩
  · subst hk0
    have hgets := unhide HFST sOk hR
    have hneed := unhide HNED sOk hR
    have HG : Hid ((gotM R).length = gets ss) := by rw [hR]; exact hgets
    have HNEED := hide hneed
    clear hneed hgets hR HNED HFST
    have HY5 := hide hy5
    obtain ⟨ax, cx, rfl, hx1, hx2, hx3⟩ := hx5
    have HX3 := hide hx3
    clear hx3 hy5
    generalize hM : ss.length = M at *
    have HM := hide hM
    clear hM
    unfold maxLen at hx2
    go_wp2_with fail
    go_loopw [11, 12] (fun c i wr => ∃ k : Nat, k ≤ M ∧ i = .int .i64 k ∧ c = .int .i64 (gets (ss.take k) : Nat) ∧ Below w5.heap.size w5 wr) (fun _ i _ => M - (intOf i).toNat)
    case atStart => exact ⟨0, Nat.zero_le _, rfl, rfl, Below.refl _ _⟩
    case round =>
      obtain ⟨k, hk, rfl, rfl, hb⟩ := hrel
      have hgle : gets (ss.take k) ≤ k := by have := gets_le (ss.take k); have := List.length_take_le k ss; omega
      by_cases hlt : k < M
      · obtain ⟨b, off, rfl, hc⟩ : ∃ b off, ax = some ⟨b, off, none⟩ ∧ StCells w5 b off M ss := by
          rcases unhide HX3 with h3 | h3
          · have := unhide HM; subst h3; simp at this; omega
          · exact h3
        obtain ⟨c0, c1, c2⟩ := (hc.kept hb) k hlt
        have hgt := gets_take (ss := ss) (k := k) (by rw [unhide HM]; exact hlt)
        have HNK : Hid (k = 0 → (ss.getD k St.z).op = 4 → ¬ getP ps (ss.getD k St.z).key < (ss.getD k St.z).num) := fun hk0 h4 => by subst hk0; have := unhide HNEED (by omega) h4; omega
        have HYR : Hid (PrsAt wr s ps) := (unhide HY5).kept hb
        generalize ss.getD k St.z = x at *
        have HGT := hide hgt
        have hkI : (k : Int) < (M : Int) := by omega
        have hk0' : (0 : Int) ≤ (k : Int) := by omega
        clear hc hgt
        by_cases h1 : x.op = 1
        · have e1 : (x.op == 1) = true := by simpa using h1
          have e4 : (x.op == 4) = false := by rw [beq_eq_false_iff_ne]; omega
          have H1 := hide h1
          clear h1
          go_wp2_with fail
          go_quiet ((go_at_call 20; exact Calls.quiet_of_same (loGet_any _ ps _ _ (unhide HYR))))
          go_wp2_with fail
          go_roundw
          case rel => exact ⟨k + 1, hlt, by go_num, by rw [unhide HGT]; rw [if_pos (unhide H1)]; go_num, below_drewN hb _⟩
          case measure => simp [intOf]; omega
        have e1 : (x.op == 1) = false := by simpa using h1
        have H1 := hide h1
        by_cases h4 : x.op = 4
        · have e4 : (x.op == 4) = true := by simpa using h4
          by_cases hk0 : k = 0
          · have ek : ((k : Int) == 0) = true := by rw [beq_iff_eq]; omega
            have hnd := unhide HNK hk0 h4
            have en : decide (getP ps x.key < x.num) = false := by simpa using hnd
            clear h1 h4 hk0 hnd
            go_wp2_with fail
            go_quiet ((go_at_call 20; exact Calls.quiet_of_same (loGet_any _ ps _ _ (unhide HYR))))
            go_wp2_with fail
            go_roundw
            case rel => exact ⟨k + 1, hlt, by go_num, by rw [unhide HGT]; rw [if_neg (unhide H1)]; rfl, below_drewN hb _⟩
            case measure => simp [intOf]; omega
          · have ek : ((k : Int) == 0) = false := by rw [beq_eq_false_iff_ne]; omega
            clear h1 h4 hk0
            go_wp2_with fail
            go_quiet ((go_at_call 20; exact Calls.quiet_of_same (loGet_any _ ps _ _ (unhide HYR))))
            go_wp2_with fail
            go_roundw
            case rel => exact ⟨k + 1, hlt, by go_num, by rw [unhide HGT]; rw [if_neg (unhide H1)]; rfl, below_drewN hb _⟩
            case measure => simp [intOf]; omega
        · have e4 : (x.op == 4) = false := by simpa using h4
          clear h1 h4
          go_wp2_with fail
          go_quiet ((go_at_call 20; exact Calls.quiet_of_same (loGet_any _ ps _ _ (unhide HYR))))
          go_wp2_with fail
          go_roundw
          case rel => exact ⟨k + 1, hlt, by go_num, by rw [unhide HGT]; rw [if_neg (unhide H1)]; rfl, below_drewN hb _⟩
          case measure => simp [intOf]; omega
      · obtain rfl : k = M := by omega
        have hfin : ((gotM R).length : Int) = (gets (ss.take k) : Nat) := by rw [unhide HG, List.take_of_length_le (by rw [unhide HM]; omega)]
        have hfb : (((gotM R).length : Int) == (gets (ss.take k) : Nat)) = true := by rw [hfin]; simp
        clear hfin
        go_wp2_with fail
        go_ret
        exact ⟨rfl, b5.trans (hb.mono b5.size)⟩

end Go.Proofs.Ytimnhgncnhmgcaa
