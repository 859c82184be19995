/- What was said: how the laws size, copy and compare slices of it. -/
import Derived.Test.YtpcbpliigplgoaaMapL
import Derived.Test.YtpcbpliigplgoaaForm2
namespace Go.Proofs.Ytpcbpliigplgoaa
open Go.RowKit

structure Sd where
  ses : Int
  num : Int
  code : Int
  vals : List Int
def Sd.z : Sd := ⟨0, 0, 0, []⟩

/-- In block b, from offset off on, lie the first n of xs; the rows of what was got lie elsewhere. -/
def SdCells (w : World) (b off n : Nat) (xs : List Sd) : Prop := ∀ i, i < n →
  w.cell? ⟨b, off + i * 4, none⟩ = some (.int .i64 (xs.getD i Sd.z).ses) ∧
  w.cell? ⟨b, off + i * 4 + 1, none⟩ = some (.int .i64 (xs.getD i Sd.z).num) ∧
  w.cell? ⟨b, off + i * 4 + 2, none⟩ = some (.int .i64 (xs.getD i Sd.z).code) ∧
  ∃ u, w.cell? ⟨b, off + i * 4 + 3, none⟩ = some u ∧ InsAt w u (xs.getD i Sd.z).vals

def SdsAt (w : World) (v : Value) (xs : List Sd) : Prop :=
  ∃ a cap, v = .slice a xs.length cap ∧ xs.length ≤ cap ∧ cap ≤ maxLen ∧ (xs = [] ∨ ∃ b off, a = some ⟨b, off, none⟩ ∧ SdCells w b off xs.length xs)

theorem SdCells.kept {w w' : World} {b off n : Nat} {xs : List Sd} (h : SdCells w b off n xs) (hb : Below w.heap.size w w') : SdCells w' b off n xs := fun i hi => by
  obtain ⟨h0, h1, h2, u, h3, h4⟩ := h i hi
  exact ⟨cell_kept hb h0, cell_kept hb h1, cell_kept hb h2, u, cell_kept hb h3, h4.kept hb⟩

theorem SdsAt.kept {w w' : World} {v : Value} {xs : List Sd} (h : SdsAt w v xs) (hb : Below w.heap.size w w') : SdsAt w' v xs := by
  obtain ⟨a, cap, hv, h1, h2, h3⟩ := h
  refine ⟨a, cap, hv, h1, h2, ?_⟩
  rcases h3 with h3 | ⟨b, off, ha, hc⟩
  · exact .inl h3
  · exact .inr ⟨b, off, ha, hc.kept hb⟩

def Sd.tup (x : Sd) : Int × Int × Int × List Int := (x.ses, x.num, x.code, x.vals)
theorem Sd.tup_inj {x y : Sd} (h : x.tup = y.tup) : x = y := by cases x; cases y; simp_all [Sd.tup]
def eqSd (a b : Sd) : Bool := decide (a.tup = b.tup)
def eqSds (xs ys : List Sd) : Bool := decide (xs.map Sd.tup = ys.map Sd.tup)
theorem map_tupS_inj {xs ys : List Sd} (h : xs.map Sd.tup = ys.map Sd.tup) : xs = ys := List.map_inj_right (fun _ _ e => Sd.tup_inj e) |>.1 h
theorem eqSds_self (xs : List Sd) : eqSds xs xs = true := by simp [eqSds]

/-- Small enough to be copied. -/
def SdFit (xs : List Sd) : Prop := ∀ i, i < xs.length → (xs.getD i Sd.z).vals.length ≤ 1048576

set_option maxHeartbeats 1000000 in
theorem szSd_any (s n c : Int) (a : Option Addr) (k cap : Nat) (left : Int) (w : World) (h0 : 0 ≤ left) (h1 : left ≤ 1048576) (hn : k ≤ maxLen) :
    Calls Try.prog 63 #[.agg #[.int .i64 s, .int .i64 n, .int .i64 c, .slice a k cap], .int .i64 left] w fun e w' => ∃ r : Int, e = .returned (.int .i64 r) ∧ (r < 0 ∨ (0 ≤ r ∧ r ≤ 1048576 ∧ k ≤ 1048576)) ∧ Below w.heap.size w w' := by
  by_cases h : (k : Int) ≤ left
  · have h' : ¬ (left - (k : Int)) < 0 := by omega
    go_enter Try.func63, Try.ntmps63
    go_wp2_with fail
    refine (szIns_yes a k cap left _ h1 h).mono ?_; rintro e w' ⟨rfl, rfl⟩
    go_wp2_with fail
    go_ret
    exact ⟨_, rfl, .inr ⟨by omega, by omega, by omega⟩, (Below.refl _ _).alloc (Nat.le_refl _) _⟩
  · go_enter Try.func63, Try.ntmps63
    go_wp2_with fail
    refine (szIns_no a k cap left _ h0 h1 hn (by omega)).mono ?_; rintro e w' ⟨rfl, rfl⟩
    go_wp2_with fail
    go_ret
    exact ⟨_, rfl, .inl (by omega), (Below.refl _ _).alloc (Nat.le_refl _) _⟩

theorem InsAt.slice {w : World} {u : Value} {xs : List Int} (h : InsAt w u xs) : ∃ a c, u = .slice a xs.length c ∧ xs.length ≤ maxLen := by
  obtain ⟨a, cap, hv, h1, h2, _⟩ := h
  exact ⟨a, cap, hv, by omega⟩

set_option maxHeartbeats 2000000 in
theorem szSds_any (v : Value) (xs : List Sd) (left : Int) (w : World) (hv : SdsAt w v xs) (h0 : 0 ≤ left) (h1 : left ≤ 1048576) :
    Calls Try.prog 41 #[v, .int .i64 left] w fun e w' => ∃ r : Int, e = .returned (.int .i64 r) ∧ (r < 0 ∨ (0 ≤ r ∧ xs.length ≤ 1048576 ∧ SdFit xs)) ∧ Below w.heap.size w w' := by
  obtain ⟨a, cap, rfl, g1, g2, g3⟩ := hv
  generalize hN : xs.length = N at *
  have HN := hide hN
  clear hN
  unfold maxLen at g2
  by_cases hlN : left < (N : Int)
  · have hneg : left - (N : Int) < 0 := by omega
    go_enter Try.func41, Try.ntmps41
    go_wp2_with fail
    go_ret
    exact ⟨_, rfl, .inl (by omega), Below.refl _ _⟩
  have hpos : ¬ (left - (N : Int)) < 0 := by omega
  go_enter Try.func41, Try.ntmps41
  go_wp2_with fail
  go_loopw [1, 5] (fun l i wr => ∃ (k : Nat) (L : Int), k ≤ N ∧ i = .int .i64 k ∧ l = .int .i64 L ∧ 0 ≤ L ∧ L ≤ 1048576 ∧ Below w.heap.size w wr ∧ (∀ j, j < k → (xs.getD j Sd.z).vals.length ≤ 1048576)) (fun _ i _ => N - (intOf i).toNat)
  case atStart => exact ⟨0, left - N, Nat.zero_le _, rfl, rfl, by omega, by omega, Below.refl _ _, fun j hj => absurd hj (Nat.not_lt_zero _)⟩
  case round =>
    obtain ⟨k, L, hk, rfl, rfl, hL0, hL1, hb, hfit⟩ := hrel
    have HF := hide hfit
    clear hfit
    by_cases hlt : k < N
    · obtain ⟨b, off, rfl, hc⟩ : ∃ b off, a = some ⟨b, off, none⟩ ∧ SdCells w b off N xs := by
        rcases g3 with h3 | h3
        · have := unhide HN; subst h3; simp at this; omega
        · exact h3
      obtain ⟨c0, c1, c2, u, c3, c4⟩ := (hc.kept hb) k hlt
      obtain ⟨ua, uc, rfl, hul⟩ := c4.slice
      have HK := hide hul
      have HB := hide hb
      have hkI : (k : Int) < (N : Int) := by omega
      generalize hx : xs.getD k Sd.z = x at *
      have HX := hide hx
      generalize hvl : x.vals.length = M at *
      have HVL := hide hvl
      clear g3 hc hx c4 hul hb hvl
      go_wp2_with fail
      refine (szSd_any _ _ _ _ M _ L _ hL0 hL1 (unhide HK)).mono ?_; rintro e w1 ⟨r, rfl, hr, hb1⟩
      have HB1 := hide ((unhide HB).trans (hb1.mono (unhide HB).size))
      have HR := hide hr
      clear hb1 hr
      by_cases hr0 : r < 0
      · go_wp2_with fail
        go_ret
        exact ⟨_, rfl, .inl (by omega), unhide HB1⟩
      · go_wp2_with fail
        go_roundw
        case rel =>
          have hr1 := unhide HR
          have hvl := unhide HVL
          have hx := unhide HX
          refine ⟨k + 1, r, hlt, by go_num, rfl, by omega, by omega, unhide HB1, fun j hj => ?_⟩
          by_cases e : j = k
          · subst e; rw [hx, hvl]; omega
          · exact unhide HF j (by omega)
        case measure => simp [intOf]; omega
    · go_wp2_with fail
      go_ret
      obtain rfl : k = N := by omega
      exact ⟨_, rfl, .inr ⟨hL0, by omega, fun i hi => unhide HF i (by rw [← unhide HN]; exact hi)⟩, hb⟩

end Go.Proofs.Ytpcbpliigplgoaa
