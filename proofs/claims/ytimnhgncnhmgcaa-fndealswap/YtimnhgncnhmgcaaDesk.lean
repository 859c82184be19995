/- The desk at which the program does a deal: its memory, and what each of its methods does to it. -/
import Derived.Test.YtimnhgncnhmgcaaSpecRun
import Derived.Test.YtimnhgncnhmgcaaSteps
import Derived.Defers
import Derived.Recover
import Derived.Deep.RegionLaw
import Derived.RegionDies
namespace Go.Proofs.Ytimnhgncnhmgcaa
open Go.RowKit
attribute [local go_sem ↓] Go.wp_at_zero Go.wp_at_succ

/-- The desk lies in block D, whatever the call itself has made from block B0 on. -/
structure DeskAt (w : World) (D B0 : Nat) (s : Sta) : Prop where
  low : B0 ≤ D
  vals : Arr w D s.f
  chg : ∀ q, q < 32 → w.cell? ⟨D, 32 + q, none⟩ = some (.bool (s.c q)) ∧ w.frozen? ⟨D, 32 + q, none⟩ = false
  got : ∃ gv, w.cell? ⟨D, 64, none⟩ = some gv ∧ w.frozen? ⟨D, 64, none⟩ = false ∧ w.ownsRow B0 3 1 gv s.g.length (s.g.map (Value.int .i64)) ∧ (gv.ownBlock = none ∨ gv.ownBlock ≠ some D)

theorem DeskAt.lt {w : World} {D B0 : Nat} {s : Sta} (h : DeskAt w D B0 s) : D < w.heap.size := lt_of_cell (h.vals 0 (by omega)).1

theorem DeskAt.alloc {w : World} {D B0 : Nat} {s : Sta} (h : DeskAt w D B0 s) (o : Obj) : DeskAt (w.alloc o) D B0 s := by
  have hl := h.lt
  obtain ⟨gv, h1, h2, h3, h4⟩ := h.got
  refine ⟨h.low, h.vals.alloc o, fun q hq => ⟨?_, ?_⟩, gv, ?_, ?_, h3.alloc o, h4⟩
  · rw [World.cell?_alloc_past o D _ hl]; exact (h.chg q hq).1
  · rw [World.frozen?_alloc_past o D _ hl]; exact (h.chg q hq).2
  · rw [World.cell?_alloc_past o D _ hl]; exact h1
  · rw [World.frozen?_alloc_past o D _ hl]; exact h2

theorem DeskAt.drew {w : World} {D B0 : Nat} {s : Sta} (h : DeskAt w D B0 s) : DeskAt w.drew D B0 s := by
  obtain ⟨gv, h1, h2, h3, h4⟩ := h.got
  exact ⟨h.low, h.vals, h.chg, gv, h1, h2, h3, h4⟩

theorem DeskAt.set {w : World} {D B0 K : Nat} {s : Sta} (h : DeskAt w D B0 s) (hK : K < 32) (n : Int) :
    DeskAt ((w.setCell ⟨D, K, none⟩ (.int .i64 n)).setCell ⟨D, 32 + K, none⟩ (.bool true)).drew D B0 ⟨upd s.f K n, upd s.c K true, s.g⟩ := by
  obtain ⟨gv, h1, h2, h3, h4⟩ := h.got
  have ha : Arr (w.setCell ⟨D, K, none⟩ (.int .i64 n)) D (upd s.f K n) := h.vals.set hK (fun r _ => rfl)
  refine DeskAt.drew ⟨h.low, fun q hq => ⟨?_, ?_⟩, fun q hq => ⟨?_, ?_⟩, gv, ?_, ?_, h3.kept (grownBy_set (grownBy_set (grownBy_refl w (some D)) _ _) _ _) h4, h4⟩
  · rw [cell_set_far (by omega)]; exact (ha q hq).1
  · rw [World.frozen?_setCell]; exact (ha q hq).2
  · by_cases e : q = K
    · subst e
      have hc : (w.setCell ⟨D, q, none⟩ (.int .i64 n)).cell? ⟨D, 32 + q, none⟩ = some (.bool (s.c q)) := by rw [cell_set_far (by omega)]; exact (h.chg q hq).1
      rw [World.cell?_setCell_same _ _ _ hc]; simp [upd]
    · rw [cell_set_far (by omega), cell_set_far (by omega), (h.chg q hq).1]; simp [upd, e]
  · rw [World.frozen?_setCell, World.frozen?_setCell]; exact (h.chg q hq).2
  · rw [cell_set_far (by omega), cell_set_far (by omega)]; exact h1
  · rw [World.frozen?_setCell, World.frozen?_setCell]; exact h2

theorem DeskAt.push {W w1 : World} {o : Obj} {D B0 g cap : Nat} {s : Sta} {gv : Value} {F : Int} (h : DeskAt W D B0 s) (hl : D < W.heap.size) (hn : some D ≠ gv.ownBlock) (hgrow : (W.alloc o).drew.grownBy w1 gv.ownBlock)
    (hown : w1.ownsRow B0 3 1 (.slice (some ⟨g, 0, none⟩) (s.g.length + 1) cap) (s.g.length + 1) (s.g.map (Value.int .i64) ++ [.int .i64 F])) (hat : gv.ownBlock = some g ∨ g = W.heap.size + 1) :
    DeskAt (w1.setCell ⟨D, 64, none⟩ (.slice (some ⟨g, 0, none⟩) (s.g.length + 1) cap)) D B0 ⟨s.f, s.c, s.g ++ [F]⟩ := by
  have hA := (h.alloc o).drew
  have hl' : D < (W.alloc o).drew.heap.size := hA.lt
  have hne : g ≠ D := by
    rcases hat with hat | hat
    · intro e; apply hn; rw [hat, e]
    · omega
  have hc : ∀ q, w1.cell? ⟨D, q, none⟩ = (W.alloc o).drew.cell? ⟨D, q, none⟩ := fun q => hgrow.cell_far ⟨D, q, none⟩ hl' hn
  have hf : ∀ q, w1.frozen? ⟨D, q, none⟩ = (W.alloc o).drew.frozen? ⟨D, q, none⟩ := fun q => hgrow.frozen_far ⟨D, q, none⟩ hl' hn
  obtain ⟨gv', g1, g2, _, _⟩ := hA.got
  refine ⟨h.low, fun q hq => ⟨?_, ?_⟩, fun q hq => ⟨?_, ?_⟩, .slice (some ⟨g, 0, none⟩) (s.g.length + 1) cap, ?_, ?_, ?_, .inr (by simpa [Value.ownBlock] using hne)⟩
  · rw [cell_set_far (by omega), hc]; exact (hA.vals q hq).1
  · rw [World.frozen?_setCell, hf]; exact (hA.vals q hq).2
  · rw [cell_set_far (by omega), hc]; exact (hA.chg q hq).1
  · rw [World.frozen?_setCell, hf]; exact (hA.chg q hq).2
  · exact World.cell?_setCell_same _ _ _ ((hc 64).trans g1)
  · rw [World.frozen?_setCell, hf]; exact g2
  · have := hown.kept (grownBy_set (grownBy_refl w1 (some D)) 64 (.slice (some ⟨g, 0, none⟩) (s.g.length + 1) cap)) (.inr (by simpa [Value.ownBlock] using hne))
    simpa using this

set_option maxRecDepth 100000 in
set_option maxHeartbeats 1000000 in
theorem deskSet_any (D B0 K : Nat) (n : Int) (s : Sta) (w : World) (hd : DeskAt w D B0 s) (hK : K < 32) (hv : valB n = true) :
    Calls Try.prog 92 #[.pointer (some ⟨D, 0, none⟩), .int .i64 K, .int .i64 n] w fun e w' => e = .returned (.tuple #[]) ∧ DeskAt w' D B0 ⟨upd s.f K n, upd s.c K true, s.g⟩ ∧ Below B0 w w' := by
  obtain ⟨v0, v1⟩ := hd.vals K hK
  obtain ⟨c0, c1⟩ := hd.chg K hK
  have hl := hd.lt
  have HD := hide hd
  clear hd
  have hK' : (K : Int) < 32 := by omega
  go_enter Try.func92, Try.ntmps92
  go_wp2_with (go_at_call 76; refine (isValue_any _ _).mono ?_; rintro e w' ⟨rfl, rfl⟩)
  go_region
  go_wp2
  go_end0
  exact ⟨rfl, (unhide HD).set hK n, ((Below.setCell (Below.refl _ _) (unhide HD).low _).setCell (unhide HD).low _).drew⟩

/-! What the type switch finds. -/
theorem ta_get_get (x : Int) (w : World) : (Instr.typeAssert (.iface 141 (.agg #[.int .i64 x])) 105 141 true).run Try.prog w = .ok (.tuple #[.agg #[.int .i64 x], .bool true]) w := by kernel_rfl
theorem ta_put_get (x y : Int) (w : World) : (Instr.typeAssert (.iface 143 (.agg #[.int .i64 x, .int .i64 y])) 105 141 true).run Try.prog w = .ok (.tuple #[.agg #[.int .i64 0], .bool false]) w := by kernel_rfl
theorem ta_put_put (x y : Int) (w : World) : (Instr.typeAssert (.iface 143 (.agg #[.int .i64 x, .int .i64 y])) 105 143 true).run Try.prog w = .ok (.tuple #[.agg #[.int .i64 x, .int .i64 y], .bool true]) w := by kernel_rfl
theorem ta_add_get (x y : Int) (w : World) : (Instr.typeAssert (.iface 144 (.agg #[.int .i64 x, .int .i64 y])) 105 141 true).run Try.prog w = .ok (.tuple #[.agg #[.int .i64 0], .bool false]) w := by kernel_rfl
theorem ta_add_put (x y : Int) (w : World) : (Instr.typeAssert (.iface 144 (.agg #[.int .i64 x, .int .i64 y])) 105 143 true).run Try.prog w = .ok (.tuple #[.agg #[.int .i64 0, .int .i64 0], .bool false]) w := by kernel_rfl
theorem ta_add_add (x y : Int) (w : World) : (Instr.typeAssert (.iface 144 (.agg #[.int .i64 x, .int .i64 y])) 105 144 true).run Try.prog w = .ok (.tuple #[.agg #[.int .i64 x, .int .i64 y], .bool true]) w := by kernel_rfl
theorem ta_need_get (x y : Int) (w : World) : (Instr.typeAssert (.iface 145 (.agg #[.int .i64 x, .int .i64 y])) 105 141 true).run Try.prog w = .ok (.tuple #[.agg #[.int .i64 0], .bool false]) w := by kernel_rfl
theorem ta_need_put (x y : Int) (w : World) : (Instr.typeAssert (.iface 145 (.agg #[.int .i64 x, .int .i64 y])) 105 143 true).run Try.prog w = .ok (.tuple #[.agg #[.int .i64 0, .int .i64 0], .bool false]) w := by kernel_rfl
theorem ta_need_add (x y : Int) (w : World) : (Instr.typeAssert (.iface 145 (.agg #[.int .i64 x, .int .i64 y])) 105 144 true).run Try.prog w = .ok (.tuple #[.agg #[.int .i64 0, .int .i64 0], .bool false]) w := by kernel_rfl
theorem ta_need_need (x y : Int) (w : World) : (Instr.typeAssert (.iface 145 (.agg #[.int .i64 x, .int .i64 y])) 105 145 true).run Try.prog w = .ok (.tuple #[.agg #[.int .i64 x, .int .i64 y], .bool true]) w := by kernel_rfl

/-- The panic by which a deal is over. -/
abbrev overBy (k : Int) : Ending := .panicked [{ v := .iface 146 (.int .i64 k), recovered := false }]

set_option maxRecDepth 100000 in
set_option maxHeartbeats 1000000 in
theorem deskSet_over (D K : Nat) (n : Int) (w : World) (hv : valB n = false) :
    Calls Try.prog 92 #[.pointer (some ⟨D, 0, none⟩), .int .i64 K, .int .i64 n] w fun e w' => e = overBy 2 ∧ w' = w := by
  go_enter Try.func92, Try.ntmps92
  go_wp2_with (go_at_call 76; refine (isValue_any _ _).mono ?_; rintro e w' ⟨rfl, rfl⟩)
  exact ⟨rfl, rfl, rfl⟩

set_option maxRecDepth 100000 in
set_option maxHeartbeats 1000000 in
theorem deskDo_get (D B0 K : Nat) (s : Sta) (w : World) (hd : DeskAt w D B0 s) (hK : K < 32) (hgl : s.g.length ≤ 100) :
    Calls Try.prog 79 #[.pointer (some ⟨D, 0, none⟩), .iface 141 (.agg #[.int .i64 K])] w fun e w' => e = .returned (.tuple #[]) ∧ DeskAt w' D B0 ⟨s.f, s.c, s.g ++ [s.f K]⟩ ∧ Below B0 w w' := by
  obtain ⟨v0, v1⟩ := hd.vals K hK
  obtain ⟨gv, g0, g1, g2, g3⟩ := hd.got
  have hl := hd.lt
  have HD := hide hd
  clear hd
  have hK' : (K : Int) < 32 := by omega
  have hK0 : (0 : Int) ≤ (K : Int) := by omega
  generalize s.f K = FK at *
  obtain ⟨j0, hj0, hy0, hy1, hy2⟩ := info_parts Try.infoInt2
  have hta := ta_get_get
  have hlow := (unhide HD).low
  go_enter Try.func79, Try.ntmps79
  go_wp2
  have hc1 : (w.alloc (.cells #[.int .i64 K] 141)).cell? ⟨D, 64, none⟩ = some gv := by rw [World.cell?_alloc_past _ D _ hl]; exact g0
  have hc2 : (w.alloc (.cells #[.int .i64 K] 141)).cell? ⟨w.heap.size, 0, none⟩ = some (.int .i64 K) := by rw [World.cell?_alloc_at _ _ _ _ rfl]; rfl
  have hc3 : (w.alloc (.cells #[.int .i64 K] 141)).cell? ⟨D, K, none⟩ = some (.int .i64 FK) := by rw [World.cell?_alloc_past _ D _ hl]; exact v0
  have hc4 : (w.alloc (.cells #[.int .i64 K] 141)).frozen? ⟨D, 64, none⟩ = false := by rw [World.frozen?_alloc_past _ D _ hl]; exact g1
  have hdA := (unhide HD).alloc (.cells #[.int .i64 K] 141)
  have hoA := g2.alloc (.cells #[.int .i64 K] 141)
  have hbA : Below B0 w (w.alloc (.cells #[.int .i64 K] 141)) := (Below.refl _ _).alloc (by omega) _
  have hzA : (w.alloc (.cells #[.int .i64 K] 141)).heap.size = w.heap.size + 1 := by simp
  generalize w.alloc (.cells #[.int .i64 K] 141) = W at *
  have hnews : Hid (∀ j u, ([.int .i64 FK] : List Value)[j]? = some u → ((W.alloc (.cells #[.int .i64 FK] 3)).drew).cell? ((⟨W.heap.size, 0, none⟩ : Addr).add j) = some u) := World.news_of_block (heap_alloc_new W (.cells #[.int .i64 FK] 3))
  have HDA := hide hdA
  have HOA := hide hoA
  have HBA := hide hbA
  have HZA := hide hzA
  have HG2 := hide g2
  have hltW : D < W.heap.size := lt_of_cell hc1
  have hltV : w.heap.size < W.heap.size := lt_of_cell hc2
  clear hdA hoA hbA hzA g2 v0 v1 g0 g1 hl hta
  have HN1 : Hid (some D ≠ gv.ownBlock) := by
    show some D ≠ gv.ownBlock
    rcases g3 with h | h
    · rw [h]; simp
    · exact fun e => h e.symm
  have HN2 : Hid (some w.heap.size ≠ gv.ownBlock) := by
    intro e
    have := ((unhide HG2).lt _ e.symm).2
    omega
  have HG3 := hide g3
  clear g3
  have hk1 : ∀ o, (W.alloc o).drew.frozen? ⟨D, 64, none⟩ = false := fun o => (World.frozen?_alloc_past o D 64 hltW).trans hc4
  go_region_law
    ((refine step_append_lies _ (by rfl) (.tmp 16) (.tmp 24) 27 (by rfl) B0 3 j0 (.int .i64 0) 1 8 Try.underlying27 hj0 hy0 hy1 hy2 rfl (by decide) gv s.g.length _ (by rfl) (by exact (unhide HOA).alloc _) ⟨W.heap.size, 0, none⟩ 1 1 [.int .i64 FK] (by rfl) rfl (unhide hnews) (by simp [Value.oneCell']) (by decide) (by unfold maxLen; omega) (by omega) (by simp; omega) (W.heap.size + 1) (by simp) ?_; intro g cap w1 hown1 hgrow hat hlt; have hk2 : w1.cell? ⟨D, 64, none⟩ = some gv := (hgrow.cell_far ⟨D, 64, none⟩ (by simp; omega) (unhide HN1)).trans ((World.cell?_alloc_past _ D 64 hltW).trans hc1); have hk3 : w1.cell? ⟨w.heap.size, 0, none⟩ = some (.int .i64 K) := (hgrow.cell_far ⟨w.heap.size, 0, none⟩ (by simp; omega) (unhide HN2)).trans ((World.cell?_alloc_past _ w.heap.size 0 hltV).trans hc2); have hk4 : w1.cell? ⟨D, K, none⟩ = some (.int .i64 FK) := (hgrow.cell_far ⟨D, K, none⟩ (by simp; omega) (unhide HN1)).trans ((World.cell?_alloc_past _ D K hltW).trans hc3); have hk5 : w1.frozen? ⟨D, 64, none⟩ = false := (hgrow.frozen_far ⟨D, 64, none⟩ (by simp; omega) (unhide HN1)).trans (hk1 _)))
  all_goals (try go_wp2)
  all_goals go_end0
  all_goals
    refine ⟨rfl, (unhide HDA).push hltW (unhide HN1) hgrow hown1 hat, Below.setCell (Below.grown ((unhide HBA).alloc (by omega) _).drew hgrow (by simp; omega) (fun q hq => ((unhide HOA).lt q hq).1)) hlow _⟩


set_option maxRecDepth 100000 in
set_option maxHeartbeats 1000000 in
theorem deskDo_put (D B0 K : Nat) (n : Int) (s : Sta) (w : World) (hd : DeskAt w D B0 s) (hK : K < 32) (hv : valB n = true) :
    Calls Try.prog 79 #[.pointer (some ⟨D, 0, none⟩), .iface 143 (.agg #[.int .i64 K, .int .i64 n])] w fun e w' => e = .returned (.tuple #[]) ∧ DeskAt w' D B0 ⟨upd s.f K n, upd s.c K true, s.g⟩ ∧ Below B0 w w' := by
  have hta := ta_put_get
  have htb := ta_put_put
  have HD := hide hd
  have hl := hd.lt
  have hlow := hd.low
  clear hd
  go_enter Try.func79, Try.ntmps79
  go_wp2_with (go_at_call 92; refine (deskSet_any D B0 K n s _ ((unhide HD).alloc _) hK hv).mono ?_; rintro e w' ⟨rfl, hd', hb'⟩)
  go_end0
  exact ⟨rfl, hd', ((Below.refl _ _).alloc (by omega) _).trans hb'⟩

end Go.Proofs.Ytimnhgncnhmgcaa
