/- How inputs are drawn: the reader, and a number that is picked. -/
import Derived.Test.YtmikdkdgpomiaaaDoorRows
import Derived.Test.YtmikdkdgpomiaaaDoorBase2
import Derived.Deep.DrawnRows
namespace Go.Proofs.YtmikdkdgpomiaaaDoor
open Go.RowKit
attribute [local go_sem ↓] Go.wp_at_zero Go.wp_at_succ

theorem i64_xor_nat (a b : Nat) (ha : a < 4611686018427387904) (hb : b < 4611686018427387904) : bits .xor .i64 (a : Int) (b : Int) = ((a ^^^ b : Nat) : Int) := by
  have hx : a ^^^ b < 2 ^ 62 := Nat.xor_lt_two_pow (by omega) (by omega)
  have h1 : (BitVec.ofInt 64 (a : Int)).toNat = a := by
    rw [BitVec.ofInt_natCast, BitVec.toNat_ofNat]; exact Nat.mod_eq_of_lt (by omega)
  have h2 : (BitVec.ofInt 64 (b : Int)).toNat = b := by
    rw [BitVec.ofInt_natCast, BitVec.toNat_ofNat]; exact Nat.mod_eq_of_lt (by omega)
  show IntKind.i64.wrap ((BitVec.ofInt 64 (a : Int) ^^^ BitVec.ofInt 64 (b : Int)).toNat : Int) = _
  rw [BitVec.toNat_xor, h1, h2, IntKind.wrap_i64]
  omega

theorem i64_xor (a b : Int) (h1 : 0 ≤ a) (h2 : a < 4611686018427387904) (h3 : 0 ≤ b) (h4 : b < 4611686018427387904) : 0 ≤ bits .xor .i64 a b := by
  obtain ⟨A, rfl⟩ := Int.eq_ofNat_of_zero_le h1
  obtain ⟨B, rfl⟩ := Int.eq_ofNat_of_zero_le h3
  rw [i64_xor_nat A B (by omega) (by omega)]; omega

/-- The reader in block B: n bytes at a, and the place p. -/
structure Rd (w : World) (B : Nat) (p : Nat) : Prop where
  cell : ∃ a n cap, w.cell? ⟨B, 0, none⟩ = some (.slice a n cap) ∧ n ≤ 2000 ∧ n ≤ cap ∧ (n = 0 ∨ ∃ b off, a = some ⟨b, off, none⟩ ∧ b < B ∧ ∃ bs : Nat → Int, ∀ i, i < n → w.cell? ⟨b, off + i, none⟩ = some (.int .u8 (bs i)) ∧ 0 ≤ bs i ∧ bs i ≤ 255)
  place : w.cell? ⟨B, 1, none⟩ = some (.int .i64 p)
  free : w.frozen? ⟨B, 1, none⟩ = false

set_option maxRecDepth 100000 in
set_option maxHeartbeats 1000000 in
theorem pick_none (B p : Nat) (m : Int) (w : World) (h : Rd w B p) (hp : p ≤ 1000000) (hm : m < 1) :
    Calls Tryd.prog 33 #[.pointer (some ⟨B, 0, none⟩), .int .i64 m] w fun e w' => e = .returned (.int .i64 0) ∧ w' = w.setCell ⟨B, 1, none⟩ (.int .i64 ((p : Int) + 1)) := by
  obtain ⟨⟨a, n, cap, c0, hn, hcap, hbs⟩, c1, f1⟩ := h
  go_enter Tryd.func33, Tryd.ntmps33
  go_wp2
  go_ret
  exact ⟨rfl, rfl⟩

set_option maxRecDepth 100000 in
set_option maxHeartbeats 1000000 in
theorem pick_empty (B p : Nat) (m : Int) (w : World) (a : Option Addr) (cap : Nat) (c0 : w.cell? ⟨B, 0, none⟩ = some (.slice a 0 cap)) (c1 : w.cell? ⟨B, 1, none⟩ = some (.int .i64 p)) (f1 : w.frozen? ⟨B, 1, none⟩ = false) (hp : p ≤ 1000000) (hm : ¬ m < 1) :
    Calls Tryd.prog 33 #[.pointer (some ⟨B, 0, none⟩), .int .i64 m] w fun e w' => e = .returned (.int .i64 0) ∧ w' = w.setCell ⟨B, 1, none⟩ (.int .i64 ((p : Int) + 1)) := by
  have c0' : (w.setCell ⟨B, 1, none⟩ (.int .i64 ((p : Int) + 1))).cell? ⟨B, 0, none⟩ = some (.slice a 0 cap) := by rw [cell_set_far (by omega)]; exact c0
  go_enter Tryd.func33, Tryd.ntmps33
  go_wp2
  go_ret
  exact ⟨rfl, rfl⟩

set_option maxRecDepth 100000 in
set_option maxHeartbeats 1000000 in
theorem pick_some (B p n cap b off : Nat) (m : Int) (bs : Nat → Int) (w : World) (hbB : b ≠ B) (hn : n ≤ 2000) (hn0 : 0 < n) (c0 : w.cell? ⟨B, 0, none⟩ = some (.slice (some ⟨b, off, none⟩) n cap)) (c1 : w.cell? ⟨B, 1, none⟩ = some (.int .i64 p)) (f1 : w.frozen? ⟨B, 1, none⟩ = false)
    (hbs : ∀ i, i < n → w.cell? ⟨b, off + i, none⟩ = some (.int .u8 (bs i)) ∧ 0 ≤ bs i ∧ bs i ≤ 255) (hp : p ≤ 1000000) (hm : 1 ≤ m) (hm' : m ≤ 1000000) :
    Calls Tryd.prog 33 #[.pointer (some ⟨B, 0, none⟩), .int .i64 m] w fun e w' => ∃ k : Int, e = .returned (.int .i64 k) ∧ 0 ≤ k ∧ k < m ∧ ∃ q, w' = (w.setCell ⟨B, 1, none⟩ (.int .i64 ((p : Int) + 1))).drewN q := by
  have hne : ((n : Int) == 0) = false := by simp; omega
  have c0' : (w.setCell ⟨B, 1, none⟩ (.int .i64 ((p : Int) + 1))).cell? ⟨B, 0, none⟩ = some (.slice (some ⟨b, off, none⟩) n cap) := by rw [cell_set_far (by omega)]; exact c0
  have hcell : ∀ i, i < n → (w.setCell ⟨B, 1, none⟩ (.int .i64 ((p : Int) + 1))).cell? ⟨b, off + i, none⟩ = some (.int .u8 (bs i)) := fun i hi => by rw [cell_set_far (.inl (fun e => hbB e.symm))]; exact (hbs i hi).1
  by_cases hpn : p < n
  · have d0 := hcell p hpn
    obtain ⟨_, e1, e2⟩ := hbs p hpn
    generalize bs p = x at *
    clear hcell hbs
    go_enter Tryd.func33, Tryd.ntmps33
    go_wp2
    go_ret
    exact ⟨x % m, rfl, Int.emod_nonneg _ (by omega), Int.emod_lt_of_pos _ (by omega), 0, rfl⟩
  · have i1 : p % n < n := Nat.mod_lt _ hn0
    have i2 : (p * 7 + 3) % n < n := Nat.mod_lt _ hn0
    have d1 := hcell (p % n) i1
    have d2 := hcell ((p * 7 + 3) % n) i2
    obtain ⟨_, e1, e2⟩ := hbs (p % n) i1
    obtain ⟨_, e3, e4⟩ := hbs ((p * 7 + 3) % n) i2
    generalize bs (p % n) = x at *
    generalize bs ((p * 7 + 3) % n) = y at *
    have hq1 : (p : Int) % (n : Int) = ((p % n : Nat) : Int) := by omega
    have hq2 : ((p : Int) * 7 + 3) % (n : Int) = (((p * 7 + 3) % n : Nat) : Int) := by simp
    have hq3 : 0 ≤ (p : Int) / (n : Int) := Int.ediv_nonneg (by omega) (by omega)
    have hq4 : (p : Int) / (n : Int) ≤ 1000000 := by
      have := Int.ediv_le_self (b := (n : Int)) (a := (p : Int)) (by omega)
      omega
    generalize p % n = r1 at *
    generalize (p * 7 + 3) % n = r2 at *
    generalize hQ : (p : Int) / (n : Int) = Q at *
    clear hcell hbs
    have hr1 : (r1 : Int) < (n : Int) := by omega
    have hr2 : (r2 : Int) < (n : Int) := by omega
    have hr1' : (0 : Int) ≤ (r1 : Int) := by omega
    have hr2' : (0 : Int) ≤ (r2 : Int) := by omega
    go_enter Tryd.func33, Tryd.ntmps33
    go_wp2
    go_quiet (fail)
    go_wp2
    go_ret
    have hx := i64_xor (x * 131 + y * 1117 + p * 29 + Q * 53) ((x * 131 + y * 1117 + p * 29 + Q * 53) / 64) (by omega) (by omega) (by omega) (by omega)
    exact ⟨_, rfl, Int.tmod_nonneg _ hx, Int.tmod_lt_of_pos _ (by omega), _, rfl⟩

/-- The reader picks a number below m (0, if m is none), and goes on by one; nothing else changes. -/
theorem pick_any (B p : Nat) (m : Int) (w : World) (h : Rd w B p) (hp : p ≤ 1000000) (hm' : m ≤ 1000000) :
    Calls Tryd.prog 33 #[.pointer (some ⟨B, 0, none⟩), .int .i64 m] w fun e w' => ∃ k : Int, e = .returned (.int .i64 k) ∧ 0 ≤ k ∧ (1 ≤ m → k < m) ∧ Rd w' B (p + 1) ∧ w.grownBy w' (some B) ∧ w'.heap.size = w.heap.size := by
  have hfin : ∀ q, Rd ((w.setCell ⟨B, 1, none⟩ (.int .i64 ((p : Int) + 1))).drewN q) B (p + 1) ∧ w.grownBy ((w.setCell ⟨B, 1, none⟩ (.int .i64 ((p : Int) + 1))).drewN q) (some B) ∧ ((w.setCell ⟨B, 1, none⟩ (.int .i64 ((p : Int) + 1))).drewN q).heap.size = w.heap.size := fun q => by
    obtain ⟨⟨a, n, cap, c0, hn, hcap, hbs⟩, c1, f1⟩ := h
    refine ⟨⟨⟨a, n, cap, (cell_set_far (by omega)).trans c0, hn, hcap, ?_⟩, World.cell?_setCell_same _ _ _ c1, (World.frozen?_setCell _ _ _ _).trans f1⟩, ?_, ?_⟩
    · rcases hbs with h0 | ⟨b, off, ha, hbB, bs, hb⟩
      · exact .inl h0
      · exact .inr ⟨b, off, ha, hbB, bs, fun i hi => ⟨(cell_set_far (by omega)).trans (hb i hi).1, (hb i hi).2⟩⟩
    · have := grownBy_set (grownBy_refl w (some B)) 1 (.int .i64 ((p : Int) + 1))
      exact ⟨this.os, this.tape, this.output, this.size, this.block⟩
    · show (w.setCell ⟨B, 1, none⟩ (.int .i64 ((p : Int) + 1))).heap.size = _
      simp [World.setCell]
  by_cases hm : m < 1
  · refine (pick_none B p m w h hp hm).mono ?_
    rintro e w' ⟨rfl, rfl⟩
    exact ⟨0, rfl, by omega, by omega, hfin 0⟩
  · obtain ⟨⟨a, n, cap, c0, hn, hcap, hbs⟩, c1, f1⟩ := h
    rcases hbs with rfl | ⟨b, off, rfl, hbB, bs, hb⟩
    · refine (pick_empty B p m w a cap c0 c1 f1 hp hm).mono ?_
      rintro e w' ⟨rfl, rfl⟩
      exact ⟨0, rfl, by omega, by omega, hfin 0⟩
    · by_cases h0 : n = 0
      · subst h0
        refine (pick_empty B p m w _ cap c0 c1 f1 hp hm).mono ?_
        rintro e w' ⟨rfl, rfl⟩
        exact ⟨0, rfl, by omega, by omega, hfin 0⟩
      · refine (pick_some B p n cap b off m bs w (by omega) hn (by omega) c0 c1 f1 hb hp (by omega) hm').mono ?_
        rintro e w' ⟨k, rfl, h1, h2, q, rfl⟩
        exact ⟨k, rfl, h1, fun _ => h2, hfin q⟩

/-- The slice value v lies in w and holds bytes. -/
def BytesAt (w : World) (v : Value) (n : Nat) : Prop :=
  ∃ a cap, v = .slice a n cap ∧ n ≤ cap ∧ cap ≤ maxLen ∧ (n = 0 ∨ ∃ b off, a = some ⟨b, off, none⟩ ∧ ∃ bs : Nat → Int, ∀ i, i < n → w.cell? ⟨b, off + i, none⟩ = some (.int .u8 (bs i)) ∧ 0 ≤ bs i ∧ bs i ≤ 255)

set_option maxRecDepth 100000 in
set_option maxHeartbeats 1000000 in
theorem open_any (v : Value) (n : Nat) (w : World) (hv : BytesAt w v n) :
    Calls Tryd.prog 24 #[v] w fun e w' => e = .returned (.pointer (some ⟨w.heap.size, 0, none⟩)) ∧ Rd w' w.heap.size 0 ∧ Below w.heap.size w w' ∧ w'.heap.size = w.heap.size + 1 := by
  obtain ⟨a, cap, rfl, h1, h2, h3⟩ := hv
  unfold maxLen at h2
  have hfin : ∀ m c, m ≤ 2000 → m ≤ n → m ≤ c → Rd (w.alloc (.cells #[.slice a m c, .int .i64 0] 75)) w.heap.size 0 := fun m c hm hmn hmc => by
    refine ⟨⟨a, m, c, by rw [World.cell?_alloc_at _ _ _ _ rfl]; rfl, hm, hmc, ?_⟩, by rw [World.cell?_alloc_at _ _ _ _ rfl]; rfl, World.frozen?_alloc_at _ _ _ _ rfl⟩
    rcases h3 with h3 | ⟨b, off, ha, bs, hb⟩
    · exact .inl (by omega)
    · by_cases h0 : m = 0
      · exact .inl h0
      · have hlt := lt_of_cell (hb 0 (by omega)).1
        refine .inr ⟨b, off, ha, hlt, bs, fun i hi => ⟨?_, (hb i (by omega)).2⟩⟩
        rw [World.cell?_alloc_past _ b _ hlt]; exact (hb i (by omega)).1
  have HF := hide hfin
  clear hfin h3
  by_cases hlt : (2000 : Int) < (n : Int)
  · have hcap : (2000 : Int) ≤ (cap : Int) := by omega
    go_enter Tryd.func24, Tryd.ntmps24
    go_wp2
    go_ret
    exact ⟨rfl, unhide HF 2000 cap (by omega) (by omega) (by omega), (Below.refl _ _).alloc (Nat.le_refl _) _, by simp⟩
  · go_enter Tryd.func24, Tryd.ntmps24
    go_wp2
    go_ret
    exact ⟨rfl, unhide HF n cap (by omega) (Nat.le_refl _) h1, (Below.refl _ _).alloc (Nat.le_refl _) _, by simp⟩

theorem Rd.lt {w : World} {B p : Nat} (h : Rd w B p) : B < w.heap.size := lt_of_cell h.place

theorem Rd.kept {w w' : World} {B p : Nat} (h : Rd w B p) (hb : Below w.heap.size w w') : Rd w' B p := by
  obtain ⟨⟨a, n, cap, c0, hn, hcap, hbs⟩, c1, f1⟩ := h
  refine ⟨⟨a, n, cap, cell_kept hb c0, hn, hcap, ?_⟩, cell_kept hb c1, by rw [hb.frozen (p := ⟨B, 1, none⟩) (lt_of_cell c1)]; exact f1⟩
  rcases hbs with h0 | ⟨b, off, ha, hbB, bs, hb'⟩
  · exact .inl h0
  · exact .inr ⟨b, off, ha, hbB, bs, fun i hi => ⟨cell_kept hb (hb' i hi).1, (hb' i hi).2⟩⟩

theorem Rd.allocK {w : World} {B p : Nat} {o : Obj} (h : Rd w B p) : Rd (w.alloc o) B p := h.kept ((Below.refl _ _).alloc (Nat.le_refl _) o)
theorem Rd.drewK {w : World} {B p : Nat} (h : Rd w B p) : Rd w.drew B p := h.kept ((Below.refl _ _).drew)

theorem Rd.far {w w' : World} {B p : Nat} {row : Option Nat} (h : Rd w B p) (hg : w.grownBy w' row) (hne : ∀ y, y ≤ B → some y ≠ row) : Rd w' B p := by
  have hl := h.lt
  obtain ⟨⟨a, n, cap, c0, hn, hcap, hbs⟩, c1, f1⟩ := h
  refine ⟨⟨a, n, cap, cell_far hg (hne B (Nat.le_refl _)) c0, hn, hcap, ?_⟩, cell_far hg (hne B (Nat.le_refl _)) c1, by rw [hg.frozen_far ⟨B, 1, none⟩ hl (hne B (Nat.le_refl _))]; exact f1⟩
  rcases hbs with h0 | ⟨b, off, ha, hbB, bs, hb'⟩
  · exact .inl h0
  · exact .inr ⟨b, off, ha, hbB, bs, fun i hi => ⟨cell_far hg (hne b (by omega)) (hb' i hi).1, (hb' i hi).2⟩⟩

/-- Of two rows written, one made by the call itself: what was there before is touched at the one alone. -/
theorem grownBy_own {w w' w'' : World} {row row' : Option Nat} (h : w.grownBy w' row) (k : w'.grownBy w'' row') (hr : ∀ q, row' = some q → w.heap.size ≤ q) : w.grownBy w'' row :=
  ⟨k.os.trans h.os, k.tape.trans h.tape, k.output.trans h.output, Nat.le_trans h.size k.size, fun i hi hne => (k.block i (Nat.lt_of_lt_of_le hi h.size) (fun e => by have := hr i e.symm; omega)).trans (h.block i hi hne)⟩

theorem grownBy_below {w w' w'' : World} {row : Option Nat} (h : w.grownBy w' row) (hb : Below w'.heap.size w' w'') : w.grownBy w'' row :=
  ⟨hb.os.trans h.os, hb.tape.trans h.tape, hb.output.trans h.output, Nat.le_trans h.size hb.size, fun k hk hne => (hb.block k (Nat.lt_of_lt_of_le hk h.size)).trans (h.block k hk hne)⟩

/-- Seven numbers, one of them by its place. -/
theorem seven (x : Int) (K : Nat) (hK : K < 7) : ∃ v : Int, (#[.int .i64 0, .int .i64 1, .int .i64 4, .int .i64 5, .int .i64 8, .int .i64 9, .int .i64 x] : Array Value)[K]? = some (.int .i64 v) := by
  match K, hK with
  | 0, _ => exact ⟨_, rfl⟩
  | 1, _ => exact ⟨_, rfl⟩
  | 2, _ => exact ⟨_, rfl⟩
  | 3, _ => exact ⟨_, rfl⟩
  | 4, _ => exact ⟨_, rfl⟩
  | 5, _ => exact ⟨_, rfl⟩
  | 6, _ => exact ⟨_, rfl⟩

theorem three (x y z : Int) (K : Nat) (hK : K < 3) : ∃ v : Int, (#[.int .i64 x, .int .i64 y, .int .i64 z] : Array Value)[K]? = some (.int .i64 v) := by
  match K, hK with
  | 0, _ => exact ⟨_, rfl⟩
  | 1, _ => exact ⟨_, rfl⟩
  | 2, _ => exact ⟨_, rfl⟩

/-- A cell that holds v and may be written. -/
structure Cf (w : World) (b o : Nat) (v : Value) : Prop where
  cell : w.cell? ⟨b, o, none⟩ = some v
  free : w.frozen? ⟨b, o, none⟩ = false

theorem Cf.allocK {w : World} {b o : Nat} {v : Value} {x : Obj} (h : Cf w b o v) : Cf (w.alloc x) b o v :=
  ⟨(World.cell?_alloc_past x b o (lt_of_cell h.cell)).trans h.cell, (World.frozen?_alloc_past x b o (lt_of_cell h.cell)).trans h.free⟩
theorem Cf.drewK {w : World} {b o : Nat} {v : Value} (h : Cf w b o v) : Cf w.drew b o v := ⟨h.cell, h.free⟩
theorem Cf.far {w w' : World} {b o : Nat} {v : Value} {row : Option Nat} (h : Cf w b o v) (hg : w.grownBy w' row) (hne : some b ≠ row) : Cf w' b o v :=
  ⟨cell_far hg hne h.cell, (hg.frozen_far ⟨b, o, none⟩ (lt_of_cell h.cell) hne).trans h.free⟩
theorem Cf.made (w : World) {cs : Array Value} {t : TypeId} {o : Nat} {v : Value} (h : cs[o]? = some v) : Cf (w.alloc (.cells cs t)) w.heap.size o v :=
  ⟨(World.cell?_alloc_at _ _ _ _ rfl).trans h, World.frozen?_alloc_at _ _ _ _ rfl⟩
/-- A cell that holds v. -/
structure Ce (w : World) (b o : Nat) (v : Value) : Prop where
  cell : w.cell? ⟨b, o, none⟩ = some v
theorem Ce.allocK {w : World} {b o : Nat} {v : Value} {x : Obj} (h : Ce w b o v) : Ce (w.alloc x) b o v := ⟨(World.cell?_alloc_past x b o (lt_of_cell h.cell)).trans h.cell⟩
theorem Ce.drewK {w : World} {b o : Nat} {v : Value} (h : Ce w b o v) : Ce w.drew b o v := ⟨h.cell⟩
theorem Ce.far {w w' : World} {b o : Nat} {v : Value} {row : Option Nat} (h : Ce w b o v) (hg : w.grownBy w' row) (hne : some b ≠ row) : Ce w' b o v := ⟨cell_far hg hne h.cell⟩

theorem Ce.setK {w : World} {b o g j : Nat} {v u : Value} (h : Ce w b o v) (hne : g ≠ b) : Ce (w.setCell ⟨g, j, none⟩ u) b o v := ⟨(cell_set_far (.inl hne)).trans h.cell⟩

end Go.Proofs.YtmikdkdgpomiaaaDoor
