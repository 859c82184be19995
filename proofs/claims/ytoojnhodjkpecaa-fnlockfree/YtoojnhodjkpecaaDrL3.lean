/- How a lock is drawn: the loop. -/
import Derived.Test.YtoojnhodjkpecaaDrL2
import Derived.Deep.DeepCutAuto
import Derived.Deep.RegionHeld3
namespace Go.Proofs.Ytoojnhodjkpecaa
open Go.RowKit

theorem DLk.end3 {w wr w' : World} {B q : Nat} {l : Lk} {a b : Value} {l' : Lk} {c0 c1 : Option Addr} {f0 f1 q0 : Nat} (h : DLk w wr B q l a b) (hB : B < w.heap.size) (hb : Below wr.heap.size wr w') (ho : OwnLk w' wr.heap.size l' (.slice c0 l'.held.length f0) (.slice c1 l'.waits.length f1)) (hl : l'.held.length ≤ 40 ∧ l'.waits.length ≤ 40) (hq : q ≤ q0 + 5) :
    ∃ (l'' : Lk) (d0' d1' : Option Addr) (e0' e1' q' : Nat), DLk w (((w'.setCell ⟨w.heap.size + 1, 0, none⟩ (.int .i64 l'.slot)).setCell ⟨w.heap.size + 1, 1, none⟩ (.slice c0 l'.held.length f0)).setCell ⟨w.heap.size + 1, 2, none⟩ (.slice c1 l'.waits.length f1)) B q' l'' (.slice d0' l''.held.length e0') (.slice d1' l''.waits.length e1') ∧ q' ≤ q0 + 5 :=
  ⟨l', c0, c1, f0, f1, q, h.put hB hb ho hl.1 hl.2, hq⟩

theorem wrap1 {k m : Int} (h0 : 0 ≤ k) (h1 : k < m) (hm : m ≤ 1000000) : IntKind.i64.wrap (1 + k) = 1 + k := by rw [IntKind.wrap_i64]; omega
theorem DLk.pickAny {w wr : World} {B q : Nat} {l : Lk} {a b : Value} (h : DLk w wr B q l a b) (hB : B < w.heap.size) (hq : q ≤ 900000) (m : Int) (hm : 1 ≤ m) (hm' : m ≤ 1000000) :
    Calls Try.prog 40 #[.pointer (some ⟨B, 0, none⟩), .int .i64 m] wr fun e w' => ∃ k : Int, e = .returned (.int .i64 k) ∧ 0 ≤ k ∧ k < m ∧ DLk w w' B (q + 1) l a b :=
  (pick_any B q m wr h.rd (by omega) hm').mono fun _ _ ⟨k, h1, h2, h3, h4, h5, _⟩ => ⟨k, h1, h2, h3 hm, h.pick hB h5 h4⟩

theorem DLk.pickAnyG {w wr : World} {B q : Nat} {l : Lk} {a b : Value} (h : DLk w wr B q l a b) (hB : B < w.heap.size) (hq : q ≤ 900000) (m : Int) (hm : 1 ≤ m) (hm' : m ≤ 1000000) :
    Calls Try.prog 40 #[.pointer (some ⟨B, 0, none⟩), .int .i64 m] wr fun e w' => ∃ k : Nat, e = .returned (.int .i64 (k : Int)) ∧ (k : Int) < m ∧ DLk w w' B (q + 1) l a b ∧ wr.grownBy w' (some B) :=
  (pick_any B q m wr h.rd (by omega) hm').mono fun _ _ ⟨k, h1, h2, h3, h4, h5, _⟩ => by
    obtain ⟨n, rfl⟩ := Int.eq_ofNat_of_zero_le h2
    exact ⟨n, h1, h3 hm, h.pick hB h5 h4, h5⟩
theorem DLk.set {w wr : World} {B q g : Nat} {l : Lk} {a b : Value} (h : DLk w wr B q l a b) (hB : B < w.heap.size) (hg : w.heap.size + 2 ≤ g) (ha : a.ownBlock ≠ some g) (hb : b.ownBlock ≠ some g) (j : Nat) (u : Value) : DLk w (wr.setCell ⟨g, j, none⟩ u) B q l a b := by
  have hs : wr.grownBy (wr.setCell ⟨g, j, none⟩ u) (some g) := grownBy_set (grownBy_refl wr (some g)) j u
  refine ⟨h.box.far hs (fun e => by simp at e; omega), h.res.far hs (fun e => by simp at e; omega), ⟨ownsRow_setCell_other h.own.held ha, ownsRow_setCell_other h.own.waits hb, h.own.ne⟩, h.rd.far hs (fun y hy e => by simp at e; omega), ?_, h.hn, h.hm⟩
  have hw := h.grown
  exact ⟨hs.os.trans hw.os, hs.tape.trans hw.tape, hs.output.trans hw.output, Nat.le_trans hw.size hs.size, fun k hk hne => (hs.block k (Nat.lt_of_lt_of_le hk hw.size) (fun e => by simp at e; omega)).trans (hw.block k hk hne)⟩
/-- A hold was taken out of the lock, into a box of its own. -/
def HdCut (w : World) (B q : Nat) (l : Lk) (a b : Value) (s : Value) (wz : World) : Prop := ∃ (g : Nat) (x : Hd), s = .pointer (some ⟨g, 0, none⟩) ∧ Bx wz g 27 #[.int .i64 x.stamp, .int .i64 x.try_, .bool x.share, .bool x.firm] ∧ w.heap.size + 2 ≤ g ∧ DLk w wz B q l a b
theorem hdCutNew {w wr : World} {B q : Nat} {l : Lk} {a b : Value} {xs xt : Int} {xh xf : Bool} (h : DLk w wr B q l a b) : HdCut w B q l a b (.pointer (some ⟨wr.heap.size, 0, none⟩)) (wr.alloc (.cells #[.int .i64 xs, .int .i64 xt, .bool xh, .bool xf] 27)) :=
  ⟨_, ⟨xs, xt, xh, xf⟩, rfl, Bx.made _ _ _, by have := h.box.lt; omega, h.allocK⟩
theorem hdCutOld {w wr : World} {B q g : Nat} {l : Lk} {a b : Value} {xs xt : Int} {xh xf : Bool} {c0 c1 c2 c3 : Value} (h : DLk w wr B q l a b) (hB : B < w.heap.size) (hx : Bx wr g 27 #[c0, c1, c2, c3]) (hg : w.heap.size + 2 ≤ g) (ha : a.ownBlock ≠ some g) (hb : b.ownBlock ≠ some g) :
    HdCut w B q l a b (.pointer (some ⟨g, 0, none⟩)) ((((wr.setCell ⟨g, 0, none⟩ (.int .i64 xs)).setCell ⟨g, 1, none⟩ (.int .i64 xt)).setCell ⟨g, 2, none⟩ (.bool xh)).setCell ⟨g, 3, none⟩ (.bool xf)) :=
  ⟨g, ⟨xs, xt, xh, xf⟩, rfl, ⟨heap_setCell_same _ _ _ _ _ _ (heap_setCell_same _ _ _ _ _ _ (heap_setCell_same _ _ _ _ _ _ (heap_setCell_same _ _ _ _ _ _ hx.row)))⟩, hg, (((h.set hB hg ha hb _ _).set hB hg ha hb _ _).set hB hg ha hb _ _).set hB hg ha hb _ _⟩

structure FLk (w wr : World) (B q : Nat) (l : Lk) (a b : Value) : Prop where
  box : Bx wr (w.heap.size + 1) 25 #[.int .i64 l.slot, a, b]
  res : Bx wr w.heap.size 25 #[.int .i64 0, .slice none 0 0, .slice none 0 0]
  own : OwnLk wr (w.heap.size + 2) l a b
  rd : Rd wr B q
  grown : w.grownBy wr (some B)
  hn : l.held.length ≤ 100
  hm : l.waits.length ≤ 100
theorem DLk.f {w wr : World} {B q : Nat} {l : Lk} {a b : Value} (h : DLk w wr B q l a b) : FLk w wr B q l a b := ⟨h.box, h.res, h.own, h.rd, h.grown, Nat.le_trans h.hn (by omega), Nat.le_trans h.hm (by omega)⟩
theorem grown_in {w wr wz : World} {B g : Nat} (hw : w.grownBy wr (some B)) (hs : wr.grownBy wz (some g)) (hg : w.heap.size ≤ g) : w.grownBy wz (some B) :=
  ⟨hs.os.trans hw.os, hs.tape.trans hw.tape, hs.output.trans hw.output, Nat.le_trans hw.size hs.size, fun k hk hne => (hs.block k (Nat.lt_of_lt_of_le hk hw.size) (fun e => by simp at e; omega)).trans (hw.block k hk hne)⟩
theorem FLk.fin {w wr : World} {B q : Nat} {l : Lk} {a b : Value} (h : FLk w wr B q l a b) (hB : B < w.heap.size) :
    (((wr.setCell ⟨w.heap.size, 0, none⟩ (.int .i64 l.slot)).setCell ⟨w.heap.size, 1, none⟩ a).setCell ⟨w.heap.size, 2, none⟩ b).heap[w.heap.size]? = some (.cells #[.int .i64 l.slot, a, b] 25 (0, 0)) ∧
    LkAt (((wr.setCell ⟨w.heap.size, 0, none⟩ (.int .i64 l.slot)).setCell ⟨w.heap.size, 1, none⟩ a).setCell ⟨w.heap.size, 2, none⟩ b) l a b ∧ Rd (((wr.setCell ⟨w.heap.size, 0, none⟩ (.int .i64 l.slot)).setCell ⟨w.heap.size, 1, none⟩ a).setCell ⟨w.heap.size, 2, none⟩ b) B q ∧ w.grownBy (((wr.setCell ⟨w.heap.size, 0, none⟩ (.int .i64 l.slot)).setCell ⟨w.heap.size, 1, none⟩ a).setCell ⟨w.heap.size, 2, none⟩ b) (some B) ∧ (∀ k, a.ownBlock = some k → w.heap.size ≤ k) ∧ (∀ k, b.ownBlock = some k → w.heap.size ≤ k) := by
  have hg := grown3 wr w.heap.size (.int .i64 l.slot) a b
  refine ⟨heap_setCell_same _ _ _ _ _ _ (heap_setCell_same _ _ _ _ _ _ (heap_setCell_same _ _ _ _ _ _ h.res.row)), ⟨h.own.at.held.far hg (.inr (fun e => by have := (h.own.held.lt _ e).1; omega)), h.own.at.waits.far hg (.inr (fun e => by have := (h.own.waits.lt _ e).1; omega))⟩, h.rd.far hg (fun y hy e => by simp at e; omega), grown_in h.grown hg (Nat.le_refl _), fun k e => by have := (h.own.held.lt _ e).1; omega, fun k e => by have := (h.own.waits.lt _ e).1; omega⟩
theorem FLk.slot {w wr : World} {B q : Nat} {l : Lk} {a b : Value} (h : FLk w wr B q l a b) (hB : B < w.heap.size) (v : Int) : FLk w (wr.setCell ⟨w.heap.size + 1, 0, none⟩ (.int .i64 v)) B q ⟨v, l.held, l.waits⟩ a b := by
  have hs : wr.grownBy (wr.setCell ⟨w.heap.size + 1, 0, none⟩ (.int .i64 v)) (some (w.heap.size + 1)) := grownBy_set (grownBy_refl wr _) 0 _
  have k := h.own.set (g := w.heap.size + 1) (by omega) 0 (.int .i64 v)
  exact ⟨⟨heap_setCell_same _ _ _ _ _ _ h.box.row⟩, h.res.far hs (fun e => by simp at e), ⟨k.held, k.waits, k.ne⟩, h.rd.far hs (fun y hy e => by simp at e; omega), grown_in h.grown hs (by omega), h.hn, h.hm⟩

theorem FLk.appH {w wr w9 : World} {B q g cap : Nat} {l : Lk} {a b : Value} (x : Hd) (h : FLk w wr B q l a b) (hB : B < w.heap.size) (hl : l.held.length + 1 ≤ 100)
    (hown : w9.ownsRow (w.heap.size + 2) 27 4 (.slice (some ⟨g, 0, none⟩) (l.held.length + 1) cap) (l.held.length + 1) (l.held.flatMap hdE ++ [.int .i64 x.stamp, .int .i64 x.try_, .bool x.share, .bool x.firm])) (hg : wr.grownBy w9 a.ownBlock) (hat : a.ownBlock = some g ∨ g = wr.heap.size) :
    FLk w (w9.setCell ⟨w.heap.size + 1, 1, none⟩ (.slice (some ⟨g, 0, none⟩) (l.held.length + 1) cap)) B q ⟨l.slot, l.held ++ [x], l.waits⟩ (.slice (some ⟨g, 0, none⟩) (l.held.length + 1) cap) b := by
  have na : ∀ k, k < w.heap.size + 2 → some k ≠ a.ownBlock := fun k hk e => by have := (h.own.held.lt _ e.symm).1; omega
  have hs : w9.grownBy (w9.setCell ⟨w.heap.size + 1, 1, none⟩ (.slice (some ⟨g, 0, none⟩) (l.held.length + 1) cap)) (some (w.heap.size + 1)) := grownBy_set (grownBy_refl w9 _) 1 _
  have e1 : (l.held ++ [x]).flatMap hdE = l.held.flatMap hdE ++ [.int .i64 x.stamp, .int .i64 x.try_, .bool x.share, .bool x.firm] := by simp [List.flatMap_append, hdE]
  have e2 : (l.held ++ [x]).length = l.held.length + 1 := by simp
  have hown' : w9.ownsRow (w.heap.size + 2) 27 4 (.slice (some ⟨g, 0, none⟩) (l.held.length + 1) cap) (l.held ++ [x]).length ((l.held ++ [x]).flatMap hdE) := by rw [e1, e2]; exact hown
  have hne : some g ≠ b.ownBlock := fun e => by
    rcases hat with h1 | h1
    · rcases h.own.ne with h2 | h2
      · rw [h2] at h1; cases h1
      · exact h2 (h1.trans e)
    · have := (h.own.waits.lt _ e.symm).2; omega
  have hgw : w.grownBy w9 (some B) := ⟨hg.os.trans h.grown.os, hg.tape.trans h.grown.tape, hg.output.trans h.grown.output, Nat.le_trans h.grown.size hg.size, fun k hk hn => (hg.block k (Nat.lt_of_lt_of_le hk h.grown.size) (na k (by omega))).trans (h.grown.block k hk hn)⟩
  exact ⟨⟨heap_setCell_same _ _ _ _ _ _ (h.box.far hg (na _ (by omega))).row⟩, (h.res.far hg (na _ (by omega))).far hs (fun e => by simp at e), ⟨ownsRow_setCell_other hown' (fun e => by have := (hown.lt _ e).1; omega), ownsRow_setCell_other (h.own.waits.kept hg (ne_sym h.own.ne)) (fun e => by have := (h.own.waits.lt _ e).1; omega), .inr hne⟩, (h.rd.far hg (fun y hy => na y (by omega))).far hs (fun y hy e => by simp at e; omega), grown_in hgw hs (by omega), (by rw [e2]; exact hl), h.hm⟩
theorem FLk.appW {w wr w9 : World} {B q g cap : Nat} {l : Lk} {a b : Value} (x : Hd) (h : FLk w wr B q l a b) (hB : B < w.heap.size) (hl : l.waits.length + 1 ≤ 100)
    (hown : w9.ownsRow (w.heap.size + 2) 27 4 (.slice (some ⟨g, 0, none⟩) (l.waits.length + 1) cap) (l.waits.length + 1) (l.waits.flatMap hdE ++ [.int .i64 x.stamp, .int .i64 x.try_, .bool x.share, .bool x.firm])) (hg : wr.grownBy w9 b.ownBlock) (hat : b.ownBlock = some g ∨ g = wr.heap.size) :
    FLk w (w9.setCell ⟨w.heap.size + 1, 2, none⟩ (.slice (some ⟨g, 0, none⟩) (l.waits.length + 1) cap)) B q ⟨l.slot, l.held, l.waits ++ [x]⟩ a (.slice (some ⟨g, 0, none⟩) (l.waits.length + 1) cap) := by
  have na : ∀ k, k < w.heap.size + 2 → some k ≠ b.ownBlock := fun k hk e => by have := (h.own.waits.lt _ e.symm).1; omega
  have hs : w9.grownBy (w9.setCell ⟨w.heap.size + 1, 2, none⟩ (.slice (some ⟨g, 0, none⟩) (l.waits.length + 1) cap)) (some (w.heap.size + 1)) := grownBy_set (grownBy_refl w9 _) 2 _
  have e1 : (l.waits ++ [x]).flatMap hdE = l.waits.flatMap hdE ++ [.int .i64 x.stamp, .int .i64 x.try_, .bool x.share, .bool x.firm] := by simp [List.flatMap_append, hdE]
  have e2 : (l.waits ++ [x]).length = l.waits.length + 1 := by simp
  have hown' : w9.ownsRow (w.heap.size + 2) 27 4 (.slice (some ⟨g, 0, none⟩) (l.waits.length + 1) cap) (l.waits ++ [x]).length ((l.waits ++ [x]).flatMap hdE) := by rw [e1, e2]; exact hown
  have hne : a.ownBlock ≠ some g := fun e => by
    rcases hat with h1 | h1
    · rcases h.own.ne with h2 | h2
      · rw [h2] at e; cases e
      · exact h2 (e.trans h1.symm)
    · have := (h.own.held.lt _ e).2; omega
  have hgw : w.grownBy w9 (some B) := ⟨hg.os.trans h.grown.os, hg.tape.trans h.grown.tape, hg.output.trans h.grown.output, Nat.le_trans h.grown.size hg.size, fun k hk hn => (hg.block k (Nat.lt_of_lt_of_le hk h.grown.size) (na k (by omega))).trans (h.grown.block k hk hn)⟩
  exact ⟨⟨heap_setCell_same _ _ _ _ _ _ (h.box.far hg (na _ (by omega))).row⟩, (h.res.far hg (na _ (by omega))).far hs (fun e => by simp at e), ⟨ownsRow_setCell_other (h.own.held.kept hg h.own.ne) (fun e => by have := (h.own.held.lt _ e).1; omega), ownsRow_setCell_other hown' (fun e => by have := (hown.lt _ e).1; omega), .inr hne⟩, (h.rd.far hg (fun y hy => na y (by omega))).far hs (fun y hy e => by simp at e; omega), grown_in hgw hs (by omega), h.hn, (by rw [e2]; exact hl)⟩
theorem FLk.kept {w wr w' : World} {B q : Nat} {l : Lk} {a b : Value} (h : FLk w wr B q l a b) (hb : Below wr.heap.size wr w') : FLk w w' B q l a b :=
  ⟨h.box.kept hb, h.res.kept hb, h.own.kept hb, h.rd.kept hb, grownBy_below h.grown hb, h.hn, h.hm⟩
theorem FLk.allocK {w wr : World} {B q : Nat} {l : Lk} {a b : Value} {o : Obj} (h : FLk w wr B q l a b) : FLk w (wr.alloc o) B q l a b := h.kept ((Below.refl _ _).alloc (Nat.le_refl _) o)
theorem FLk.drewK {w wr : World} {B q : Nat} {l : Lk} {a b : Value} (h : FLk w wr B q l a b) : FLk w wr.drew B q l a b := h.kept ((Below.refl _ _).drew)
theorem FLk.pickAny {w wr : World} {B q : Nat} {l : Lk} {a b : Value} (h : FLk w wr B q l a b) (hB : B < w.heap.size) (hq : q ≤ 900000) (m : Int) (hm : 1 ≤ m) (hm' : m ≤ 1000000) :
    Calls Try.prog 40 #[.pointer (some ⟨B, 0, none⟩), .int .i64 m] wr fun e w' => ∃ k : Nat, e = .returned (.int .i64 (k : Int)) ∧ (k : Int) < m ∧ FLk w w' B (q + 1) l a b :=
  (pick_any B q m wr h.rd (by omega) hm').mono fun _ _ ⟨k, h1, h2, h3, h4, h5, _⟩ => by
    obtain ⟨n, rfl⟩ := Int.eq_ofNat_of_zero_le h2
    exact ⟨n, h1, h3 hm, h.box.far h5 (fun e => by simp at e; omega), h.res.far h5 (fun e => by simp at e; omega),
      ⟨h.own.held.kept h5 (.inr (fun e => by have := (h.own.held.lt _ e).1; omega)), h.own.waits.kept h5 (.inr (fun e => by have := (h.own.waits.lt _ e).1; omega)), h.own.ne⟩, h4, grownBy_trans h.grown h5, h.hn, h.hm⟩

set_option maxRecDepth 100000 in
set_option maxHeartbeats 4000000 in
theorem l72Lock_any (B p : Nat) (w : World) (hr : Rd w B p) (hp : p ≤ 800000) :
    Calls Try.prog 38 #[.pointer (some ⟨B, 0, none⟩)] w fun e w' => ∃ (l : Lk) (a b : Value) (q : Nat), e = .returned (lkV l a b) ∧ LkAt w' l a b ∧ l.held.length ≤ 100 ∧ l.waits.length ≤ 100 ∧ Rd w' B q ∧ q ≤ p + 100 ∧ w.grownBy w' (some B) ∧ (∀ k, a.ownBlock = some k → w.heap.size ≤ k) ∧ (∀ k, b.ownBlock = some k → w.heap.size ≤ k) := by
  have hBl := hr.lt
  have HRD := hide (hr.allocK (o := .cells #[.int .i64 0, .slice none 0 0, .slice none 0 0] 25))
  have HX := hide (Bx.made w 25 #[.int .i64 0, .slice none 0 0, .slice none 0 0])
  have HG := hide (World.grownBy_alloc w (.cells #[.int .i64 0, .slice none 0 0, .slice none 0 0] 25) (some B))
  clear hr
  go_enter Try.func38, Try.ntmps38
  go_wp2_with fail
  refine (pick_any B p 8 _ (unhide HRD) (by omega) (by omega)).mono ?_; rintro e w1 ⟨k1, rfl, a1, b1, r1, g1, z1⟩
  simp at z1
  have HD0 : Hid (DLk w (w1.alloc (.cells #[.int .i64 k1, .slice none 0 0, .slice none 0 0] 25)) B (p + 1) ⟨k1, [], []⟩ (.slice none 0 0) (.slice none 0 0)) :=
    ⟨by have := Bx.made w1 25 #[.int .i64 k1, .slice none 0 0, .slice none 0 0]; rwa [z1] at this, ((unhide HX).far g1 (fun e => by simp at e; omega)).allocK, ⟨World.ownsRow_nil _ _ _ _, World.ownsRow_nil _ _ _ _, .inl rfl⟩, r1.allocK, grownBy_trans (grownBy_trans (unhide HG) g1) (World.grownBy_alloc _ _ _), by simp, by simp⟩
  clear a1 b1 r1 g1 HRD HX HG
  go_wp2_with fail
  refine (pick_any B (p + 1) 8 _ (unhide HD0).rd (by omega) (by omega)).mono ?_; rintro e w2 ⟨k2, rfl, a2, b2, r2, g2, -⟩
  have HD := hide ((unhide HD0).pick hBl g2 r2)
  have b2' := b2 (by omega)
  obtain ⟨N, rfl⟩ := Int.eq_ofNat_of_zero_le a2
  clear b2 r2 g2 HD0 z1 a2
  go_wp2_with fail
  go_loopw [4] (fun i wr => ∃ (j : Nat) (l : Lk) (d0 d1 : Option Addr) (e0 e1 q : Nat), j ≤ N ∧ i = .int .i64 j ∧ DLk w wr B q l (.slice d0 l.held.length e0) (.slice d1 l.waits.length e1) ∧ q ≤ p + 2 + 6 * (N - j)) (fun i _ => (intOf i).toNat)
  case atStart => exact ⟨N, ⟨k1, [], []⟩, none, none, 0, 0, p + 1 + 1, Nat.le_refl _, rfl, unhide HD, by omega⟩
  case round =>
    obtain ⟨j, l, d0, d1, e0, e1, q, hj, rfl, hd, hq⟩ := hrel
    have HDR := hide hd
    clear hd HD
    by_cases hlt : 0 < j
    · have hlt' : (0 : Int) < (j : Int) := by omega
      obtain ⟨slot, H, W⟩ := l
      simp only at HDR
      go_wp2_with fail
      refine (pick_any B q 5 _ (unhide HDR).rd (by omega) (by omega)).mono ?_; rintro e w3 ⟨k3, rfl, a3, b3, r3, g3, -⟩
      have HD3 := hide ((unhide HDR).pick hBl g3 r3)
      have l3 := (unhide HD3).box.lt
      clear r3 g3 b3 a3 HDR
      cases t0 : (k3 == 0)
      · cases t1 : (k3 == 1)
        ·
          obtain ⟨q0, q1, q2⟩ := (unhide HD3).box.three
          obtain ⟨f0, f1, f2⟩ := (unhide HD3).box.free3
          go_wp2_with fail
          go_region_with (first
              | (go_at_call 16; refine (specAskI_any ⟨slot, H, W⟩ _ _ ⟨xs, xt, xh, xf⟩ _ (unhide HD4).own.at (Nat.le_trans (unhide HD4).hn (by omega)) (Nat.le_trans (unhide HD4).hm (by omega))).mono ?_; rintro e w5 ⟨af, bf, rf, rfl, hof, hqf, hb5⟩; have yx := (unhide HD4).box.kept hb5; obtain ⟨ya, yb, yc⟩ := yx.three; obtain ⟨yd, ye, yf⟩ := yx.free3; clear yx; have le := ask_40 ⟨slot, H, W⟩ ⟨xs, xt, xh, xf⟩; generalize askL ⟨slot, H, W⟩ ⟨xs, xt, xh, xf⟩ = FL at *; generalize askC ⟨slot, H, W⟩ ⟨xs, xt, xh, xf⟩ = FC at *; obtain ⟨c0, g0, c1, g1, rfl, rfl⟩ := hof.shape; obtain ⟨c2, g2, rfl⟩ := hqf.1.oa.slice; obtain ⟨slotF, HF, WF⟩ := FL; simp only [lkV]; have HOF := hide hof; have HBF := hide hb5; have HLF := hide le; clear hof hqf hb5 le)
              | (go_at_call 39; refine (l72Hold_any B (q + 1) _ (DLk.rd (by with_reducible (repeat (first | exact unhide HD3 | apply DLk.drewK | apply DLk.allocK)))) (by omega)).mono ?_; rintro e w4 ⟨x, rfl, r4, g4⟩; have HD4 := hide (DLk.pick (by with_reducible (repeat (first | exact unhide HD3 | apply DLk.drewK | apply DLk.allocK))) hBl g4 r4); obtain ⟨HD4a, HD4b, HD4c⟩ := (unhide HD4).box.three; obtain ⟨HD4d, HD4e, HD4f⟩ := (unhide HD4).box.free3; obtain ⟨xs, xt, xh, xf⟩ := x; simp only [hdV]; clear r4 g4))
          all_goals
            have hend := DLk.end3 (q0 := q) (unhide HD4) hBl (unhide HBF) (unhide HOF) (unhide HLF) (by omega)
            obtain ⟨l', d0', d1', e0', e1', q', hd', hq'⟩ := hend
            have HD9 := hide hd'
            clear hd'
            go_wp2_with fail
            go_roundw
            case rel => exact ⟨j - 1, l', d0', d1', e0', e1', q', by omega, by go_num, unhide HD9, by omega⟩
            case measure => simp [intOf]; omega
        ·
          obtain ⟨q0, q1, q2⟩ := (unhide HD3).box.three
          obtain ⟨f0, f1, f2⟩ := (unhide HD3).box.free3
          go_wp2_with fail
          go_region_with (first
              | (go_at_call 23; refine (specFreeI_any ⟨slot, H, W⟩ _ _ _ _ _ (unhide HD5).own.at (Nat.le_trans (unhide HD5).hn (by omega)) (Nat.le_trans (unhide HD5).hm (by omega))).mono ?_; rintro e w6 ⟨af, bf, rf, rfl, hof, hqf, hb5⟩; have yx := (unhide HD5).box.kept hb5; obtain ⟨ya, yb, yc⟩ := yx.three; obtain ⟨yd, ye, yf⟩ := yx.free3; clear yx; have le := fun s t => free_40 ⟨slot, H, W⟩ s t; obtain ⟨c0, g0, c1, g1, rfl, rfl⟩ := hof.shape; obtain ⟨c2, g2, rfl⟩ := hqf.1.oa.slice; simp only [lkV]; have HOF := hide hof; have HBF := hide hb5; have HLF := hide le; clear hof hqf hb5 le)
              | (go_at_call 40; have hh := HD4; clear hh; with_reducible refine (DLk.pickAny (unhide HD4) hBl (by omega) 7 (by omega) (by omega)).mono ?_; rintro e w5 ⟨k5, rfl, a5, b5, d5⟩; have v5 := wrap1 a5 b5 (by omega); have HD5 := hide d5; obtain ⟨HD5a, HD5b, HD5c⟩ := (unhide HD5).box.three; obtain ⟨HD5d, HD5e, HD5f⟩ := (unhide HD5).box.free3; clear d5 a5 b5)
              | (go_at_call 40; have hh := HD4; clear hh; with_reducible refine (DLk.pickAny (unhide HD4) hBl (by omega) 3 (by omega) (by omega)).mono ?_; rintro e w5 ⟨k5, rfl, a5, b5, d5⟩; have v5 := wrap1 a5 b5 (by omega); have HD5 := hide d5; obtain ⟨HD5a, HD5b, HD5c⟩ := (unhide HD5).box.three; obtain ⟨HD5d, HD5e, HD5f⟩ := (unhide HD5).box.free3; clear d5 a5 b5)
              | (go_at_call 40; with_reducible refine (DLk.pickAny (unhide HD3).drewK hBl (by omega) 7 (by omega) (by omega)).mono ?_; rintro e w4 ⟨k4, rfl, a4, b4, d4⟩; have v4 := wrap1 a4 b4 (by omega); have HD4 := hide d4; obtain ⟨HD4a, HD4b, HD4c⟩ := (unhide HD4).box.three; obtain ⟨HD4d, HD4e, HD4f⟩ := (unhide HD4).box.free3; clear d4 a4 b4)
              | (go_at_call 40; with_reducible refine (DLk.pickAny (unhide HD3).drewK hBl (by omega) 3 (by omega) (by omega)).mono ?_; rintro e w4 ⟨k4, rfl, a4, b4, d4⟩; have v4 := wrap1 a4 b4 (by omega); have HD4 := hide d4; obtain ⟨HD4a, HD4b, HD4c⟩ := (unhide HD4).box.three; obtain ⟨HD4d, HD4e, HD4f⟩ := (unhide HD4).box.free3; clear d4 a4 b4))
          all_goals
            have hend := DLk.end3 (q0 := q) (unhide HD5) hBl (unhide HBF) (unhide HOF) (unhide HLF _ _) (by omega)
            obtain ⟨l', d0', d1', e0', e1', q', hd', hq'⟩ := hend
            have HD9 := hide hd'
            clear hd'
            go_wp2_with fail
            go_roundw
            case rel => exact ⟨j - 1, l', d0', d1', e0', e1', q', by omega, by go_num, unhide HD9, by omega⟩
            case measure => simp [intOf]; omega
      ·
        obtain ⟨q0, q1, q2⟩ := (unhide HD3).box.three
        obtain ⟨f0, f1, f2⟩ := (unhide HD3).box.free3
        by_cases hH : 0 < H.length
        case neg =>
          have hH' : ¬ (0 : Int) < (H.length : Int) := by omega
          go_wp2_with fail
          go_roundw
          case rel => exact ⟨j - 1, ⟨slot, H, W⟩, d0, d1, e0, e1, q + 1, by omega, by go_num, unhide HD3, by omega⟩
          case measure => simp [intOf]; omega
        have hH' : (0 : Int) < (H.length : Int) := by omega
        have h40 : H.length ≤ 40 := (unhide HD3).hn
        obtain ⟨bh, oh, rfl⟩ := (unhide HD3).own.at.held.some_of hH
        go_wp2_with fail
        go_cut [5] (fun s wz => HdCut w B (q + 1 + 1) ⟨slot, H, W⟩ (.slice (some ⟨bh, oh, none⟩) H.length e0) (.slice d1 W.length e1) s wz)
        case first =>
          clear q0 q1 q2 f0 f1 f2
          refine wp_region_held_drew (S := fun w' => Bx w' (w.heap.size + 1) 25 #[.int .i64 slot, .slice (some ⟨bh, oh, none⟩) H.length e0, .slice d1 W.length e1] ∧ RowAt hdE w' (.slice (some ⟨bh, oh, none⟩) H.length e0) H) (by kernel_rfl) ⟨⟨(unhide HD3).box.row⟩, (unhide HD3).drewK.own.at.held⟩ (fun hHeld => ?_)
          refine wpAnyH_take (i := 0) (v := ?v1) rfl (by kernel_rfl) (by kernel_rfl) (by kernel_rfl) (fun _ _ _ h => h) (Or.inl ⟨by rfl, ?h1⟩) (by assumption) ?_
          case h1 => (intro w0 hSw; obtain ⟨s0, s1, s2⟩ := hSw.1.three; go_simp; try (with_reducible rfl))
          try simp only [Act.put]
          refine wpAnyH_take (i := 1) (v := ?v2) rfl (by kernel_rfl) (by kernel_rfl) (by kernel_rfl) (fun _ _ _ h => h) (Or.inl ⟨by rfl, ?h2⟩) (by assumption) ?_
          case h2 => (intro w0 hSw; obtain ⟨s0, s1, s2⟩ := hSw.1.three; go_simp; try (with_reducible rfl))
          try simp only [Act.put]
          refine wpAnyH_take (i := 2) (v := ?v3) rfl (by kernel_rfl) (by kernel_rfl) (by kernel_rfl) (fun _ _ _ h => h) (Or.inl ⟨by rfl, ?h3⟩) (by assumption) ?_
          case h3 => (intro w0 hSw; obtain ⟨s0, s1, s2⟩ := hSw.1.three; go_simp; try (with_reducible rfl))
          try simp only [Act.put]
          refine wpAnyH_take (i := 3) (v := ?v4) rfl (by kernel_rfl) (by kernel_rfl) (by kernel_rfl) (fun _ _ _ h => h) (Or.inl ⟨by rfl, ?h4⟩) (by assumption) ?_
          case h4 => (intro w0 hSw; obtain ⟨s0, s1, s2⟩ := hSw.1.three; go_simp; try (with_reducible rfl))
          try simp only [Act.put]
          refine wpAnyH_take (i := 4) (v := ?v5) rfl (by kernel_rfl) (by kernel_rfl) (by kernel_rfl) (fun _ _ _ h => h) (Or.inl ⟨by rfl, ?h5⟩) (by assumption) ?_
          case h5 => (intro w0 hSw; obtain ⟨s0, s1, s2⟩ := hSw.1.three; go_simp; try (with_reducible rfl))
          try simp only [Act.put]
          refine wpAnyH_take (i := 5) (v := ?v6) rfl (by kernel_rfl) (by kernel_rfl) (by kernel_rfl) (fun _ _ _ h => h) (Or.inl ⟨by rfl, ?h6⟩) (by assumption) ?_
          case h6 => (intro w0 hSw; obtain ⟨s0, s1, s2⟩ := hSw.1.three; go_simp; try (with_reducible rfl))
          try simp only [Act.put]
          refine wpAnyH_ready (rs := [6, 9]) (by kernel_rfl) (by simp) ?_
          refine AllReadyH.cons rfl (fun K hK => ?_) (AllReadyH.cons rfl (fun K hK => ?_) AllReadyH.nil)
          ·
            go_simp
            go_at_call 40
            refine (DLk.pickAnyG (unhide HD3).drewK hBl (by omega) (H.length : Int) (by omega) (by omega)).mono ?_; rintro e w4 ⟨Kx, rfl, b4, d4, g4⟩
            have HD4 := hide d4
            have hKx : Kx < H.length := by omega
            have l4 := g4.size
            (try simp at l4)
            clear d4 g4
            try go_wp2_with fail
            clear hHeld
            refine hK.out _ _ ⟨DLk.box (unhide HD4), (DLk.own (unhide HD4)).at.held⟩ (fun hHeld => ?_)
            clear hK K
            have hk0 : (0 : Int) ≤ (Kx : Int) := by omega
            refine wpAnyH_take (i := 7) (v := ?v7) rfl (by kernel_rfl) (by kernel_rfl) (by kernel_rfl) (fun _ _ _ h => h) (Or.inl ⟨by rfl, ?h7⟩) (by assumption) ?_
            case h7 => (intro w0 hSw; obtain ⟨s0, s1, s2⟩ := hSw.1.three; go_simp; try (with_reducible rfl))
            try simp only [Act.put]
            refine wpAnyH_take (i := 8) (v := ?v8) rfl (by kernel_rfl) (by kernel_rfl) (by kernel_rfl) (fun _ _ _ h => h) (Or.inl ⟨by rfl, ?h8⟩) (by assumption) ?_
            case h8 => (intro w0 hSw; obtain ⟨s0, s1, s2⟩ := hSw.1.three; obtain ⟨t0', t1', t2', t3'⟩ := hd_cells hSw.2 (i := Kx) hKx; go_simp; try (with_reducible rfl))
            try simp only [Act.put]
            refine wpAnyH_ready (rs := [9]) (by kernel_rfl) (by simp) ?_
            refine AllReadyH.cons rfl (fun K hK => ?_) AllReadyH.nil
            go_simp
            try go_wp2_with fail
            clear hHeld
            refine hK.out _ _ ⟨DLk.box (unhide HD4).allocK, (DLk.own (unhide HD4).allocK).at.held⟩ (fun hHeld => ?_)
            clear hK K
            refine wpAnyH_ready (rs := [10]) (by kernel_rfl) (by simp) ?_
            refine AllReadyH.cons rfl (fun K hK => ?_) AllReadyH.nil
            go_simp
            try go_wp2_with fail
            clear hHeld
            refine hK.out _ _ ⟨DLk.box (unhide HD4).allocK, (DLk.own (unhide HD4).allocK).at.held⟩ (fun hHeld => ?_)
            clear hK K
            refine wpAnyH_done (by kernel_rfl) ?_ _
            try go_wp2_with fail
            go_meet
            case rel => exact hdCutNew (unhide HD4)
          ·
            go_simp
            try go_wp2_with fail
            clear hHeld
            refine hK.out _ _ ⟨DLk.box (unhide HD3).drewK.allocK, (DLk.own (unhide HD3).drewK.allocK).at.held⟩ (fun hHeld => ?_)
            clear hK K
            refine wpAnyH_ready (rs := [6]) (by kernel_rfl) (by simp) ?_
            refine AllReadyH.cons rfl (fun K hK => ?_) AllReadyH.nil
            go_simp
            go_at_call 40
            refine (DLk.pickAnyG (unhide HD3).drewK.allocK hBl (by omega) (H.length : Int) (by omega) (by omega)).mono ?_; rintro e w4 ⟨Kx, rfl, b4, d4, g4⟩
            have HZ : Hid (Bx w4 w3.heap.size 27 #[.int .i64 0, .int .i64 0, .bool false, .bool false]) := ((Bx.made w3.drew 27 #[.int .i64 0, .int .i64 0, .bool false, .bool false]).far g4 (fun e => by simp at e; omega))
            have HD4 := hide d4
            have hKx : Kx < H.length := by omega
            have l4 := g4.size
            (try simp at l4)
            clear d4 g4
            try go_wp2_with fail
            clear hHeld
            refine hK.out _ _ ⟨DLk.box (unhide HD4), (DLk.own (unhide HD4)).at.held⟩ (fun hHeld => ?_)
            clear hK K
            have hk0 : (0 : Int) ≤ (Kx : Int) := by omega
            refine wpAnyH_take (i := 7) (v := ?v9) rfl (by kernel_rfl) (by kernel_rfl) (by kernel_rfl) (fun _ _ _ h => h) (Or.inl ⟨by rfl, ?h9⟩) (by assumption) ?_
            case h9 => (intro w0 hSw; obtain ⟨s0, s1, s2⟩ := hSw.1.three; go_simp; try (with_reducible rfl))
            try simp only [Act.put]
            refine wpAnyH_take (i := 8) (v := ?v10) rfl (by kernel_rfl) (by kernel_rfl) (by kernel_rfl) (fun _ _ _ h => h) (Or.inl ⟨by rfl, ?h10⟩) (by assumption) ?_
            case h10 => (intro w0 hSw; obtain ⟨s0, s1, s2⟩ := hSw.1.three; obtain ⟨t0', t1', t2', t3'⟩ := hd_cells hSw.2 (i := Kx) hKx; go_simp; try (with_reducible rfl))
            try simp only [Act.put]
            refine wpAnyH_ready (rs := [10]) (by kernel_rfl) (by simp) ?_
            refine AllReadyH.cons rfl (fun K hK => ?_) AllReadyH.nil
            have lz := (unhide HZ).lt
            have o1 : ((.slice (some ⟨bh, oh, none⟩) H.length e0) : Value).ownBlock ≠ some w3.heap.size := fun e => by have := ((unhide HD3).own.held.lt _ e).2; omega
            have o2 : ((.slice d1 W.length e1) : Value).ownBlock ≠ some w3.heap.size := fun e => by have := ((unhide HD3).own.waits.lt _ e).2; omega
            have HCU := hide (fun xs xt xh xf => hdCutOld (xs := xs) (xt := xt) (xh := xh) (xf := xf) (unhide HD4) hBl (unhide HZ) (by omega) o1 o2)
            obtain ⟨z0, z1, z2, z3⟩ := (unhide HZ).four
            have z4 := (unhide HZ).free 0
            have z5 := (unhide HZ).free 1
            have z6 := (unhide HZ).free 2
            have z7 := (unhide HZ).free 3
            go_simp
            try go_wp2_with fail
            clear hHeld
            refine hK.out _ _ ?_ (fun hHeld => ?_)
            · obtain ⟨g, x, h1, h2, h3, h4⟩ := unhide HCU _ _ _ _; exact ⟨h4.box, h4.own.at.held⟩
            clear hK K
            refine wpAnyH_done (by kernel_rfl) ?_ _
            try go_wp2_with fail
            go_meet
            case rel => exact unhide HCU _ _ _ _
        case rest =>
          rename World => w5
          obtain ⟨gh, x, rfl, hbx, hgh, hd5⟩ := hcut
          obtain ⟨xs, xt, xh, xf⟩ := x
          have HD5 := hide hd5
          obtain ⟨p0, p1, p2, p3⟩ := hbx.four
          clear q0 q1 q2 f0 f1 f2 hd5 hbx
          obtain ⟨q0, q1, q2⟩ := (unhide HD5).box.three
          obtain ⟨f0, f1, f2⟩ := (unhide HD5).box.free3
          go_wp2_with fail
          refine (specFirm_any ⟨slot, H, W⟩ _ _ _ _ _ (unhide HD5).own.at (Nat.le_trans (unhide HD5).hn (by omega)) (Nat.le_trans (unhide HD5).hm (by omega))).mono ?_; rintro e w6 ⟨af, bf, rfl, hof, hb6⟩
          have le := firm_40 ⟨slot, H, W⟩ xs xt
          generalize firmL ⟨slot, H, W⟩ xs xt = FL at *
          generalize firmC ⟨slot, H, W⟩ xs xt = FC at *
          obtain ⟨c0, g0, c1, g1, rfl, rfl⟩ := hof.shape
          obtain ⟨slotF, HF, WF⟩ := FL
          simp only [lkV]
          have hend := DLk.end3 (q0 := q) (unhide HD5) hBl hb6 hof le (by omega)
          obtain ⟨l', d0', d1', e0', e1', q', hd', hq'⟩ := hend
          have HD9 := hide hd'
          have yx := (unhide HD5).box.kept hb6
          clear q0 q1 q2 f0 f1 f2 hof hb6 hd'
          obtain ⟨q0, q1, q2⟩ := yx.three
          obtain ⟨f0, f1, f2⟩ := yx.free3
          clear yx
          go_wp2_with fail
          go_roundw
          case rel => exact ⟨j - 1, l', d0', d1', e0', e1', q', by omega, by go_num, unhide HD9, by omega⟩
          case measure => simp [intOf]; omega
    ·
      obtain ⟨slot, H, W⟩ := l
      simp only at HDR
      go_wp2_with fail
      refine (DLk.pickAny (unhide HDR) hBl (by omega) 14 (by omega) (by omega)).mono ?_; rintro e w7 ⟨k7, rfl, a7, b7, d7⟩
      have HD7 := hide d7
      have l7 := d7.box.lt
      clear d7 a7 b7 HDR
      cases t0 : (k7 == 0)
      · cases t1 : (k7 == 1)
        · cases t2 : (k7 == 2)
          · cases t3 : (k7 == 3)
            ·
              have HF := hide (unhide HD7).f
              obtain ⟨q0, q1, q2⟩ := (unhide HF).box.three
              obtain ⟨r0, r1, r2⟩ := (unhide HF).res.three
              obtain ⟨s0, s1, s2⟩ := (unhide HF).res.free3
              go_wp2_with fail
              obtain ⟨y1, y2, y3, y4, y5, y6⟩ := (unhide HF).fin hBl
              refine bodyPost_ret (results_cell_row rfl _ _ w.heap.size _ _ _ _ rfl y1 Try.underlying25 rfl (by kernel_rfl)) rfl ?_
              first | exact ⟨_, _, _, rfl, y2, (unhide HF).hn, (unhide HF).hm, _, y3, by omega, y4, y5, y6⟩ | exact ⟨_, _, _, _, rfl, y2, (unhide HF).hn, (unhide HF).hm, y3, by omega, y4, y5, y6⟩
            ·
              have HF0 := hide (unhide HD7).f
              have h40 : H.length ≤ 40 := (unhide HD7).hn
              have w40 : W.length ≤ 40 := (unhide HD7).hm
              obtain ⟨i0, hi, hz0, hz1, hz2⟩ := info_parts Try.infoHd
              go_wp2_with fail
              go_loopw [6] (fun i wr => ∃ (m q' : Nat) (W' : List Hd) (d1' : Option Addr) (e1' : Nat), i = .int .i64 m ∧ m ≤ 18 ∧ FLk w wr B q' ⟨slot, H, W'⟩ (.slice d0 H.length e0) (.slice d1' W'.length e1') ∧ W'.length ≤ 40 + m ∧ q' ≤ q + 1 + m) (fun i _ => 20 - (intOf i).toNat)
              case atStart => exact ⟨0, q + 1, W, d1, e1, rfl, by omega, unhide HF0, by omega, by omega⟩
              case round =>
                obtain ⟨m, q', W', d1', e1', rfl, hm18, hf, hwl, hq'⟩ := hrel
                have HFR := hide hf
                have lr := hf.box.lt
                clear hf HF0
                go_wp2_with fail
                refine wp_region_held_drew (S := fun w' => Bx w' (w.heap.size + 1) 25 #[.int .i64 slot, .slice d0 H.length e0, .slice d1' W'.length e1']) (by kernel_rfl) ⟨(unhide HFR).box.row⟩ (fun hHeld => ?_)
                refine wpAnyH_take (i := 0) (v := ?u1) rfl (by kernel_rfl) (by kernel_rfl) (by kernel_rfl) (fun _ _ _ h => h) (Or.inl ⟨by rfl, ?k1⟩) (by assumption) ?_
                case k1 => (intro w0 hSw; obtain ⟨x0, x1, x2⟩ := hSw.three; go_simp; try (with_reducible rfl))
                try simp only [Act.put]
                refine wpAnyH_take (i := 1) (v := ?u2) rfl (by kernel_rfl) (by kernel_rfl) (by kernel_rfl) (fun _ _ _ h => h) (Or.inl ⟨by rfl, ?k2⟩) (by assumption) ?_
                case k2 => (intro w0 hSw; obtain ⟨x0, x1, x2⟩ := hSw.three; go_simp; try (with_reducible rfl))
                try simp only [Act.put]
                refine wpAnyH_take (i := 4) (v := ?u3) rfl (by kernel_rfl) (by kernel_rfl) (by kernel_rfl) (fun _ _ _ h => h) (Or.inl ⟨by rfl, ?k3⟩) (by assumption) ?_
                case k3 => (intro w0 hSw; obtain ⟨x0, x1, x2⟩ := hSw.three; go_simp; try (with_reducible rfl))
                try simp only [Act.put]
                refine wpAnyH_take (i := 5) (v := ?u4) rfl (by kernel_rfl) (by kernel_rfl) (by kernel_rfl) (fun _ _ _ h => h) (Or.inl ⟨by rfl, ?k4⟩) (by assumption) ?_
                case k4 => (intro w0 hSw; obtain ⟨x0, x1, x2⟩ := hSw.three; go_simp; try (with_reducible rfl))
                try simp only [Act.put]
                refine wpAnyH_take (i := 6) (v := ?u5) rfl (by kernel_rfl) (by kernel_rfl) (by kernel_rfl) (fun _ _ _ h => h) (Or.inl ⟨by rfl, ?k5⟩) (by assumption) ?_
                case k5 => (intro w0 hSw; obtain ⟨x0, x1, x2⟩ := hSw.three; go_simp; try (with_reducible rfl))
                try simp only [Act.put]
                refine wpAnyH_ready (rs := [2]) (by kernel_rfl) (by simp) ?_
                refine AllReadyH.cons rfl (fun K hK => ?_) AllReadyH.nil
                go_simp
                go_at_call 40
                refine (FLk.pickAny (unhide HFR).drewK hBl (by omega) 2 (by omega) (by omega)).mono ?_; rintro e w8 ⟨kx, rfl, b8, f8⟩
                have HF8 := hide f8
                have l8 := f8.box.lt
                clear f8 HFR lr
                try go_wp2_with fail
                clear hHeld
                refine hK.out _ _ (unhide HF8).box (fun hHeld => ?_)
                clear hK K
                have v1 : IntKind.i64.wrap (16 + (kx : Int)) = 16 + (kx : Int) := by rw [IntKind.wrap_i64]; omega
                have v2 : IntKind.i64.wrap (16 + (kx : Int) - (H.length : Int)) = 16 + (kx : Int) - (H.length : Int) := by rw [IntKind.wrap_i64]; omega
                refine wpAnyH_take (i := 3) (v := ?u6) rfl (by kernel_rfl) (by kernel_rfl) (by kernel_rfl) (fun _ _ _ h => h) (Or.inl ⟨by rfl, ?k6⟩) (by assumption) ?_
                case k6 => (intro w0 hSw; obtain ⟨x0, x1, x2⟩ := hSw.three; go_simp; try (with_reducible rfl))
                try simp only [Act.put]
                refine wpAnyH_take (i := 7) (v := ?u7) rfl (by kernel_rfl) (by kernel_rfl) (by kernel_rfl) (fun _ _ _ h => h) (Or.inl ⟨by rfl, ?k7⟩) (by assumption) ?_
                case k7 => (intro w0 hSw; obtain ⟨x0, x1, x2⟩ := hSw.three; go_simp; try (with_reducible rfl))
                try simp only [Act.put]
                refine wpAnyH_take (i := 8) (v := ?u8) rfl (by kernel_rfl) (by kernel_rfl) (by kernel_rfl) (fun _ _ _ h => h) (Or.inl ⟨by rfl, ?k8⟩) (by assumption) ?_
                case k8 => (intro w0 hSw; obtain ⟨x0, x1, x2⟩ := hSw.three; go_simp; try (with_reducible rfl))
                try simp only [Act.put]
                refine wpAnyH_done (by kernel_rfl) ?_ _
                clear hHeld
                by_cases hlt2 : (m : Int) < 16 + (kx : Int) - (H.length : Int)
                ·
                  have v3 : IntKind.i64.wrap (20 + (m : Int)) = 20 + (m : Int) := by rw [IntKind.wrap_i64]; omega
                  have hA : FLk w (w8.alloc (.cells #[.int .i64 (20 + (m : Int)), .int .i64 1, .bool false, .bool false] 27)) B (q' + 1) ⟨slot, H, W'⟩ (.slice d0 H.length e0) (.slice d1' W'.length e1') := (unhide HF8).allocK
                  have HAPP := hide (fun (ga cp : Nat) (w9 : World) h1 h2 h3 => FLk.appW (w9 := w9) (g := ga) (cap := cp) ⟨20 + (m : Int), 1, false, false⟩ hA hBl (by show W'.length + 1 ≤ 100; omega) h1 h2 h3)
                  have HYB := hide (fun (w9 : World) (h2 : (w8.alloc (.cells #[.int .i64 (20 + (m : Int)), .int .i64 1, .bool false, .bool false] 27)).grownBy w9 ((.slice d1' W'.length e1') : Value).ownBlock) => hA.box.far h2 (fun e => by have := (hA.own.waits.lt _ e.symm).1; omega))
                  clear hA
                  obtain ⟨q0, q1, q2⟩ := (unhide HF8).box.three
                  obtain ⟨f0, f1, f2⟩ := (unhide HF8).box.free3
                  go_wp2_with (at_builtin; refine wpList_append_lies _ rfl _ _ 23 rfl (w.heap.size + 2) 27 i0 (.agg #[.int .i64 0, .int .i64 0, .bool false, .bool false]) 4 24 Try.underlying23 hi hz0 hz1 hz2 rfl (by decide) (.slice d1' W'.length e1') W'.length (W'.flatMap hdE) rfl ((unhide HF8).own.waits.alloc _) ⟨w8.heap.size, 0, none⟩ 1 1 [.int .i64 (20 + (m : Int)), .int .i64 1, .bool false, .bool false] rfl rfl (World.news_of_block (heap_alloc_new _ _)) (by simp [Value.oneCell']) (by decide) (by unfold maxLen; omega) (by omega) (by simp; omega) (w8.heap.size + 1) (by simp) ?_; intro ga cp w9 hown9 hg9 hat9 hlt9; have HF9 := hide (unhide HAPP ga cp w9 hown9 hg9 (by simpa using hat9)); have y9 := unhide HYB w9 hg9; clear q0 q1 q2 f0 f1 f2; obtain ⟨q0, q1, q2⟩ := y9.three; obtain ⟨f0, f1, f2⟩ := y9.free3; clear y9 hown9 hg9 hat9)
                  go_roundw
                  case rel => exact ⟨m + 1, q' + 1, W' ++ [⟨20 + (m : Int), 1, false, false⟩], some ⟨ga, 0, none⟩, cp, by go_num, by omega, by rw [show (W' ++ [(⟨20 + (m : Int), 1, false, false⟩ : Hd)]).length = W'.length + 1 by simp]; exact unhide HF9, by simp; omega, by omega⟩
                  case measure => simp [intOf]; omega
                ·
                  have HF := HF8
                  obtain ⟨q0, q1, q2⟩ := (unhide HF).box.three
                  obtain ⟨r0, r1, r2⟩ := (unhide HF).res.three
                  obtain ⟨s0, s1, s2⟩ := (unhide HF).res.free3
                  go_wp2_with fail
                  obtain ⟨y1, y2, y3, y4, y5, y6⟩ := (unhide HF).fin hBl
                  refine bodyPost_ret (results_cell_row rfl _ _ w.heap.size _ _ _ _ rfl y1 Try.underlying25 rfl (by kernel_rfl)) rfl ?_
                  first | exact ⟨_, _, _, rfl, y2, (unhide HF).hn, (unhide HF).hm, _, y3, by omega, y4, y5, y6⟩ | exact ⟨_, _, _, _, rfl, y2, (unhide HF).hn, (unhide HF).hm, y3, by omega, y4, y5, y6⟩
          ·
            obtain ⟨q0, q1, q2⟩ := (unhide HD7).box.three
            obtain ⟨f0, f1, f2⟩ := (unhide HD7).box.free3
            have h40 : H.length ≤ 40 := (unhide HD7).hn
            have w40 : W.length ≤ 40 := (unhide HD7).hm
            obtain ⟨i0, hi, hz0, hz1, hz2⟩ := info_parts Try.infoHd
            go_wp2_with fail
            refine wp_region_held_drew (S := fun _ => True) (by kernel_rfl) trivial (fun hHeld => ?_)
            refine wpAnyH_take (i := 0) (v := ?u9) rfl (by kernel_rfl) (by kernel_rfl) (by kernel_rfl) (fun _ _ _ h => h) (Or.inl ⟨by rfl, ?k9⟩) (by assumption) ?_
            case k9 => (intro w0 hSw; go_simp; try (with_reducible rfl))
            try simp only [Act.put]
            refine wpAnyH_take (i := 2) (v := ?u10) rfl (by kernel_rfl) (by kernel_rfl) (by kernel_rfl) (fun _ _ _ h => h) (Or.inl ⟨by rfl, ?k10⟩) (by assumption) ?_
            case k10 => (intro w0 hSw; go_simp; try (with_reducible rfl))
            try simp only [Act.put]
            refine wpAnyH_ready (rs := [1, 3]) (by kernel_rfl) (by simp) ?_
            refine AllReadyH.cons rfl (fun K hK => ?_) (AllReadyH.cons rfl (fun K hK => ?_) AllReadyH.nil)
            ·
              go_simp
              try go_wp2_with fail
              clear hHeld
              refine hK.out _ _ trivial (fun hHeld => ?_)
              clear hK K
              refine wpAnyH_ready (rs := [3]) (by kernel_rfl) (by simp) ?_
              refine AllReadyH.cons rfl (fun K hK => ?_) AllReadyH.nil
              go_simp
              go_at_call 39
              refine (l72Hold_any B (q + 1) _ (unhide HD7).drewK.rd (by omega)).mono ?_; rintro e w8 ⟨x, rfl, r8, g8⟩
              have HD8 := hide ((unhide HD7).drewK.pick hBl g8 r8)
              have l8 := (unhide HD8).box.lt
              obtain ⟨xs, xt, xh, xf⟩ := x
              simp only [hdV]
              clear r8 g8 q0 q1 q2 f0 f1 f2
              obtain ⟨q0, q1, q2⟩ := (unhide HD8).box.three
              obtain ⟨f0, f1, f2⟩ := (unhide HD8).box.free3
              try go_wp2_with fail
              clear hHeld
              refine hK.out _ _ trivial (fun hHeld => ?_)
              clear hK K
              refine wpAnyH_ready (rs := [4]) (by kernel_rfl) (by simp) ?_
              refine AllReadyH.cons rfl (fun K hK => ?_) AllReadyH.nil
              go_simp
              try go_wp2_with fail
              clear hHeld
              refine hK.out _ _ trivial (fun hHeld => ?_)
              clear hK K
              refine wpAnyH_ready (rs := [5]) (by kernel_rfl) (by simp) ?_
              refine AllReadyH.cons rfl (fun K hK => ?_) AllReadyH.nil
              refine step_append_lies _ (by rfl) (.tmp 85) (.tmp 88) 23 (by rfl) (w.heap.size + 2) 27 i0 (.agg #[.int .i64 0, .int .i64 0, .bool false, .bool false]) 4 24 Try.underlying23 hi hz0 hz1 hz2 rfl (by decide) (.slice d1 W.length e1) W.length (W.flatMap hdE) (by rfl) ((unhide HD8).own.waits.alloc _) ⟨w8.heap.size, 0, none⟩ 1 1 [.int .i64 xs, .int .i64 xt, .bool xh, .bool xf] (by rfl) rfl (World.news_of_block (heap_alloc_new _ _)) (by simp [Value.oneCell']) (by decide) (by unfold maxLen; omega) (by omega) (by simp; omega) (w8.heap.size + 1) (by simp) ?_
              intro ga cp w9 hown9 hg9 hat9 hlt9
              have HF := hide (FLk.appW ⟨xs, xt, xh, xf⟩ ((unhide HD8).f.allocK (o := .cells #[.int .i64 xs, .int .i64 xt, .bool xh, .bool xf] 27)) hBl (by simp only; omega) hown9 hg9 (by simpa using hat9))
              have y9 := ((unhide HD8).allocK (o := .cells #[.int .i64 xs, .int .i64 xt, .bool xh, .bool xf] 27)).box.far hg9 (fun e => by have := ((unhide HD8).own.waits.lt _ e.symm).1; omega)
              clear q0 q1 q2 f0 f1 f2
              obtain ⟨q0, q1, q2⟩ := y9.three
              obtain ⟨f0, f1, f2⟩ := y9.free3
              clear y9 hown9 hg9 hat9
              try go_wp2_with fail
              clear hHeld
              refine hK.out _ _ trivial (fun hHeld => ?_)
              clear hK K
              refine wpAnyH_take (i := 6) (v := ?u11) rfl (by kernel_rfl) (by kernel_rfl) (by kernel_rfl) (fun _ _ _ h => h) (Or.inl ⟨by rfl, ?k11⟩) (by assumption) ?_
              case k11 => (intro w0 hSw; go_simp; try (with_reducible rfl))
              try simp only [Act.put]
              refine wpAnyH_ready (rs := [7]) (by kernel_rfl) (by simp) ?_
              refine AllReadyH.cons rfl (fun K hK => ?_) AllReadyH.nil
              go_simp
              try go_wp2_with fail
              clear hHeld
              refine hK.out _ _ trivial (fun hHeld => ?_)
              clear hK K
              refine wpAnyH_done (by kernel_rfl) ?_ _
              obtain ⟨r0, r1, r2⟩ := (unhide HF).res.three
              obtain ⟨s0, s1, s2⟩ := (unhide HF).res.free3
              obtain ⟨y1, y2, y3, y4, y5, y6⟩ := (unhide HF).fin hBl
              clear q0 q1 q2
              obtain ⟨q0, q1, q2⟩ := (unhide HF).box.three
              go_wp2_with fail
              refine bodyPost_ret (results_cell_row rfl _ _ w.heap.size _ _ _ _ rfl y1 Try.underlying25 rfl (by kernel_rfl)) rfl ?_
              first | exact ⟨_, _, _, rfl, y2, (unhide HF).hn, (unhide HF).hm, _, y3, by omega, y4, y5, y6⟩ | exact ⟨_, _, _, _, rfl, y2, (unhide HF).hn, (unhide HF).hm, y3, by omega, y4, y5, y6⟩
            ·
              go_simp
              go_at_call 39
              refine (l72Hold_any B (q + 1) _ (unhide HD7).drewK.rd (by omega)).mono ?_; rintro e w8 ⟨x, rfl, r8, g8⟩
              have HD8 := hide ((unhide HD7).drewK.pick hBl g8 r8)
              have l8 := (unhide HD8).box.lt
              obtain ⟨xs, xt, xh, xf⟩ := x
              simp only [hdV]
              clear r8 g8 q0 q1 q2 f0 f1 f2
              obtain ⟨q0, q1, q2⟩ := (unhide HD8).box.three
              obtain ⟨f0, f1, f2⟩ := (unhide HD8).box.free3
              try go_wp2_with fail
              clear hHeld
              refine hK.out _ _ trivial (fun hHeld => ?_)
              clear hK K
              refine wpAnyH_ready (rs := [1, 4]) (by kernel_rfl) (by simp) ?_
              refine AllReadyH.cons rfl (fun K hK => ?_) (AllReadyH.cons rfl (fun K hK => ?_) AllReadyH.nil)
              ·
                go_simp
                try go_wp2_with fail
                clear hHeld
                refine hK.out _ _ trivial (fun hHeld => ?_)
                clear hK K
                refine wpAnyH_ready (rs := [4]) (by kernel_rfl) (by simp) ?_
                refine AllReadyH.cons rfl (fun K hK => ?_) AllReadyH.nil
                go_simp
                try go_wp2_with fail
                clear hHeld
                refine hK.out _ _ trivial (fun hHeld => ?_)
                clear hK K
                refine wpAnyH_ready (rs := [5]) (by kernel_rfl) (by simp) ?_
                refine AllReadyH.cons rfl (fun K hK => ?_) AllReadyH.nil
                refine step_append_lies _ (by rfl) (.tmp 85) (.tmp 88) 23 (by rfl) (w.heap.size + 2) 27 i0 (.agg #[.int .i64 0, .int .i64 0, .bool false, .bool false]) 4 24 Try.underlying23 hi hz0 hz1 hz2 rfl (by decide) (.slice d1 W.length e1) W.length (W.flatMap hdE) (by rfl) ((unhide HD8).own.waits.alloc _) ⟨w8.heap.size, 0, none⟩ 1 1 [.int .i64 xs, .int .i64 xt, .bool xh, .bool xf] (by rfl) rfl (World.news_of_block (heap_alloc_new _ _)) (by simp [Value.oneCell']) (by decide) (by unfold maxLen; omega) (by omega) (by simp; omega) (w8.heap.size + 1) (by simp) ?_
                intro ga cp w9 hown9 hg9 hat9 hlt9
                have HF := hide (FLk.appW ⟨xs, xt, xh, xf⟩ ((unhide HD8).f.allocK (o := .cells #[.int .i64 xs, .int .i64 xt, .bool xh, .bool xf] 27)) hBl (by simp only; omega) hown9 hg9 (by simpa using hat9))
                have y9 := ((unhide HD8).allocK (o := .cells #[.int .i64 xs, .int .i64 xt, .bool xh, .bool xf] 27)).box.far hg9 (fun e => by have := ((unhide HD8).own.waits.lt _ e.symm).1; omega)
                clear q0 q1 q2 f0 f1 f2
                obtain ⟨q0, q1, q2⟩ := y9.three
                obtain ⟨f0, f1, f2⟩ := y9.free3
                clear y9 hown9 hg9 hat9
                try go_wp2_with fail
                clear hHeld
                refine hK.out _ _ trivial (fun hHeld => ?_)
                clear hK K
                refine wpAnyH_take (i := 6) (v := ?u12) rfl (by kernel_rfl) (by kernel_rfl) (by kernel_rfl) (fun _ _ _ h => h) (Or.inl ⟨by rfl, ?k12⟩) (by assumption) ?_
                case k12 => (intro w0 hSw; go_simp; try (with_reducible rfl))
                try simp only [Act.put]
                refine wpAnyH_ready (rs := [7]) (by kernel_rfl) (by simp) ?_
                refine AllReadyH.cons rfl (fun K hK => ?_) AllReadyH.nil
                go_simp
                try go_wp2_with fail
                clear hHeld
                refine hK.out _ _ trivial (fun hHeld => ?_)
                clear hK K
                refine wpAnyH_done (by kernel_rfl) ?_ _
                obtain ⟨r0, r1, r2⟩ := (unhide HF).res.three
                obtain ⟨s0, s1, s2⟩ := (unhide HF).res.free3
                obtain ⟨y1, y2, y3, y4, y5, y6⟩ := (unhide HF).fin hBl
                clear q0 q1 q2
                obtain ⟨q0, q1, q2⟩ := (unhide HF).box.three
                go_wp2_with fail
                refine bodyPost_ret (results_cell_row rfl _ _ w.heap.size _ _ _ _ rfl y1 Try.underlying25 rfl (by kernel_rfl)) rfl ?_
                first | exact ⟨_, _, _, rfl, y2, (unhide HF).hn, (unhide HF).hm, _, y3, by omega, y4, y5, y6⟩ | exact ⟨_, _, _, _, rfl, y2, (unhide HF).hn, (unhide HF).hm, y3, by omega, y4, y5, y6⟩
              ·
                go_simp
                try go_wp2_with fail
                clear hHeld
                refine hK.out _ _ trivial (fun hHeld => ?_)
                clear hK K
                refine wpAnyH_ready (rs := [1]) (by kernel_rfl) (by simp) ?_
                refine AllReadyH.cons rfl (fun K hK => ?_) AllReadyH.nil
                go_simp
                try go_wp2_with fail
                clear hHeld
                refine hK.out _ _ trivial (fun hHeld => ?_)
                clear hK K
                refine wpAnyH_ready (rs := [5]) (by kernel_rfl) (by simp) ?_
                refine AllReadyH.cons rfl (fun K hK => ?_) AllReadyH.nil
                refine step_append_lies _ (by rfl) (.tmp 85) (.tmp 88) 23 (by rfl) (w.heap.size + 2) 27 i0 (.agg #[.int .i64 0, .int .i64 0, .bool false, .bool false]) 4 24 Try.underlying23 hi hz0 hz1 hz2 rfl (by decide) (.slice d1 W.length e1) W.length (W.flatMap hdE) (by rfl) ((unhide HD8).own.waits.alloc _) ⟨w8.heap.size, 0, none⟩ 1 1 [.int .i64 xs, .int .i64 xt, .bool xh, .bool xf] (by rfl) rfl (World.news_of_block (heap_alloc_new _ _)) (by simp [Value.oneCell']) (by decide) (by unfold maxLen; omega) (by omega) (by simp; omega) (w8.heap.size + 1) (by simp) ?_
                intro ga cp w9 hown9 hg9 hat9 hlt9
                have HF := hide (FLk.appW ⟨xs, xt, xh, xf⟩ ((unhide HD8).f.allocK (o := .cells #[.int .i64 xs, .int .i64 xt, .bool xh, .bool xf] 27)) hBl (by simp only; omega) hown9 hg9 (by simpa using hat9))
                have y9 := ((unhide HD8).allocK (o := .cells #[.int .i64 xs, .int .i64 xt, .bool xh, .bool xf] 27)).box.far hg9 (fun e => by have := ((unhide HD8).own.waits.lt _ e.symm).1; omega)
                clear q0 q1 q2 f0 f1 f2
                obtain ⟨q0, q1, q2⟩ := y9.three
                obtain ⟨f0, f1, f2⟩ := y9.free3
                clear y9 hown9 hg9 hat9
                try go_wp2_with fail
                clear hHeld
                refine hK.out _ _ trivial (fun hHeld => ?_)
                clear hK K
                refine wpAnyH_take (i := 6) (v := ?u13) rfl (by kernel_rfl) (by kernel_rfl) (by kernel_rfl) (fun _ _ _ h => h) (Or.inl ⟨by rfl, ?k13⟩) (by assumption) ?_
                case k13 => (intro w0 hSw; go_simp; try (with_reducible rfl))
                try simp only [Act.put]
                refine wpAnyH_ready (rs := [7]) (by kernel_rfl) (by simp) ?_
                refine AllReadyH.cons rfl (fun K hK => ?_) AllReadyH.nil
                go_simp
                try go_wp2_with fail
                clear hHeld
                refine hK.out _ _ trivial (fun hHeld => ?_)
                clear hK K
                refine wpAnyH_done (by kernel_rfl) ?_ _
                obtain ⟨r0, r1, r2⟩ := (unhide HF).res.three
                obtain ⟨s0, s1, s2⟩ := (unhide HF).res.free3
                obtain ⟨y1, y2, y3, y4, y5, y6⟩ := (unhide HF).fin hBl
                clear q0 q1 q2
                obtain ⟨q0, q1, q2⟩ := (unhide HF).box.three
                go_wp2_with fail
                refine bodyPost_ret (results_cell_row rfl _ _ w.heap.size _ _ _ _ rfl y1 Try.underlying25 rfl (by kernel_rfl)) rfl ?_
                first | exact ⟨_, _, _, rfl, y2, (unhide HF).hn, (unhide HF).hm, _, y3, by omega, y4, y5, y6⟩ | exact ⟨_, _, _, _, rfl, y2, (unhide HF).hn, (unhide HF).hm, y3, by omega, y4, y5, y6⟩
        ·
          obtain ⟨q0, q1, q2⟩ := (unhide HD7).box.three
          obtain ⟨f0, f1, f2⟩ := (unhide HD7).box.free3
          have h40 : H.length ≤ 40 := (unhide HD7).hn
          have w40 : W.length ≤ 40 := (unhide HD7).hm
          obtain ⟨i0, hi, hz0, hz1, hz2⟩ := info_parts Try.infoHd
          go_wp2_with fail
          refine wp_region_held_drew (S := fun _ => True) (by kernel_rfl) trivial (fun hHeld => ?_)
          refine wpAnyH_take (i := 0) (v := ?u14) rfl (by kernel_rfl) (by kernel_rfl) (by kernel_rfl) (fun _ _ _ h => h) (Or.inl ⟨by rfl, ?k14⟩) (by assumption) ?_
          case k14 => (intro w0 hSw; go_simp; try (with_reducible rfl))
          try simp only [Act.put]
          refine wpAnyH_take (i := 2) (v := ?u15) rfl (by kernel_rfl) (by kernel_rfl) (by kernel_rfl) (fun _ _ _ h => h) (Or.inl ⟨by rfl, ?k15⟩) (by assumption) ?_
          case k15 => (intro w0 hSw; go_simp; try (with_reducible rfl))
          try simp only [Act.put]
          refine wpAnyH_ready (rs := [1, 3]) (by kernel_rfl) (by simp) ?_
          refine AllReadyH.cons rfl (fun K hK => ?_) (AllReadyH.cons rfl (fun K hK => ?_) AllReadyH.nil)
          ·
            go_simp
            try go_wp2_with fail
            clear hHeld
            refine hK.out _ _ trivial (fun hHeld => ?_)
            clear hK K
            refine wpAnyH_ready (rs := [3]) (by kernel_rfl) (by simp) ?_
            refine AllReadyH.cons rfl (fun K hK => ?_) AllReadyH.nil
            go_simp
            go_at_call 39
            refine (l72Hold_any B (q + 1) _ (unhide HD7).drewK.rd (by omega)).mono ?_; rintro e w8 ⟨x, rfl, r8, g8⟩
            have HD8 := hide ((unhide HD7).drewK.pick hBl g8 r8)
            have l8 := (unhide HD8).box.lt
            obtain ⟨xs, xt, xh, xf⟩ := x
            simp only [hdV]
            clear r8 g8 q0 q1 q2 f0 f1 f2
            obtain ⟨q0, q1, q2⟩ := (unhide HD8).box.three
            obtain ⟨f0, f1, f2⟩ := (unhide HD8).box.free3
            try go_wp2_with fail
            clear hHeld
            refine hK.out _ _ trivial (fun hHeld => ?_)
            clear hK K
            refine wpAnyH_ready (rs := [4]) (by kernel_rfl) (by simp) ?_
            refine AllReadyH.cons rfl (fun K hK => ?_) AllReadyH.nil
            go_simp
            try go_wp2_with fail
            clear hHeld
            refine hK.out _ _ trivial (fun hHeld => ?_)
            clear hK K
            refine wpAnyH_ready (rs := [5]) (by kernel_rfl) (by simp) ?_
            refine AllReadyH.cons rfl (fun K hK => ?_) AllReadyH.nil
            refine step_append_lies _ (by rfl) (.tmp 76) (.tmp 79) 23 (by rfl) (w.heap.size + 2) 27 i0 (.agg #[.int .i64 0, .int .i64 0, .bool false, .bool false]) 4 24 Try.underlying23 hi hz0 hz1 hz2 rfl (by decide) (.slice d0 H.length e0) H.length (H.flatMap hdE) (by rfl) ((unhide HD8).own.held.alloc _) ⟨w8.heap.size, 0, none⟩ 1 1 [.int .i64 xs, .int .i64 xt, .bool xh, .bool xf] (by rfl) rfl (World.news_of_block (heap_alloc_new _ _)) (by simp [Value.oneCell']) (by decide) (by unfold maxLen; omega) (by omega) (by simp; omega) (w8.heap.size + 1) (by simp) ?_
            intro ga cp w9 hown9 hg9 hat9 hlt9
            have HF := hide (FLk.appH ⟨xs, xt, xh, xf⟩ ((unhide HD8).f.allocK (o := .cells #[.int .i64 xs, .int .i64 xt, .bool xh, .bool xf] 27)) hBl (by simp only; omega) hown9 hg9 (by simpa using hat9))
            have y9 := ((unhide HD8).allocK (o := .cells #[.int .i64 xs, .int .i64 xt, .bool xh, .bool xf] 27)).box.far hg9 (fun e => by have := ((unhide HD8).own.held.lt _ e.symm).1; omega)
            clear q0 q1 q2 f0 f1 f2
            obtain ⟨q0, q1, q2⟩ := y9.three
            obtain ⟨f0, f1, f2⟩ := y9.free3
            clear y9 hown9 hg9 hat9
            try go_wp2_with fail
            clear hHeld
            refine hK.out _ _ trivial (fun hHeld => ?_)
            clear hK K
            refine wpAnyH_take (i := 6) (v := ?u16) rfl (by kernel_rfl) (by kernel_rfl) (by kernel_rfl) (fun _ _ _ h => h) (Or.inl ⟨by rfl, ?k16⟩) (by assumption) ?_
            case k16 => (intro w0 hSw; go_simp; try (with_reducible rfl))
            try simp only [Act.put]
            refine wpAnyH_ready (rs := [7]) (by kernel_rfl) (by simp) ?_
            refine AllReadyH.cons rfl (fun K hK => ?_) AllReadyH.nil
            go_simp
            try go_wp2_with fail
            clear hHeld
            refine hK.out _ _ trivial (fun hHeld => ?_)
            clear hK K
            refine wpAnyH_done (by kernel_rfl) ?_ _
            obtain ⟨r0, r1, r2⟩ := (unhide HF).res.three
            obtain ⟨s0, s1, s2⟩ := (unhide HF).res.free3
            obtain ⟨y1, y2, y3, y4, y5, y6⟩ := (unhide HF).fin hBl
            clear q0 q1 q2
            obtain ⟨q0, q1, q2⟩ := (unhide HF).box.three
            go_wp2_with fail
            refine bodyPost_ret (results_cell_row rfl _ _ w.heap.size _ _ _ _ rfl y1 Try.underlying25 rfl (by kernel_rfl)) rfl ?_
            first | exact ⟨_, _, _, rfl, y2, (unhide HF).hn, (unhide HF).hm, _, y3, by omega, y4, y5, y6⟩ | exact ⟨_, _, _, _, rfl, y2, (unhide HF).hn, (unhide HF).hm, y3, by omega, y4, y5, y6⟩
          ·
            go_simp
            go_at_call 39
            refine (l72Hold_any B (q + 1) _ (unhide HD7).drewK.rd (by omega)).mono ?_; rintro e w8 ⟨x, rfl, r8, g8⟩
            have HD8 := hide ((unhide HD7).drewK.pick hBl g8 r8)
            have l8 := (unhide HD8).box.lt
            obtain ⟨xs, xt, xh, xf⟩ := x
            simp only [hdV]
            clear r8 g8 q0 q1 q2 f0 f1 f2
            obtain ⟨q0, q1, q2⟩ := (unhide HD8).box.three
            obtain ⟨f0, f1, f2⟩ := (unhide HD8).box.free3
            try go_wp2_with fail
            clear hHeld
            refine hK.out _ _ trivial (fun hHeld => ?_)
            clear hK K
            refine wpAnyH_ready (rs := [1, 4]) (by kernel_rfl) (by simp) ?_
            refine AllReadyH.cons rfl (fun K hK => ?_) (AllReadyH.cons rfl (fun K hK => ?_) AllReadyH.nil)
            ·
              go_simp
              try go_wp2_with fail
              clear hHeld
              refine hK.out _ _ trivial (fun hHeld => ?_)
              clear hK K
              refine wpAnyH_ready (rs := [4]) (by kernel_rfl) (by simp) ?_
              refine AllReadyH.cons rfl (fun K hK => ?_) AllReadyH.nil
              go_simp
              try go_wp2_with fail
              clear hHeld
              refine hK.out _ _ trivial (fun hHeld => ?_)
              clear hK K
              refine wpAnyH_ready (rs := [5]) (by kernel_rfl) (by simp) ?_
              refine AllReadyH.cons rfl (fun K hK => ?_) AllReadyH.nil
              refine step_append_lies _ (by rfl) (.tmp 76) (.tmp 79) 23 (by rfl) (w.heap.size + 2) 27 i0 (.agg #[.int .i64 0, .int .i64 0, .bool false, .bool false]) 4 24 Try.underlying23 hi hz0 hz1 hz2 rfl (by decide) (.slice d0 H.length e0) H.length (H.flatMap hdE) (by rfl) ((unhide HD8).own.held.alloc _) ⟨w8.heap.size, 0, none⟩ 1 1 [.int .i64 xs, .int .i64 xt, .bool xh, .bool xf] (by rfl) rfl (World.news_of_block (heap_alloc_new _ _)) (by simp [Value.oneCell']) (by decide) (by unfold maxLen; omega) (by omega) (by simp; omega) (w8.heap.size + 1) (by simp) ?_
              intro ga cp w9 hown9 hg9 hat9 hlt9
              have HF := hide (FLk.appH ⟨xs, xt, xh, xf⟩ ((unhide HD8).f.allocK (o := .cells #[.int .i64 xs, .int .i64 xt, .bool xh, .bool xf] 27)) hBl (by simp only; omega) hown9 hg9 (by simpa using hat9))
              have y9 := ((unhide HD8).allocK (o := .cells #[.int .i64 xs, .int .i64 xt, .bool xh, .bool xf] 27)).box.far hg9 (fun e => by have := ((unhide HD8).own.held.lt _ e.symm).1; omega)
              clear q0 q1 q2 f0 f1 f2
              obtain ⟨q0, q1, q2⟩ := y9.three
              obtain ⟨f0, f1, f2⟩ := y9.free3
              clear y9 hown9 hg9 hat9
              try go_wp2_with fail
              clear hHeld
              refine hK.out _ _ trivial (fun hHeld => ?_)
              clear hK K
              refine wpAnyH_take (i := 6) (v := ?u17) rfl (by kernel_rfl) (by kernel_rfl) (by kernel_rfl) (fun _ _ _ h => h) (Or.inl ⟨by rfl, ?k17⟩) (by assumption) ?_
              case k17 => (intro w0 hSw; go_simp; try (with_reducible rfl))
              try simp only [Act.put]
              refine wpAnyH_ready (rs := [7]) (by kernel_rfl) (by simp) ?_
              refine AllReadyH.cons rfl (fun K hK => ?_) AllReadyH.nil
              go_simp
              try go_wp2_with fail
              clear hHeld
              refine hK.out _ _ trivial (fun hHeld => ?_)
              clear hK K
              refine wpAnyH_done (by kernel_rfl) ?_ _
              obtain ⟨r0, r1, r2⟩ := (unhide HF).res.three
              obtain ⟨s0, s1, s2⟩ := (unhide HF).res.free3
              obtain ⟨y1, y2, y3, y4, y5, y6⟩ := (unhide HF).fin hBl
              clear q0 q1 q2
              obtain ⟨q0, q1, q2⟩ := (unhide HF).box.three
              go_wp2_with fail
              refine bodyPost_ret (results_cell_row rfl _ _ w.heap.size _ _ _ _ rfl y1 Try.underlying25 rfl (by kernel_rfl)) rfl ?_
              first | exact ⟨_, _, _, rfl, y2, (unhide HF).hn, (unhide HF).hm, _, y3, by omega, y4, y5, y6⟩ | exact ⟨_, _, _, _, rfl, y2, (unhide HF).hn, (unhide HF).hm, y3, by omega, y4, y5, y6⟩
            ·
              go_simp
              try go_wp2_with fail
              clear hHeld
              refine hK.out _ _ trivial (fun hHeld => ?_)
              clear hK K
              refine wpAnyH_ready (rs := [1]) (by kernel_rfl) (by simp) ?_
              refine AllReadyH.cons rfl (fun K hK => ?_) AllReadyH.nil
              go_simp
              try go_wp2_with fail
              clear hHeld
              refine hK.out _ _ trivial (fun hHeld => ?_)
              clear hK K
              refine wpAnyH_ready (rs := [5]) (by kernel_rfl) (by simp) ?_
              refine AllReadyH.cons rfl (fun K hK => ?_) AllReadyH.nil
              refine step_append_lies _ (by rfl) (.tmp 76) (.tmp 79) 23 (by rfl) (w.heap.size + 2) 27 i0 (.agg #[.int .i64 0, .int .i64 0, .bool false, .bool false]) 4 24 Try.underlying23 hi hz0 hz1 hz2 rfl (by decide) (.slice d0 H.length e0) H.length (H.flatMap hdE) (by rfl) ((unhide HD8).own.held.alloc _) ⟨w8.heap.size, 0, none⟩ 1 1 [.int .i64 xs, .int .i64 xt, .bool xh, .bool xf] (by rfl) rfl (World.news_of_block (heap_alloc_new _ _)) (by simp [Value.oneCell']) (by decide) (by unfold maxLen; omega) (by omega) (by simp; omega) (w8.heap.size + 1) (by simp) ?_
              intro ga cp w9 hown9 hg9 hat9 hlt9
              have HF := hide (FLk.appH ⟨xs, xt, xh, xf⟩ ((unhide HD8).f.allocK (o := .cells #[.int .i64 xs, .int .i64 xt, .bool xh, .bool xf] 27)) hBl (by simp only; omega) hown9 hg9 (by simpa using hat9))
              have y9 := ((unhide HD8).allocK (o := .cells #[.int .i64 xs, .int .i64 xt, .bool xh, .bool xf] 27)).box.far hg9 (fun e => by have := ((unhide HD8).own.held.lt _ e.symm).1; omega)
              clear q0 q1 q2 f0 f1 f2
              obtain ⟨q0, q1, q2⟩ := y9.three
              obtain ⟨f0, f1, f2⟩ := y9.free3
              clear y9 hown9 hg9 hat9
              try go_wp2_with fail
              clear hHeld
              refine hK.out _ _ trivial (fun hHeld => ?_)
              clear hK K
              refine wpAnyH_take (i := 6) (v := ?u18) rfl (by kernel_rfl) (by kernel_rfl) (by kernel_rfl) (fun _ _ _ h => h) (Or.inl ⟨by rfl, ?k18⟩) (by assumption) ?_
              case k18 => (intro w0 hSw; go_simp; try (with_reducible rfl))
              try simp only [Act.put]
              refine wpAnyH_ready (rs := [7]) (by kernel_rfl) (by simp) ?_
              refine AllReadyH.cons rfl (fun K hK => ?_) AllReadyH.nil
              go_simp
              try go_wp2_with fail
              clear hHeld
              refine hK.out _ _ trivial (fun hHeld => ?_)
              clear hK K
              refine wpAnyH_done (by kernel_rfl) ?_ _
              obtain ⟨r0, r1, r2⟩ := (unhide HF).res.three
              obtain ⟨s0, s1, s2⟩ := (unhide HF).res.free3
              obtain ⟨y1, y2, y3, y4, y5, y6⟩ := (unhide HF).fin hBl
              clear q0 q1 q2
              obtain ⟨q0, q1, q2⟩ := (unhide HF).box.three
              go_wp2_with fail
              refine bodyPost_ret (results_cell_row rfl _ _ w.heap.size _ _ _ _ rfl y1 Try.underlying25 rfl (by kernel_rfl)) rfl ?_
              first | exact ⟨_, _, _, rfl, y2, (unhide HF).hn, (unhide HF).hm, _, y3, by omega, y4, y5, y6⟩ | exact ⟨_, _, _, _, rfl, y2, (unhide HF).hn, (unhide HF).hm, y3, by omega, y4, y5, y6⟩
      ·
        obtain ⟨q0, q1, q2⟩ := (unhide HD7).box.three
        obtain ⟨f0, f1, f2⟩ := (unhide HD7).box.free3
        go_wp2_with fail
        refine (DLk.pickAnyG (unhide HD7).allocK hBl (by omega) 2 (by omega) (by omega)).mono ?_; rintro e w8 ⟨Kx, rfl, b8, d8, g8⟩
        have z8 := (Bx.made w7 3 #[.int .i64 (-1), .int .i64 8]).far g8 (fun e => by simp at e; omega)
        have z80 : w8.cell? ⟨w7.heap.size, 0, none⟩ = some (.int .i64 (-1)) := z8.cell 0
        have z81 : w8.cell? ⟨w7.heap.size, 1, none⟩ = some (.int .i64 8) := z8.cell 1
        have HD8 := hide d8
        clear q0 q1 q2 f0 f1 f2 d8 g8 z8 HD7
        obtain ⟨q0, q1, q2⟩ := (unhide HD8).box.three
        obtain ⟨f0, f1, f2⟩ := (unhide HD8).box.free3
        have hKx : Kx = 0 ∨ Kx = 1 := by omega
        rcases hKx with rfl | rfl
        ·
          have HF := hide ((unhide HD8).f.slot hBl (-1))
          obtain ⟨r0, r1, r2⟩ := (unhide HF).res.three
          obtain ⟨s0, s1, s2⟩ := (unhide HF).res.free3
          obtain ⟨y1, y2, y3, y4, y5, y6⟩ := (unhide HF).fin hBl
          go_wp2_with fail
          refine bodyPost_ret (results_cell_row rfl _ _ w.heap.size _ _ _ _ rfl y1 Try.underlying25 rfl (by kernel_rfl)) rfl ?_
          exact ⟨_, _, _, _, rfl, y2, (unhide HF).hn, (unhide HF).hm, y3, by omega, y4, y5, y6⟩
        ·
          have HF := hide ((unhide HD8).f.slot hBl (8))
          obtain ⟨r0, r1, r2⟩ := (unhide HF).res.three
          obtain ⟨s0, s1, s2⟩ := (unhide HF).res.free3
          obtain ⟨y1, y2, y3, y4, y5, y6⟩ := (unhide HF).fin hBl
          go_wp2_with fail
          refine bodyPost_ret (results_cell_row rfl _ _ w.heap.size _ _ _ _ rfl y1 Try.underlying25 rfl (by kernel_rfl)) rfl ?_
          exact ⟨_, _, _, _, rfl, y2, (unhide HF).hn, (unhide HF).hm, y3, by omega, y4, y5, y6⟩

end Go.Proofs.Ytoojnhodjkpecaa
