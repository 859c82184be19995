/- Maps are drawn. -/
import Derived.Test.YtmclmdleplfgeaaMapS3
import Derived.Test.YtmclmdleplfgeaaDraw1
import Derived.Deep.DeepCutAuto
namespace Go.Proofs.Ytmclmdleplfgeaa
open Go.RowKit

theorem mapOk_start : mapOk 1 (startL 8) = true := by decide

theorem all_set {xs : List Int} {p : Int → Bool} (h : xs.all p = true) {x : Int} (hx : p x = true) (i : Nat) : (xs.set i x).all p = true := by
  rw [List.all_eq_true] at h ⊢
  intro y hy
  rcases List.mem_or_eq_of_mem_set hy with h1 | h1
  · exact h y h1
  · rw [h1]; exact hx

theorem mapOk_move {v : Int} {xs : List Int} (h : mapOk v xs = true) (s t : Int) : mapOk (moveV v xs s t) (moveL v xs s t) = true := by
  by_cases hc : moveCode v xs s t = 0
  · obtain ⟨_, e2, e3⟩ := moveC_done h hc
    rw [e2, e3]
    obtain ⟨v1, v2⟩ := mapOk_ver h
    have hst : slB s = true ∧ hsB t = true := by
      cases h1 : slB s <;> cases h2 : hsB t <;> first | exact ⟨rfl, rfl⟩ | (rw [code_9 (by simp [h1, h2])] at hc; simp at hc)
    have hv : v ≠ 99 := fun e => by rw [code_2 hst.1 hst.2 e] at hc; simp at hc
    exact mapOk_mk (by simp [inB]; omega) (by rw [List.length_set]; exact mapOk_len h) (all_set (mapOk_all h) hst.2 _)
  · obtain ⟨_, e2, e3⟩ := moveC_ok h hc
    rw [e2, e3]; exact h

/-- What is under way while a map is drawn: its box, the result's, its row, the reader. -/
structure MapDr (w wr : World) (B g0 gm q : Nat) (V : Int) (L : List Int) (a : Option Addr) (c : Nat) : Prop where
  grown : w.grownBy wr (some B)
  rd : Rd wr B q
  res : Box wr g0 25 #[.int .i64 0, .slice none 0 0]
  box : Box wr gm 25 #[.int .i64 V, .slice a 8 c]
  own : wr.ownsRow w.heap.size 3 1 (.slice a 8 c) 8 (L.map (Value.int .i64))
  n0 : (Value.slice a 8 c).ownBlock ≠ some g0
  nm : (Value.slice a 8 c).ownBlock ≠ some gm
  nB : (Value.slice a 8 c).ownBlock ≠ some B
  ok : mapOk V L = true

theorem MapDr.pick {w wr w' : World} {B g0 gm q q' : Nat} {V : Int} {L : List Int} {a : Option Addr} {c : Nat} (h : MapDr w wr B g0 gm q V L a c) (hg : wr.grownBy w' (some B)) (hr : Rd w' B q') (h0 : g0 ≠ B) (hm : gm ≠ B) : MapDr w w' B g0 gm q' V L a c :=
  ⟨grownBy_trans h.grown hg, hr, h.res.far hg (by simpa using h0), h.box.far hg (by simpa using hm), h.own.kept hg (.inr h.nB), h.n0, h.nm, h.nB, h.ok⟩

theorem MapDr.drew {w wr : World} {B g0 gm q : Nat} {V : Int} {L : List Int} {a : Option Addr} {c : Nat} (h : MapDr w wr B g0 gm q V L a c) : MapDr w wr.drew B g0 gm q V L a c :=
  ⟨grownBy_drew h.grown, h.rd.kept ((Below.refl _ _).drew), ⟨h.res.row⟩, ⟨h.box.row⟩, h.own, h.n0, h.nm, h.nB, h.ok⟩

theorem grownBy_setOwn {w w' : World} {row : Option Nat} (h : w.grownBy w' row) {g : Nat} (hg : w.heap.size ≤ g) (j : Nat) (u : Value) : w.grownBy (w'.setCell ⟨g, j, none⟩ u) row :=
  ⟨h.os, h.tape, h.output, by simpa [World.setCell] using h.size, fun k hk hne => by
    rw [Below.heap_setCell _ _ _ _ (by show k ≠ g; omega)]; exact h.block k hk hne⟩

theorem Rd.set {w : World} {B p g : Nat} (h : Rd w B p) (hg : B < g) (j : Nat) (u : Value) : Rd (w.setCell ⟨g, j, none⟩ u) B p :=
  h.far (grownBy_set (grownBy_refl w (some g)) j u) (fun y hy e => by simp at e; omega)

theorem Box.setOther {w : World} {g : Nat} {T : TypeId} {cs : Array Value} (h : Box w g T cs) {g' : Nat} (hne : g ≠ g') (j : Nat) (u : Value) : Box (w.setCell ⟨g', j, none⟩ u) g T cs := ⟨(heap_setCell_other _ _ _ _ hne).trans h.row⟩
theorem Box.set {w : World} {g : Nat} {T : TypeId} {cs : Array Value} (h : Box w g T cs) (j : Nat) (u : Value) : Box (w.setCell ⟨g, j, none⟩ u) g T (cs.setIfInBounds j u) := ⟨heap_setCell_same _ _ _ _ _ _ h.row⟩

/-- A map is stored into the box. -/
theorem MapDr.store {w w5 : World} {B g0 gm q : Nat} {V : Int} {L : List Int} {a : Option Addr} {c : Nat} {x y : Value} (hg : w.grownBy w5 (some B)) (hr : Rd w5 B q) (h0 : Box w5 g0 25 #[.int .i64 0, .slice none 0 0]) (hm : Box w5 gm 25 #[x, y])
    (ho : w5.ownsRow w.heap.size 3 1 (.slice a 8 c) 8 (L.map (Value.int .i64))) (n0 : (Value.slice a 8 c).ownBlock ≠ some g0) (nm : (Value.slice a 8 c).ownBlock ≠ some gm) (nB : (Value.slice a 8 c).ownBlock ≠ some B) (ok : mapOk V L = true)
    (hgm : w.heap.size ≤ gm) (hB : B < w.heap.size) (h0m : g0 ≠ gm) : MapDr w ((w5.setCell ⟨gm, 0, none⟩ (.int .i64 V)).setCell ⟨gm, 1, none⟩ (.slice a 8 c)) B g0 gm q V L a c :=
  ⟨grownBy_setOwn (grownBy_setOwn hg hgm _ _) hgm _ _, (hr.set (by omega) _ _).set (by omega) _ _, (h0.setOther h0m _ _).setOther h0m _ _, (hm.set _ _).set _ _, ownsRow_setCell_other (ownsRow_setCell_other ho nm) nm, n0, nm, nB, ok⟩

theorem MapDr.alloc {w wr : World} {B g0 gm q : Nat} {V : Int} {L : List Int} {a : Option Addr} {c : Nat} (h : MapDr w wr B g0 gm q V L a c) (o : Obj) : MapDr w (wr.alloc o) B g0 gm q V L a c :=
  ⟨grownBy_alloc h.grown o, h.rd.kept ((Below.refl _ _).alloc (Nat.le_refl _) o), h.res.alloc o, h.box.alloc o, h.own.alloc o, h.n0, h.nm, h.nB, h.ok⟩

theorem vers3 (K : Nat) (hK : K < 3) : ∃ v : Int, (#[.int .i64 0, .int .i64 99, .int .i64 100] : Array Value)[K]? = some (.int .i64 v) ∧ 0 ≤ v ∧ v ≤ 100 := by
  match K, hK with
  | 0, _ => exact ⟨_, rfl, by omega, by omega⟩
  | 1, _ => exact ⟨_, rfl, by omega, by omega⟩
  | 2, _ => exact ⟨_, rfl, by omega, by omega⟩

theorem two (x y : Int) (K : Nat) (hK : K < 2) : ∃ v : Int, (#[.int .i64 x, .int .i64 y] : Array Value)[K]? = some (.int .i64 v) ∧ ∀ h : K < ([.int .i64 x, .int .i64 y] : List Value).length, ([.int .i64 x, .int .i64 y] : List Value)[K] = .int .i64 v := by
  match K, hK with
  | 0, _ => exact ⟨_, rfl, fun _ => rfl⟩
  | 1, _ => exact ⟨_, rfl, fun _ => rfl⟩

/-- A row without its first number. -/
theorem InsAt.tail {w : World} {g c : Nat} {L : List Int} (hl : L.length = 8) (h : InsAt w (.slice (some ⟨g, 0, none⟩) 8 c) L) : InsAt w (.slice (some ⟨g, 1, none⟩) 7 (c - 1)) (L.drop 1) := by
  obtain ⟨a, cap, he, h1, h2, h3⟩ := h
  simp at he
  obtain ⟨rfl, _, rfl⟩ := he
  refine ⟨_, c - 1, by simp [hl], by simp; omega, by omega, .inr ⟨g, 1, rfl, fun i hi => ?_⟩⟩
  rcases h3 with h3 | ⟨b, off, ha, hc⟩
  · subst h3; simp at hl
  · simp at ha
    obtain ⟨rfl, rfl⟩ := ha
    have := hc (1 + i) (by simp at hi; omega)
    rw [Nat.zero_add] at this
    rw [this, Nat.add_comm 1 i]
    cases L with
    | nil => simp at hl
    | cons x r => simp [List.getD]

theorem MapDr.setRow {w wr : World} {B g0 gm q : Nat} {V : Int} {L : List Int} {g c : Nat} (h : MapDr w wr B g0 gm q V L (some ⟨g, 0, none⟩) c) (j : Nat) (x : Int) (hB : B < w.heap.size) : w.grownBy (wr.setCell ⟨g, j, none⟩ (.int .i64 x)) (some B) ∧ Rd (wr.setCell ⟨g, j, none⟩ (.int .i64 x)) B q ∧ Box (wr.setCell ⟨g, j, none⟩ (.int .i64 x)) g0 25 #[.int .i64 0, .slice none 0 0] ∧
    Box (wr.setCell ⟨g, j, none⟩ (.int .i64 x)) gm 25 #[.int .i64 V, .slice (some ⟨g, 0, none⟩) 8 c] ∧ (wr.setCell ⟨g, j, none⟩ (.int .i64 x)).ownsRow w.heap.size 3 1 (.slice (some ⟨g, 0, none⟩) 8 c) 8 ((L.set j x).map (Value.int .i64)) := by
  have hlo := (h.own.lt g rfl).1
  have hn0 := h.n0
  have hnm := h.nm
  simp [Value.ownBlock] at hn0 hnm
  exact ⟨grownBy_setOwn h.grown hlo _ _, h.rd.set (by omega) _ _, h.res.setOther (fun e => hn0 e.symm) _ _, h.box.setOther (fun e => hnm e.symm) _ _, ownsRow_set h.own x⟩

theorem MapDr.allocK {w wr : World} {B g0 gm q : Nat} {V : Int} {L : List Int} {a : Option Addr} {c : Nat} {o : Obj} (h : MapDr w wr B g0 gm q V L a c) : MapDr w (wr.alloc o) B g0 gm q V L a c := h.alloc o
theorem MapDr.drewK {w wr : World} {B g0 gm q : Nat} {V : Int} {L : List Int} {a : Option Addr} {c : Nat} (h : MapDr w wr B g0 gm q V L a c) : MapDr w wr.drew B g0 gm q V L a c := h.drew

/-- But for one block, all reads as before. -/
theorem quietBut {w w' : World} {B : Nat} (hg : w.grownBy w' (some B)) (hs : w'.heap.size = w.heap.size) : (∀ X o, X ≠ B → w'.cell? ⟨X, o, none⟩ = w.cell? ⟨X, o, none⟩) ∧ (∀ X o, X ≠ B → w'.frozen? ⟨X, o, none⟩ = w.frozen? ⟨X, o, none⟩) := by
  have key : ∀ X, X ≠ B → w'.heap[X]? = w.heap[X]? := fun X hX => by
    rcases Nat.lt_or_ge X w.heap.size with h | h
    · exact hg.block X h (by simpa using hX)
    · rw [Array.getElem?_eq_none h, Array.getElem?_eq_none (by omega)]
  exact ⟨fun X o hX => by simp only [World.cell?, key X hX], fun X o hX => by simp only [World.frozen?, key X hX]⟩

set_option maxRecDepth 100000 in
set_option maxHeartbeats 40000000 in
theorem drawMap_any (B p : Nat) (w : World) (hr : Rd w B p) (hp : p ≤ 900000) :
    Calls Try.prog 37 #[.pointer (some ⟨B, 0, none⟩)] w fun e w' => ∃ V r L p', e = .returned (.agg #[.int .i64 V, r]) ∧ InsAt w' r L ∧ Blk r w.heap.size w'.heap.size ∧ L.length ≤ 8 ∧ 0 ≤ V ∧ V ≤ 100 ∧ Rd w' B p' ∧ p' ≤ p + 100 ∧ w.grownBy w' (some B) := by
  have hBl := hr.lt
  have HRD := hide hr
  clear hr
  have hspec := specStart_any
  have hokS := mapOk_start
  have hlnS := startL_length 8
  generalize startL 8 = LS at *
  have HSP := hide hspec
  have HOK := hide hokS
  have HLN := hide hlnS
  clear hspec hokS hlnS
  have bA : Below w.heap.size w (w.alloc (.cells #[.int .i64 0, .slice none 0 0] 25)) := (Below.refl _ _).alloc (Nat.le_refl _) _
  go_enter Try.func37, Try.ntmps37
  go_wp2_with fail
  refine (unhide HSP _).mono ?_; rintro e w1 ⟨a1, n1, c1, rfl, ho1, hb1⟩
  obtain ⟨a', c', he, ha | ⟨gg, rfl, hgl, hgh⟩⟩ := ownsRow_slice ho1
  · omega
  simp at he
  obtain ⟨rfl, rfl, rfl⟩ := he
  have z1 := hb1.size
  simp at z1 hgl
  have hbA1 := bA.trans (hb1.mono bA.size)
  have hD : MapDr w (w1.alloc (.cells #[.int .i64 1, .slice (some ⟨gg, 0, none⟩) 8 c1] 25)) B w.heap.size w1.heap.size p 1 LS (some ⟨gg, 0, none⟩) c1 := by
    have hbb := hbA1.alloc hbA1.size (.cells #[.int .i64 1, .slice (some ⟨gg, 0, none⟩) 8 c1] 25)
    refine ⟨⟨hbb.os, hbb.tape, hbb.output, hbb.size, fun k hk _ => hbb.block k hk⟩, (unhide HRD).kept hbb, ((Box.made w _ _).kept hb1).alloc _, Box.made w1 _ _, ownsRow_base (ho1.alloc _) (by simp), by simp [Value.ownBlock]; omega, by simp [Value.ownBlock]; omega, by simp [Value.ownBlock]; omega, unhide HOK⟩
  have HD := hide hD
  clear ho1 hD hbA1 hb1 bA HRD
  go_wp2_with fail
  refine (pick_any B p 8 _ (unhide HD).rd (by omega) (by omega)).mono ?_; rintro e w2 ⟨n, rfl, hn0, hn1, hr2, hg2, -⟩
  have hn2 := hn1 (by omega)
  have HD2 := hide ((unhide HD).pick hg2 hr2 (by omega) (by omega))
  clear hr2 hg2 hn1 HD
  obtain ⟨N, rfl⟩ := Int.eq_ofNat_of_zero_le hn0
  have hB0 : w.heap.size ≠ B := by omega
  have hBm : w1.heap.size ≠ B := by omega
  go_wp2_with fail
  go_loopw [4] (fun i wr => ∃ (j q : Nat) (V : Int) (L : List Int) (a : Option Addr) (c : Nat), j ≤ N ∧ i = .int .i64 j ∧ MapDr w wr B w.heap.size w1.heap.size q V L a c ∧ q ≤ p + 1 + 2 * (N - j)) (fun i _ => (intOf i).toNat)
  case atStart => exact ⟨N, p + 1, 1, LS, _, c1, Nat.le_refl _, rfl, unhide HD2, by omega⟩
  case round =>
    obtain ⟨j, q, V, L, a, c, hj, rfl, hd, hq⟩ := hrel
    have HDR := hide hd
    clear hd HD2
    by_cases hlt : 0 < j
    · have hlt' : (0 : Int) < (j : Int) := by omega
      obtain ⟨m0, m1⟩ := (unhide HDR).box.two
      have HDD := hide (unhide HDR).drew
      go_wp2_with fail
      go_region_with (first
        | (go_at_call 24; refine (specMove_any V _ L k3 k4 _ (owned_ins (by rw [mapOk_len (unhide HDR).ok]; exact (unhide HD4).own)).1).mono ?_; rintro e w5 ⟨r5, rfl, ho5, hb5⟩; have HOK5 := hide (mapOk_move (unhide HDR).ok k3 k4); have h8 := mapOk_len (unhide HOK5); rw [h8] at ho5; clear h8; obtain ⟨a5, c5, rfl, hbl5⟩ := ownsRow_slice ho5; have HO5 := hide ho5; have HB5 := hide hb5; have HX5 := hide ((unhide HD4).box.kept hb5); clear ho5 hb5; generalize moveV V L k3 k4 = V5 at *; generalize moveL V L k3 k4 = L5 at *; generalize moveC V L k3 k4 = C5 at *; obtain ⟨x0, x1⟩ := (unhide HX5).two; have y0 := (unhide HX5).free 0; have y1 := (unhide HX5).free 1)
        | (go_at_call 45; have hh := a3; clear hh; refine (pick_any B (q + 1) 3 _ (unhide HD3).rd (by omega) (by omega)).mono ?_; rintro e w4 ⟨k4, rfl, a5, a6, r4, g4, s4⟩; have HD4 := hide ((unhide HD3).pick g4 r4 hB0 hBm); clear r4 g4 s4; obtain ⟨m0'', m1''⟩ := (unhide HD4).box.two)
        | (go_at_call 45; refine (pick_any B q 8 _ (unhide HDD).rd (by omega) (by omega)).mono ?_; rintro e w3 ⟨k3, rfl, a3, a4, r3, g3, s3⟩; have HD3 := hide ((unhide HDD).pick g3 r3 hB0 hBm); clear r3 g3 s3; obtain ⟨m0', m1'⟩ := (unhide HD3).box.two))
      all_goals (try go_wp2)
      all_goals go_roundw
      all_goals first
        | (show ∃ (j q : Nat) (V : Int) (L : List Int) (a : Option Addr) (c : Nat), _
           obtain ⟨g5, rfl, hg5, hg5'⟩ : ∃ g, a5 = some ⟨g, 0, none⟩ ∧ w4.heap.size ≤ g ∧ g < w5.heap.size := by
             rcases hbl5 with h | h
             · omega
             · exact h
           have hd4 := unhide HD4
           have s4 := hd4.box.lt
           have s0 := hd4.res.lt
           have sB := hd4.rd.lt
           have sz := hd4.grown.size
           exact ⟨j - 1, q + 1 + 1, V5, L5, _, c5, by omega, by have : ((j - 1 : Nat) : Int) = (j : Int) - 1 := by omega
                                                                rw [this], MapDr.store (grownBy_below hd4.grown (unhide HB5)) (hd4.rd.kept (unhide HB5)) (hd4.res.kept (unhide HB5)) (unhide HX5) (ownsRow_base (unhide HO5) sz) (by simp [Value.ownBlock]; omega) (by simp [Value.ownBlock]; omega) (by simp [Value.ownBlock]; omega) (unhide HOK5) (by omega) hBl (by omega), by omega⟩)
        | (simp [intOf]; omega)
    · obtain rfl : j = 0 := by omega
      go_wp2_with fail
      refine (pick_any B q 14 _ (unhide HDR).rd (by omega) (by omega)).mono ?_; rintro e w3 ⟨k3, rfl, a3, a4, r3, g3, s3⟩
      have HD3 := hide ((unhide HDR).pick g3 r3 hB0 hBm)
      clear r3 g3 s3 a4
      have hLl := mapOk_len (unhide HD3).ok
      have hVb := mapOk_ver (unhide HD3).ok
      obtain ⟨m0, m1⟩ := (unhide HD3).box.two
      have f0 := (unhide HD3).box.free 0
      have f1 := (unhide HD3).box.free 1
      obtain ⟨d0, d1⟩ := (unhide HD3).res.two
      have e0 := (unhide HD3).res.free 0
      have e1 := (unhide HD3).res.free 1
      have lm := (unhide HD3).box.lt
      have lr := (unhide HD3).res.lt
      have HSZ := hide (unhide HD3).grown.size
      obtain ⟨gr, rfl⟩ : ∃ g, a = some ⟨g, 0, none⟩ := by
        obtain ⟨a', c', h, h0 | ⟨g, rfl, _⟩⟩ := ownsRow_slice (unhide HD3).own
        · omega
        · simp at h; exact ⟨g, h.1⟩
      have HIN := hide (owned_ins (xs := L) (by rw [hLl]; exact (unhide HD3).own)).1
      have HBK := hide (blk_own (unhide HD3).own)
      have hc8 : 8 ≤ c := by
        obtain ⟨_, ⟨h, _⟩ | ⟨g', cap', cur, h, _, _, h1, _⟩⟩ := (unhide HD3).own
        · simp at h
        · simp at h; omega
      have hcm : c ≤ maxLen := by
        obtain ⟨_, ⟨h, _⟩ | ⟨g', cap', cur, h, _, _, h1, h2, _⟩⟩ := (unhide HD3).own
        · simp at h
        · simp at h; omega
      have HLL := hide hLl
      have HVB := hide hVb
      clear hLl hVb HDR
      have hv8 := unhide HVB
      have ngr : gr ≠ w.heap.size := by have := (unhide HD3).n0; simpa [Value.ownBlock] using this
      have ngm : gr ≠ w1.heap.size := by have := (unhide HD3).nm; simpa [Value.ownBlock] using this
      have zsz := unhide HSZ
      have HZ1 := hide z1
      clear z1
      by_cases hk0 : k3 = 0
      · have hb0 : (k3 == 0) = true := by simpa using hk0
        clear hk0 m0 m1 f0 f1 d0 d1 e0 e1 hv8
        go_wp2_with fail
        refine (pick_any B (q + 1) 3 _ ((unhide HD3).alloc _).rd (by omega) (by omega)).mono ?_; rintro e w4 ⟨k4, rfl, a5, a6, r4, g4, s4⟩
        obtain ⟨K4, rfl⟩ := Int.eq_ofNat_of_zero_le a5
        have hK4 : K4 < 3 := by have := a6 (by omega); omega
        have hK4' : (K4 : Int) < 3 := by omega
        obtain ⟨nv, hnv, hn1, hn2⟩ := vers3 K4 hK4
        have c4 : w4.cell? ⟨w3.heap.size, K4, none⟩ = some (.int .i64 nv) := by
          rw [g4.cell_far ⟨w3.heap.size, K4, none⟩ (by simp) (by simp; omega), World.cell?_alloc_at _ _ _ _ rfl]; exact hnv
        have HD4 := hide (((unhide HD3).alloc _).pick g4 r4 hB0 hBm)
        clear r4 g4 s4 a6 hnv
        obtain ⟨m0, m1⟩ := (unhide HD4).box.two
        have f0 := (unhide HD4).box.free 0
        obtain ⟨d0, d1⟩ := (unhide HD4).res.two
        have e0 := (unhide HD4).res.free 0
        have e1 := (unhide HD4).res.free 1
        have HNE : Hid (w.heap.size ≠ w1.heap.size) := by have := unhide HZ1; show w.heap.size ≠ w1.heap.size; omega
        have hne := unhide HNE
        go_wp2_with fail
        refine bodyPost_ret (results_cell_row rfl _ _ w.heap.size _ _ _ _ rfl (heap_setCell_same _ _ _ _ _ _ (heap_setCell_same _ _ _ _ _ _ ((unhide HD4).res.setOther hne _ _).row)) Try.underlying25 rfl (by kernel_rfl)) rfl ?_
        have hd := unhide HD4
        have hin := (owned_ins (xs := L) (by rw [unhide HLL]; exact hd.own)).1
        have hz1 := unhide HZ1
        have hb := blk_own hd.own
        refine ⟨nv, .slice (some ⟨gr, 0, none⟩) 8 c, L, q + 1 + 1, by simp, ((hin.set (by simpa [Value.ownBlock] using ngm) _ _).set (by simpa [Value.ownBlock] using ngr) _ _).set (by simpa [Value.ownBlock] using ngr) _ _, by simpa using hb, by rw [unhide HLL]; omega, hn1, hn2, ((hd.rd.set (by omega) _ _).set (by omega) _ _).set (by omega) _ _, by omega, grownBy_setOwn (grownBy_setOwn (grownBy_setOwn hd.grown (by omega) _ _) (by omega) _ _) (by omega) _ _⟩
      have hb0 : (k3 == 0) = false := by simpa using hk0
      by_cases hk1 : k3 = 1
      · have hb1 : (k3 == 1) = true := by simpa using hk1
        clear hk0 hk1
        have r3 := (unhide HD3).rd
        have dd3 := unhide HD3
        have HRM : Hid (Room w3 gr 8) := by
          show Room w3 gr 8
          rcases (owned_ins (xs := L) (by rw [unhide HLL]; exact (unhide HD3).own)).2 with ⟨h, _⟩ | ⟨g', c', h, _, _, hr'⟩
          · simp at h
          · simp at h
            obtain ⟨rfl, _⟩ := h
            rw [unhide HLL] at hr'; exact hr'
        have lgr : gr < w3.heap.size := ((unhide HD3).own.lt gr rfl).2
        have nB0 : w3.heap.size ≠ B := by omega
        have nBm : some w1.heap.size ≠ some B := by simpa using hBm
        have ngB : gr ≠ B := by have := (unhide HD3).nB; simpa [Value.ownBlock] using this
        have ngB' : some gr ≠ some B := by simpa using ngB
        have n3' : some w3.heap.size ≠ some B := by simpa using nB0
        have HRC : Hid (∀ K, K < 8 → ∃ u, Cf w3 gr K u) := fun K hK => by obtain ⟨⟨u, hu⟩, hf⟩ := (unhide HRM) K hK; exact ⟨u, hu, hf⟩
        have ce3 : Ce w3 w1.heap.size 1 (.slice (some ⟨gr, 0, none⟩) 8 c) := ⟨m1⟩
        have HNE : Hid (w.heap.size ≠ w1.heap.size) := by have := unhide HZ1; show w.heap.size ≠ w1.heap.size; omega
        go_wp2_with fail
        go_region_with (first
          | (go_at_call 45; have hh := HG4; clear hh; refine (pick_any B (q + 1 + 1) 2 _ (by with_reducible (repeat (first | assumption | apply Rd.drewK | apply Rd.allocK))) (by omega) (by omega)).mono ?_; rintro e w5 ⟨k5, rfl, a7, a8, r5, g5, s5⟩; obtain ⟨K5, rfl⟩ := Int.eq_ofNat_of_zero_le a7
             have hK5 : K5 < 2 := by have := a8 (by omega); omega
             have hK5' : (K5 : Int) < 2 := by omega
             obtain ⟨nv, hnv, hnv'⟩ := two (-1) 3 K5 hK5
             have ce5 : Ce w5 w1.heap.size 1 (.slice (some ⟨gr, 0, none⟩) 8 c) := Ce.far (by with_reducible (repeat (first | assumption | apply Ce.drewK | apply Ce.allocK))) g5 nBm
             have cec5 := ce5.cell
             have lm5 : w1.heap.size < w5.heap.size := lt_of_cell cec5
             have rr5 : Cf w5 gr K4 u4 := Cf.far (by with_reducible (repeat (first | assumption | apply Cf.drewK | apply Cf.allocK))) g5 ngB'
             have rc5 := rr5.cell
             have rf5 := rr5.free
             have lgr5 : gr < w5.heap.size := lt_of_cell rc5
             first
               | (refine (fun (c5 : Cf w5 w4.heap.size K5 (.int .i64 nv)) => ?_) ?side; (case side => (refine Cf.far ?_ g5 n4'; with_reducible (exact Cf.made _ hnv))); have cc5 := c5.cell)
               | (refine (fun (c5 : Cf w5 w3.heap.size K5 (.int .i64 nv)) => ?_) ?side; (case side => (exact Cf.far (c4 K5 _ hnv) g5 n3')); have cc5 := c5.cell)
               | skip
             have dd5 : MapDr w w5 B w.heap.size w1.heap.size (q + 1 + 1 + 1) V L (some ⟨gr, 0, none⟩) c := MapDr.pick (by with_reducible (repeat (first | assumption | apply MapDr.drewK | apply MapDr.allocK))) g5 r5 hB0 hBm
             have HG5 := hide g5
             have HR5 := hide r5
             have HS5 := hide s5
             clear g5 r5 s5 a8)
          | (go_at_call 45; refine (pick_any B (q + 1) 8 _ (by with_reducible (repeat (first | assumption | apply Rd.drewK | apply Rd.allocK))) (by omega) (by omega)).mono ?_; rintro e w4 ⟨k4, rfl, a5, a6, r4, g4, s4⟩; obtain ⟨K4, rfl⟩ := Int.eq_ofNat_of_zero_le a5
             have hK4 : K4 < 8 := by have := a6 (by omega); omega
             have hK4' : (K4 : Int) < 8 := by omega
             obtain ⟨u4, rr4⟩ := (unhide HRC) K4 hK4
             have l34 : w3.heap.size ≤ w4.heap.size := by have := s4; simp at this; omega
             have n4' : some w4.heap.size ≠ some B := by simp; omega
             have ce4 : Ce w4 w1.heap.size 1 (.slice (some ⟨gr, 0, none⟩) 8 c) := Ce.far (by with_reducible (repeat (first | assumption | apply Ce.drewK | apply Ce.allocK))) g4 nBm
             have cec4 := ce4.cell
             have lm4 : w1.heap.size < w4.heap.size := lt_of_cell cec4
             have rr4' : Cf w4 gr K4 u4 := Cf.far (by with_reducible (repeat (first | assumption | apply Cf.drewK | apply Cf.allocK))) g4 ngB'
             first
               | (refine (fun (c4 : ∀ K v, (#[.int .i64 (-1), .int .i64 3] : Array Value)[K]? = some v → Cf w4 w3.heap.size K v) => ?_) ?side; case side => (intro K v hv; refine Cf.far ?_ g4 n3'; with_reducible (repeat (first | exact Cf.made _ hv | apply Cf.drewK)); done))
               | skip
             have dd4 : MapDr w w4 B w.heap.size w1.heap.size (q + 1 + 1) V L (some ⟨gr, 0, none⟩) c := MapDr.pick (by with_reducible (repeat (first | assumption | apply MapDr.drewK | apply MapDr.allocK))) g4 r4 hB0 hBm
             have HG4 := hide g4
             have HS4 := hide s4
             clear g4 s4 a6 rr4))
        all_goals
          have hs5 := MapDr.setRow dd5 K4 nv hBl
          obtain ⟨hgS, hrS, h0S, hmS, hoS⟩ := hs5
          obtain ⟨s0, s1⟩ := hmS.two
          obtain ⟨s2, s3⟩ := h0S.two
          have s4' := h0S.free 0
          have s5' := h0S.free 1
          have lS := hmS.lt
          have lZ := h0S.lt
          simp at lS lZ
          clear dd3 dd4 dd5 ce3 ce4 ce5 rr5 rr4' m0 m1 f0 f1 d0 d1 e0 e1 r3 r4 cec4 cec5 rc5 rf5
          go_wp2_with fail
          first
            | (refine bodyPost_ret (results_cell_row rfl _ _ w.heap.size _ _ _ _ rfl (heap_setCell_same _ _ _ _ _ _ (heap_setCell_same _ _ _ _ _ _ h0S.row)) Try.underlying25 rfl (by kernel_rfl)) rfl ?_
               have hin := (owned_ins (xs := L.set K4 nv) (by rw [List.length_set, unhide HLL]; exact hoS)).1
               have hz1 := unhide HZ1
               have hb := blk_own hoS
               exact ⟨V, .slice (some ⟨gr, 0, none⟩) 8 c, L.set K4 nv, q + 1 + 1 + 1, by simp, (hin.set (by simpa [Value.ownBlock] using ngr) _ _).set (by simpa [Value.ownBlock] using ngr) _ _, by simpa using hb, by rw [List.length_set, unhide HLL]; omega, by omega, by omega, (hrS.set (by omega) _ _).set (by omega) _ _, by omega, grownBy_setOwn (grownBy_setOwn hgS (by omega) _ _) (by omega) _ _⟩)
            | (refine bodyPost_ret (results_cell_row rfl _ _ w.heap.size _ _ _ _ rfl ((heap_alloc_old _ _ (by simpa using lZ)).trans (heap_setCell_same _ _ _ _ _ _ (heap_setCell_same _ _ _ _ _ _ h0S.row))) Try.underlying25 rfl (by kernel_rfl)) rfl ?_
               have hin := (owned_ins (xs := L.set K4 nv) (by rw [List.length_set, unhide HLL]; exact hoS)).1
               have hz1 := unhide HZ1
               have hb := blk_own hoS
               exact ⟨V, .slice (some ⟨gr, 0, none⟩) 8 c, L.set K4 nv, q + 1 + 1 + 1, by simp, ((hin.set (by simpa [Value.ownBlock] using ngr) _ _).set (by simpa [Value.ownBlock] using ngr) _ _).kept ((Below.refl _ _).alloc (Nat.le_refl _) _), hb.wide (Nat.le_refl _) (by simp), by rw [List.length_set, unhide HLL]; omega, by omega, by omega, ((hrS.set (by omega) _ _).set (by omega) _ _).allocK, by omega, grownBy_alloc (grownBy_setOwn (grownBy_setOwn hgS (by omega) _ _) (by omega) _ _) _⟩)
      have hb1 : (k3 == 1) = false := by simpa using hk1
      by_cases hk2 : k3 = 2
      · have hb2 : (k3 == 2) = true := by simpa using hk2
        clear hk0 hk1 hk2
        have hc1 : (1 : Int) ≤ (c : Int) := by omega
        have HNE : Hid (w.heap.size ≠ w1.heap.size) := by have := unhide HZ1; show w.heap.size ≠ w1.heap.size; omega
        go_wp2_with fail
        refine bodyPost_ret (results_cell_row rfl _ _ w.heap.size _ _ _ _ rfl (heap_setCell_same _ _ _ _ _ _ (heap_setCell_same _ _ _ _ _ _ ((unhide HD3).res.setOther (unhide HNE) _ _).row)) Try.underlying25 rfl (by kernel_rfl)) rfl ?_
        have hd := unhide HD3
        have hin := (unhide HIN).tail (unhide HLL)
        have hz1 := unhide HZ1
        have hb : Blk (.slice (some ⟨gr, 1, none⟩) 7 (c - 1)) w.heap.size w3.heap.size := .inr ⟨gr, rfl, hd.own.lt gr rfl⟩
        refine ⟨V, .slice (some ⟨gr, 1, none⟩) 7 (c - 1), L.drop 1, q + 1, by simp, ((hin.set (by simpa [Value.ownBlock] using ngm) _ _).set (by simpa [Value.ownBlock] using ngr) _ _).set (by simpa [Value.ownBlock] using ngr) _ _, by simpa using hb, by rw [List.length_drop, unhide HLL]; omega, by omega, by omega, ((hd.rd.set (by omega) _ _).set (by omega) _ _).set (by omega) _ _, by omega, grownBy_setOwn (grownBy_setOwn (grownBy_setOwn hd.grown (by omega) _ _) (by omega) _ _) (by omega) _ _⟩
      have hb2 : (k3 == 2) = false := by simpa using hk2
      clear hk0 hk1 hk2
      go_wp2_with fail
      refine bodyPost_ret (results_cell_row rfl _ _ w.heap.size _ _ _ _ rfl (heap_setCell_same _ _ _ _ _ _ (heap_setCell_same _ _ _ _ _ _ (unhide HD3).res.row)) Try.underlying25 rfl (by kernel_rfl)) rfl ?_
      have hd := unhide HD3
      exact ⟨V, .slice (some ⟨gr, 0, none⟩) 8 c, L, q + 1, by simp, ((unhide HIN).set (by simpa [Value.ownBlock] using ngr) _ _).set (by simpa [Value.ownBlock] using ngr) _ _, by simpa using unhide HBK, by rw [unhide HLL]; omega, by omega, by omega, (hd.rd.set (by omega) _ _).set (by omega) _ _, by omega, grownBy_setOwn (grownBy_setOwn hd.grown (by omega) _ _) (by omega) _ _⟩

end Go.Proofs.Ytmclmdleplfgeaa
