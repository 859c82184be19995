/- The program lets one in: it holds the lock, or waits. -/
import Derived.Test.YtoojnhodjkpecaaLkIB
import Derived.Test.YtoojnhodjkpecaaLkL
namespace Go.Proofs.Ytoojnhodjkpecaa
open Go.RowKit Go.Shelf

def behindB (h o : Hd) : Bool := meetB h o && decide (o.stamp < h.stamp)
def takesB (h o : Hd) : Bool := meetB h o && decide (h.stamp < o.stamp) && !o.firm

set_option maxHeartbeats 1000000 in
theorem waitsBehind_any (a b : Hd) (w : World) : Calls Try.prog 71 #[hdV a, hdV b] w fun e w' => e = .returned (.bool (behindB a b)) ∧ Below w.heap.size w w' := by
  have HM := hide (fun ww => meets_any a b ww)
  have hfin : behindB a b = (meetB a b && decide (b.stamp < a.stamp)) := rfl
  have HF := hide hfin
  clear hfin
  obtain ⟨s, t, sh, fm⟩ := a
  obtain ⟨s', t', sh', fm'⟩ := b
  unfold hdV at *
  have bA : Below w.heap.size w ((w.alloc (.cells #[.int .i64 s, .int .i64 t, .bool sh, .bool fm] 27)).alloc (.cells #[.int .i64 s', .int .i64 t', .bool sh', .bool fm'] 27)) := ((Below.refl _ _).alloc (Nat.le_refl _) _).alloc (by simp) _
  have HX := hide ((Bx.made w 27 #[.int .i64 s, .int .i64 t, .bool sh, .bool fm]).allocK (o := .cells #[.int .i64 s', .int .i64 t', .bool sh', .bool fm'] 27))
  have HY := hide (Bx.made (w.alloc (.cells #[.int .i64 s, .int .i64 t, .bool sh, .bool fm] 27)) 27 #[.int .i64 s', .int .i64 t', .bool sh', .bool fm'])
  have HB := hide bA
  clear bA
  go_enter Try.func71, Try.ntmps71
  go_wp2_with fail
  refine (unhide HM _).mono ?_
  rintro e w1 ⟨rfl, hb1⟩
  obtain ⟨q0, q1, q2, q3⟩ := ((unhide HX).kept hb1).four
  obtain ⟨r0, r1, r2, r3⟩ := ((unhide HY).kept hb1).four
  simp at r0 r1 r2 r3
  have HB1 := hide ((unhide HB).trans (hb1.mono (unhide HB).size))
  clear hb1
  cases t1 : meetB ⟨s, t, sh, fm⟩ ⟨s', t', sh', fm'⟩
  · go_wp2_with fail
    go_ret
    exact ⟨ret_bool (by rw [unhide HF, t1]; rfl), unhide HB1⟩
  by_cases t2 : s' < s
  all_goals
    go_wp2_with fail
    go_ret
    exact ⟨ret_bool (by rw [unhide HF, t1]; simp [t2]), unhide HB1⟩

set_option maxHeartbeats 1000000 in
theorem takesFrom_any (a b : Hd) (w : World) : Calls Try.prog 68 #[hdV a, hdV b] w fun e w' => e = .returned (.bool (takesB a b)) ∧ Below w.heap.size w w' := by
  have HM := hide (fun ww => meets_any a b ww)
  have hfin : takesB a b = (meetB a b && decide (a.stamp < b.stamp) && !b.firm) := rfl
  have HF := hide hfin
  clear hfin
  obtain ⟨s, t, sh, fm⟩ := a
  obtain ⟨s', t', sh', fm'⟩ := b
  unfold hdV at *
  have bA : Below w.heap.size w ((w.alloc (.cells #[.int .i64 s, .int .i64 t, .bool sh, .bool fm] 27)).alloc (.cells #[.int .i64 s', .int .i64 t', .bool sh', .bool fm'] 27)) := ((Below.refl _ _).alloc (Nat.le_refl _) _).alloc (by simp) _
  have HX := hide ((Bx.made w 27 #[.int .i64 s, .int .i64 t, .bool sh, .bool fm]).allocK (o := .cells #[.int .i64 s', .int .i64 t', .bool sh', .bool fm'] 27))
  have HY := hide (Bx.made (w.alloc (.cells #[.int .i64 s, .int .i64 t, .bool sh, .bool fm] 27)) 27 #[.int .i64 s', .int .i64 t', .bool sh', .bool fm'])
  have HB := hide bA
  clear bA
  go_enter Try.func68, Try.ntmps68
  go_wp2_with fail
  refine (unhide HM _).mono ?_
  rintro e w1 ⟨rfl, hb1⟩
  obtain ⟨q0, q1, q2, q3⟩ := ((unhide HX).kept hb1).four
  obtain ⟨r0, r1, r2, r3⟩ := ((unhide HY).kept hb1).four
  simp at r0 r1 r2 r3
  have HB1 := hide ((unhide HB).trans (hb1.mono (unhide HB).size))
  clear hb1
  cases t1 : meetB ⟨s, t, sh, fm⟩ ⟨s', t', sh', fm'⟩
  · go_wp2_with fail
    go_ret
    exact ⟨ret_bool (by rw [unhide HF, t1]; rfl), unhide HB1⟩
  by_cases t2 : s < s'
  all_goals
    cases fm'
    all_goals
      go_wp2_with fail
      go_ret
      exact ⟨ret_bool (by rw [unhide HF, t1]; simp [t2]), unhide HB1⟩

theorem hasBehind_any (h : Hd) (v : Value) (hs : List Hd) (w : World) (hv : RowAt hdE w v hs) :
    Calls Try.prog 69 #[v, .func (.func 71) #[hdV h] #[]] w fun e w' => e = .returned (.bool (hs.any (behindB h))) ∧ Below w.heap.size w w' :=
  containsFunc_any 71 _ (behindB h) (enters_of Try.func71 (by kernel_rfl) rfl) (fun x ww => waitsBehind_any h x ww) v hs w hv

/-- Of what lay in w only the blocks of S have turned. -/
structure Fr (w w' : World) (S : Nat → Prop) : Prop where
  os : w'.os = w.os
  tape : w'.tape = w.tape
  output : w'.output = w.output
  size : w.heap.size ≤ w'.heap.size
  block : ∀ k, k < w.heap.size → ¬ S k → w'.heap[k]? = w.heap[k]?

theorem fr_gr {w w' : World} {row : Option Nat} (h : w.grownBy w' row) : Fr w w' (fun k => row = some k) := ⟨h.os, h.tape, h.output, h.size, fun k hk hn => h.block k hk (fun e => hn e.symm)⟩
theorem fr_below {w w' : World} (h : Below w.heap.size w w') (S : Nat → Prop) : Fr w w' S := ⟨h.os, h.tape, h.output, h.size, fun k hk _ => h.block k hk⟩
theorem Fr.mono {w w' : World} {S T : Nat → Prop} (h : Fr w w' S) (hs : ∀ k, k < w.heap.size → S k → T k) : Fr w w' T := ⟨h.os, h.tape, h.output, h.size, fun k hk hn => h.block k hk (fun e => hn (hs k hk e))⟩
theorem Fr.trans {a b c : World} {S T : Nat → Prop} (h : Fr a b S) (k : Fr b c T) (ht : ∀ i, i < a.heap.size → T i → S i) : Fr a c S :=
  ⟨k.os.trans h.os, k.tape.trans h.tape, k.output.trans h.output, Nat.le_trans h.size k.size, fun i hi hn => (k.block i (Nat.lt_of_lt_of_le hi h.size) (fun e => hn (ht i hi e))).trans (h.block i hi hn)⟩
theorem Fr.set {a b : World} {S : Nat → Prop} (h : Fr a b S) (g j : Nat) (u : Value) (hg : g < a.heap.size → S g) : Fr a (b.setCell ⟨g, j, none⟩ u) S :=
  h.trans (fr_gr (grownBy_set (grownBy_refl b (some g)) j u)) (fun i hi e => by simp at e; subst e; exact hg hi)
theorem Fr.bx {w w' : World} {S : Nat → Prop} {g : Nat} {T : TypeId} {cs : Array Value} (h : Fr w w' S) (hb : Bx w g T cs) (hn : ¬ S g) : Bx w' g T cs := ⟨(h.block g hb.lt hn).trans hb.row⟩
theorem Fr.row {w w' : World} {S : Nat → Prop} {base e k n : Nat} {v : Value} {xs : List Value} (h : Fr w w' S) (ho : w.ownsRow base e k v n xs) (hn : ∀ q, v.ownBlock = some q → ¬ S q) : w'.ownsRow base e k v n xs := by
  obtain ⟨h1, h2⟩ := ho
  refine ⟨h1, ?_⟩
  rcases h2 with h2 | ⟨g, cap, cur, rfl, hg, hh, r⟩
  · exact .inl h2
  · have hlt : g < w.heap.size := (Array.getElem?_eq_some_iff.1 hh).1
    exact .inr ⟨g, cap, cur, rfl, hg, by rw [h.block g hlt (hn g rfl)]; exact hh, r⟩
theorem Fr.below {w w' : World} {S : Nat → Prop} {B : Nat} {a : World} (h : Fr w w' S) (hb : Below B a w) (hB : B ≤ w.heap.size) (hn : ∀ k, k < B → ¬ S k) : Below B a w' :=
  ⟨h.os.trans hb.os, h.tape.trans hb.tape, h.output.trans hb.output, Nat.le_trans hb.size h.size, fun k hk => (h.block k (by omega) (hn k hk)).trans (hb.block k hk)⟩

def letInL (l : Lk) (h : Hd) : Lk := if (l.held.any (meetB h) || l.waits.any (behindB h)) = true then ⟨l.slot, l.held, putI l.waits h⟩ else ⟨l.slot, putI l.held h, l.waits⟩
def letInC (l : Lk) (h : Hd) : Bool := !(l.held.any (meetB h) || l.waits.any (behindB h))

end Go.Proofs.Ytoojnhodjkpecaa
