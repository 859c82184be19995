/- A deal that is done, as the specification does it: the walk. -/
import Derived.Test.YtimnhgncnhmgcaaSet
namespace Go.Proofs.Ytimnhgncnhmgcaa
open Go.RowKit

theorem drop_cons_getD {α : Type} {xs : List α} (d : α) {j : Nat} (hj : j < xs.length) : xs.drop j = xs.getD j d :: xs.drop (j + 1) := by
  rw [List.drop_eq_getElem_cons hj]; simp [List.getD, hj]

theorem runM_ok {ss : List St} {j : Nat} {x : St} {s s' : Sta} (hj : j < ss.length) (hx : ss.getD j St.z = x) (h : stepM x s = .ok s') : runM (ss.drop j) s = runM (ss.drop (j + 1)) s' := by
  rw [drop_cons_getD St.z hj, hx]; simp only [runM, h]

theorem runM_err {ss : List St} {j : Nat} {x : St} {s : Sta} {k : Int} (hj : j < ss.length) (hx : ss.getD j St.z = x) (h : stepM x s = .error k) : runM (ss.drop j) s = .error k := by
  rw [drop_cons_getD St.z hj, hx]; simp only [runM, h]

theorem step_get {x : St} {s : Sta} (h : x.op = 1) : stepM x s = .ok ⟨s.f, s.c, s.g ++ [s.f x.key.toNat]⟩ := by simp [stepM, h]
theorem step_refused {x : St} {s : Sta} (h : x.op = 4) (h1 : s.f x.key.toNat < x.num) : stepM x s = .error 1 := by simp [stepM, h, h1]
theorem step_needed {x : St} {s : Sta} (h : x.op = 4) (h1 : ¬ s.f x.key.toNat < x.num) : stepM x s = .ok s := by simp [stepM, h, h1]
theorem step_add {x : St} {s : Sta} (h : x.op = 3) (h1 : valB (s.f x.key.toNat + x.num) = true) : stepM x s = .ok ⟨upd s.f x.key.toNat (s.f x.key.toNat + x.num), upd s.c x.key.toNat true, s.g⟩ := by simp [stepM, h, h1]
theorem step_over {x : St} {s : Sta} (h : x.op = 3) (h1 : valB (s.f x.key.toNat + x.num) = false) : stepM x s = .error 2 := by simp [stepM, h, h1]
theorem step_put {x : St} {s : Sta} (h : x.op = 2) (h1 : valB x.num = true) : stepM x s = .ok ⟨upd s.f x.key.toNat x.num, upd s.c x.key.toNat true, s.g⟩ := by simp [stepM, h, h1]

theorem dealOk_at {ss : List St} (h : dealOk ss = true) {j : Nat} (hj : j < ss.length) : stOk (ss.getD j St.z) = true := by
  simp only [dealOk, Bool.and_eq_true] at h
  exact List.all_eq_true.1 h.2 _ (by simp [List.getD, hj])

theorem dealOk_len {ss : List St} (h : dealOk ss = true) : 1 ≤ ss.length ∧ ss.length ≤ 6 := by
  simp only [dealOk, Bool.and_eq_true, decide_eq_true_eq] at h
  exact h.1

theorem stOk_parts {x : St} (h : stOk x = true) : 1 ≤ x.op ∧ x.op ≤ 4 ∧ 0 ≤ x.key ∧ x.key ≤ 31 ∧ valB x.num = true := by
  simp only [stOk, Bool.and_eq_true, inB, decide_eq_true_eq] at h
  obtain ⟨⟨⟨a, b⟩, c⟩, _⟩ := h
  exact ⟨a.1, a.2, b.1, b.2, c⟩

theorem valB_bounds {n : Int} (h : valB n = true) : -9999 ≤ n ∧ n ≤ 9999 := by simpa [valB, inB] using h

theorem start_val {ps : List Pr} (h : inForm ps = true) (q : Nat) : valB ((startM ps).f q) = true := by
  show valB (getP ps q) = true
  have : ∀ (l : List Pr), (∀ p ∈ l, valB p.val = true) → valB (getP l q) = true := by
    intro l
    induction l with
    | nil => intro _; show valB 0 = true; decide
    | cons p r ih =>
      intro hl
      simp only [getP]; split
      · exact hl p (by simp)
      · exact ih (fun a ha => hl a (by simp [ha]))
  exact this ps (fun p hp => (inForm_mem h hp).2.2)

theorem upd_val {f : Nat → Int} (h : ∀ q, valB (f q) = true) {k : Nat} {n : Int} (hn : valB n = true) (q : Nat) : valB (upd f k n q) = true := by
  unfold upd; split
  · exact hn
  · exact h q

theorem upd_zero {f : Nat → Int} {P : Nat → Bool} (h : ∀ q, P q = false → f q = 0) {k : Nat} {n : Int} (q : Nat) (hq : upd P k true q = false) : upd f k n q = 0 := by
  unfold upd at hq ⊢
  split at hq
  · cases hq
  · rename_i e; rw [if_neg e]; exact h q hq

theorem getP_hasP_none {ps : List Pr} {q : Nat} (h : hasP ps q = false) : getP ps q = 0 := by
  induction ps with
  | nil => rfl
  | cons p r ih =>
    simp only [hasP, List.any_cons, Bool.or_eq_false_iff, decide_eq_false_iff_not] at h
    simp only [getP, if_neg h.1]
    exact ih (by simpa [hasP] using h.2)

theorem getP_now {f : Nat → Int} {P : Nat → Bool} (h : ∀ q, P q = false → f q = 0) {k M : Nat} (hk : k < M) : getP (chTo f P M) k = f k := by
  rw [getP_chTo]
  cases hp : P k
  · simp [h k hp]
  · simp [hk]

theorem Try.infoInt2 : (Try.prog.info? 3).map (fun i => (i.zero, i.size, i.bytes)) = some (some (.int .i64 0), 1, 8) := by kernel_rfl

theorem PrsAt.lt {w : World} {v : Value} {ps : List Pr} (h : PrsAt w v ps) : ps = [] ∨ ∃ b, v.ownBlock = some b ∧ b < w.heap.size := by
  obtain ⟨a, cap, rfl, h1, h2, h3⟩ := h
  rcases h3 with h3 | ⟨b, off, rfl, hc⟩
  · exact .inl h3
  · by_cases h0 : ps.length = 0
    · exact .inl (List.eq_nil_of_length_eq_zero h0)
    · exact .inr ⟨b, rfl, lt_of_cell (hc 0 (by omega)).1⟩

theorem PrsAt.far' {w w' : World} {row : Option Nat} {v : Value} {ps : List Pr} (h : PrsAt w v ps) (hg : w.grownBy w' row) (hne : ps = [] ∨ v.ownBlock ≠ row) : PrsAt w' v ps := by
  rcases hne with hne | hne
  · obtain ⟨a, cap, hv, h1, h2, _⟩ := h
    exact ⟨a, cap, hv, h1, h2, .inl hne⟩
  · exact h.far hg (.inr hne)

theorem dist_prs {w : World} {v : Value} {ps : List Pr} {row : Option Nat} {g H : Nat} (h : PrsAt w v ps) (hne : ps = [] ∨ v.ownBlock ≠ row) (hat : row = some g ∨ g = H) (hH : w.heap.size ≤ H) : ps = [] ∨ v.ownBlock ≠ some g := by
  rcases hne with hne | hne
  · exact .inl hne
  · rcases hat with hat | hat
    · right; rw [← hat]; exact hne
    · rcases h.lt with h0 | ⟨b, hb, hlt⟩
      · exact .inl h0
      · right; rw [hb]; intro e; simp at e; omega

theorem dist_own {w : World} {base e s : Nat} {v : Value} {n : Nat} {xs : List Value} {row : Option Nat} {g H : Nat} (h : w.ownsRow base e s v n xs) (hne : v.ownBlock = none ∨ v.ownBlock ≠ row) (hat : row = some g ∨ g = H) (hH : w.heap.size ≤ H) : v.ownBlock = none ∨ v.ownBlock ≠ some g := by
  rcases hne with hne | hne
  · exact .inl hne
  · rcases hat with hat | hat
    · right; rw [← hat]; exact hne
    · cases hv : v.ownBlock with
      | none => exact .inl rfl
      | some b => right; have := (h.lt b hv).2; intro e; simp at e; omega

/-- A row that was made later lies elsewhere. -/
theorem dist_new {w w' : World} {base B e s e' s' : Nat} {v u : Value} {n n' : Nat} {xs ys : List Value} (h : w.ownsRow base e s v n xs) (h' : w'.ownsRow B e' s' u n' ys) (hB : w.heap.size ≤ B) : u.ownBlock = none ∨ u.ownBlock ≠ v.ownBlock := by
  cases hu : u.ownBlock with
  | none => exact .inl rfl
  | some b =>
    right
    have h1 := (h'.lt b hu).1
    cases hv : v.ownBlock with
    | none => simp
    | some c => have h2 := (h.lt c hv).2; intro e; simp at e; omega

theorem dist_symm {a b : Option Nat} (h : b = none ∨ b ≠ a) : a = none ∨ a ≠ b := by
  rcases h with h | h
  · subst h; cases a <;> simp
  · exact .inr (fun e => h e.symm)

/-- What comes of a deal, as values in memory. -/
def RunAt (w : World) (base : Nat) (R : Except Int Sta) (a b : Value) : Prop :=
  w.ownsRow base 3 1 a (gotM R).length ((gotM R).map (Value.int .i64)) ∧ w.ownsRow base 39 2 b (chM R).length (prFlat (chM R)) ∧ (a.ownBlock = none ∨ a.ownBlock ≠ b.ownBlock)

theorem runAt_two (w : World) (base : Nat) (hb : base ≤ w.heap.size) (k : Int) : RunAt ((w.alloc (.cells #[] 3)).alloc (.cells #[] 39)) base (.error k) (.slice (some ⟨w.heap.size, 0, none⟩) 0 0) (.slice (some ⟨w.heap.size + 1, 0, none⟩) 0 0) := by
  refine ⟨(World.ownsRow_made w #[] 0 hb (by simp [maxLen]) (by simp)).alloc _, ?_, .inr (by simp [Value.ownBlock])⟩
  have := World.ownsRow_made (w := w.alloc (.cells #[] 3)) (base := base) (e := 39) (size := 2) #[] 0 (by simp; omega) (by simp [maxLen]) (by simp)
  rw [show (w.alloc (.cells #[] 3)).heap.size = w.heap.size + 1 from by simp] at this
  exact this

theorem runAt_two' (w : World) (base : Nat) (hb : base ≤ w.heap.size) (H : Nat) (hH : w.heap.size = H) (k : Int) : RunAt ((w.alloc (.cells #[] 3)).alloc (.cells #[] 39)) base (.error k) (.slice (some ⟨H, 0, none⟩) 0 0) (.slice (some ⟨H + 1, 0, none⟩) 0 0) := by
  subst hH; exact runAt_two w base hb k

set_option maxRecDepth 100000 in
set_option maxHeartbeats 2000000 in
theorem specRun_any (v u : Value) (ss : List St) (ps : List Pr) (w : World) (hv : StsAt w v ss) (hu : PrsAt w u ps) :
    Calls Try.prog 16 #[v, u] w fun e w' => ∃ a b, e = .returned (.tuple #[.int .i64 (codeM (dealM ss ps)), a, b]) ∧ RunAt w' w.heap.size (dealM ss ps) a b ∧ Below w.heap.size w w' := by
  have HU := hide hu
  have HV := hide hv
  clear hu
  cases ha : dealOk ss
  · have HP : Hid (dealM ss ps = .error 9) := by show dealM ss ps = _; unfold dealM; rw [ha]; rfl
    go_enter Try.func16, Try.ntmps16
    go_wp2_with fail
    refine (specDealOk_any _ ss _ (unhide HV)).mono ?_; rintro e w1 ⟨rfl, hb1⟩
    go_wp2_with fail
    go_ret3
    rw [unhide HP]
    exact ⟨_, _, rfl, runAt_two w1 _ hb1.size 9, (hb1.alloc hb1.size _).alloc (by have := hb1.size; simp; omega) _⟩
  cases hb : inForm ps
  · have HP : Hid (dealM ss ps = .error 9) := by show dealM ss ps = _; unfold dealM; rw [hb]; simp
    go_enter Try.func16, Try.ntmps16
    go_wp2_with fail
    refine (specDealOk_any _ ss _ (unhide HV)).mono ?_; rintro e w1 ⟨rfl, hb1⟩
    go_wp2_with fail
    refine (l1Pairs_any _ ps _ ((unhide HU).kept hb1)).mono ?_; rintro e w2 ⟨rfl, hb2⟩
    have hb12 := hb1.trans (hb2.mono hb1.size)
    go_wp2_with fail
    go_ret3
    rw [unhide HP]
    exact ⟨_, _, rfl, runAt_two w2 _ hb12.size 9, (hb12.alloc hb12.size _).alloc (by have := hb12.size; simp; omega) _⟩
  have HR : Hid (dealM ss ps = runM ss (startM ps)) := by show dealM ss ps = _; unfold dealM; rw [ha, hb]; rfl
  have HDK := hide ha
  have HIN := hide hb
  have hlen := dealOk_len ha
  obtain ⟨av, cv, rfl, hv1, hv2, hv3⟩ := hv
  have HV3 := hide hv3
  clear hv3
  generalize hN : ss.length = N at *
  have HN := hide hN
  clear hN
  unfold maxLen at hv2
  generalize hR : dealM ss ps = R at *
  obtain ⟨M, HM⟩ : ∃ M : Nat, Hid (M = 32) := ⟨32, rfl⟩
  go_enter Try.func16, Try.ntmps16
  go_wp2_with fail
  refine (specDealOk_any _ ss _ (unhide HV)).mono ?_; rintro e w1 ⟨rfl, hb1⟩
  go_wp2_with fail
  refine (l1Pairs_any _ ps _ ((unhide HU).kept hb1)).mono ?_; rintro e w2 ⟨rfl, hb2⟩
  have hb12 := hb1.trans (hb2.mono hb1.size)
  clear hb1 hb2 hR
  go_wp2_with fail
  clear ha hb
  have z12 := hb12.size
  have hoG := (World.ownsRow_made (w := w2) (base := w.heap.size) (e := 3) (size := 1) #[] 0 z12 (by simp [maxLen]) (by simp)).alloc (.cells #[] 39)
  have hoC := World.ownsRow_made (w := w2.alloc (.cells #[] 3)) (base := w.heap.size) (e := 39) (size := 2) #[] 0 (by simp; omega) (by simp [maxLen]) (by simp)
  rw [show (w2.alloc (.cells #[] 3)).heap.size = w2.heap.size + 1 from by simp] at hoC
  obtain ⟨i0, hi, hz0, hz1, hz2⟩ := info_parts Try.infoPr2
  obtain ⟨j0, hj0, hy0, hy1, hy2⟩ := info_parts Try.infoInt2
  go_loopw [7, 8, 9, 10] (fun nowv gotv chv i wr => ∃ (j : Nat) (s : Sta) (P : Nat → Bool), j ≤ N ∧ i = .int .i64 j ∧ Below w.heap.size w wr ∧ runM (ss.drop j) s = R ∧ (∀ q, valB (s.f q) = true) ∧ (∀ q, P q = false → s.f q = 0) ∧ s.g.length ≤ j ∧
      PrsAt wr nowv (chTo s.f P M) ∧ wr.ownsRow w.heap.size 3 1 gotv s.g.length (s.g.map (Value.int .i64)) ∧ wr.ownsRow w.heap.size 39 2 chv (chTo s.f s.c M).length (prFlat (chTo s.f s.c M)) ∧
      (chTo s.f P M = [] ∨ nowv.ownBlock ≠ gotv.ownBlock) ∧ (chv.ownBlock = none ∨ chv.ownBlock ≠ gotv.ownBlock)) (fun _ _ _ i _ => N - (intOf i).toNat)
  case atStart =>
    refine ⟨0, startM ps, hasP ps, Nat.zero_le _, rfl, (hb12.alloc z12 _).alloc (by simp; omega) _, by rw [unhide HR]; rfl, start_val (unhide HIN), fun q h => getP_hasP_none h, by simp [startM], ?_, hoG, ?_, ?_, .inr (by simp [Value.ownBlock])⟩
    · have := ((unhide HU).kept hb12).kept (((Below.refl _ _).alloc (Nat.le_refl _) (.cells #[] 3)).alloc (by simp) (.cells #[] 39))
      rw [inForm_chTo (unhide HIN), ← unhide HM] at this
      exact this
    · have : chTo (startM ps).f (startM ps).c M = [] := chTo_none _ _
      rw [this]; exact hoC
    · rcases (unhide HU).lt with h | ⟨b, h, hlt⟩
      · left; rw [unhide HM, ← h]; exact (inForm_chTo (unhide HIN)).symm
      · right; rw [h]; intro e; simp [Value.ownBlock] at e; omega
  case round =>
    obtain ⟨j, s, P, hj, rfl, hbr, hrun, hval, hzero, hgl, hnow, hgot, hch, hd1, hd2⟩ := hrel
    clear hoG hoC
    have HRUN := hide hrun
    have HVAL := hide hval
    have HZ := hide hzero
    have HNOW := hide hnow
    have HD1 := hide hd1
    have HD2 := hide hd2
    have HG := hide hgot
    have HC := hide hch
    clear hrun hval hzero hnow hd1 hd2 hgot hch
    have zr := hbr.size
    by_cases hlt : j < N
    · obtain ⟨b, off, rfl, hc⟩ : ∃ b off, av = some ⟨b, off, none⟩ ∧ StCells w b off N ss := by
        rcases unhide HV3 with h3 | h3
        · have := unhide HN; subst h3; simp at this; omega
        · exact h3
      obtain ⟨c0, c1, c2⟩ := (hc.kept hbr) j hlt
      have hok := dealOk_at (unhide HDK) (j := j) (by rw [unhide HN]; exact hlt)
      have HRO : Hid (∀ s', stepM (ss.getD j St.z) s = .ok s' → runM (ss.drop (j + 1)) s' = R) := fun s' h => by rw [← unhide HRUN]; exact (runM_ok (by rw [unhide HN]; exact hlt) rfl h).symm
      have HRE : Hid (∀ k, stepM (ss.getD j St.z) s = .error k → R = .error k) := fun k h => by rw [← unhide HRUN]; exact runM_err (by rw [unhide HN]; exact hlt) rfl h
      generalize hx : ss.getD j St.z = x at c0 c1 c2 hok HRO HRE
      clear hc hx
      obtain ⟨o1, o2, o3, o4, o5⟩ := stOk_parts hok
      have hnb := valB_bounds o5
      have HO5 := hide o5
      clear hok o5
      obtain ⟨K, hK⟩ : ∃ K : Nat, x.key = K := ⟨x.key.toNat, by omega⟩
      have hKt : x.key.toNat = K := by omega
      have hKM : K < M := by rw [unhide HM]; omega
      have hMl : M ≤ 32 := by rw [unhide HM]; exact Nat.le_refl _
      have hgp := getP_now (unhide HZ) hKM
      have hfv := valB_bounds (unhide HVAL K)
      rw [hK] at c1
      have HK := hide hKt
      clear hKt hK o3 o4
      generalize hF : s.f K = FK at hgp hfv
      have HF := hide hF
      have HGP := hide hgp
      clear hF hgp
      have bA : ∀ o, Below wr.heap.size wr (wr.alloc o) := fun o => (Below.refl _ _).alloc (Nat.le_refl _) o
      by_cases op1 : x.op = 1
      · have HS := unhide HRO _ (step_get (s := s) op1)
        rw [unhide HK, unhide HF] at HS
        have HS' := hide HS
        rw [op1] at c0
        clear HS op1
        go_wp2_with fail
        refine (l1Get_any _ _ K _ ((unhide HNOW).kept (bA _))).mono ?_; rintro e w' ⟨rfl, rfl⟩
        rw [unhide HGP]
        clear bA
        have hnews := World.news_of_block (heap_alloc_new (wr.alloc (.cells #[.int .i64 1, .int .i64 K, .int .i64 x.num] 33)) (.cells #[.int .i64 FK] 3))
        rw [show (wr.alloc (.cells #[.int .i64 1, .int .i64 K, .int .i64 x.num] 33)).heap.size = wr.heap.size + 1 from by simp] at hnews
        have HNEWS := hide hnews
        clear hnews
        go_wp2_with (at_builtin; refine wpList_append_lies _ rfl (.tmp 46) (.tmp 48) 27 rfl w.heap.size 3 j0 (.int .i64 0) 1 8 Try.underlying27 hj0 hy0 hy1 hy2 rfl (by decide) _ s.g.length _ rfl (((unhide HG).alloc _).alloc _) ⟨wr.heap.size + 1, 0, none⟩ 1 1 [.int .i64 FK] rfl rfl (unhide HNEWS) (by simp [Value.oneCell']) (by decide) (by unfold maxLen; omega) (by omega) (by simp; omega) (wr.heap.size + 2) (by simp) ?_; intro g cp w3 hown2 hgrow hat hlt2)
        have bA : ∀ o, Below wr.heap.size wr (wr.alloc o) := fun o => (Below.refl _ _).alloc (Nat.le_refl _) o
        have hbw : Below w.heap.size w w3 := Below.grown ((hbr.alloc zr _).alloc (by simp; omega) _) hgrow (by simp; omega) (fun q hq => ((unhide HG).lt q hq).1)
        have hnA := ((unhide HNOW).kept (bA (.cells #[.int .i64 1, .int .i64 K, .int .i64 x.num] 33))).kept ((Below.refl _ _).alloc (Nat.le_refl _) (.cells #[.int .i64 FK] 3))
        have hcA := ((unhide HC).alloc (.cells #[.int .i64 1, .int .i64 K, .int .i64 x.num] 33)).alloc (.cells #[.int .i64 FK] 3)
        go_roundw
        case rel =>
          refine ⟨j + 1, _, P, hlt, by go_num, hbw, unhide HS', unhide HVAL, unhide HZ, by simp; omega, hnA.far' hgrow (unhide HD1), ?_, hcA.kept hgrow (unhide HD2), dist_prs hnA (unhide HD1) hat (by simp), dist_own hcA (unhide HD2) hat (by simp)⟩
          simpa using hown2
        case measure => simp [intOf]; omega
      by_cases op4 : x.op = 4
      · by_cases hle : FK < x.num
        · have HS := unhide HRE _ (step_refused (s := s) op4 (by rw [unhide HK, unhide HF]; exact hle))
          have HS' := hide HS
          rw [op4] at c0
          clear HS op4 op1
          go_wp2_with fail
          refine (l1Get_any _ _ K _ ((unhide HNOW).kept (bA _))).mono ?_; rintro e w' ⟨rfl, rfl⟩
          rw [unhide HGP]
          clear bA
          go_wp2_with fail
          go_ret3
          rw [unhide HS']
          refine ⟨_, _, rfl, runAt_two' (wr.alloc (.cells #[.int .i64 4, .int .i64 K, .int .i64 x.num] 33)) _ (by simp; omega) (wr.heap.size + 1) (by simp) 1, ?_⟩
          exact ((hbr.alloc zr _).alloc (by simp; omega) _).alloc (by simp; omega) _
        · have HS := unhide HRO _ (step_needed (s := s) op4 (by rw [unhide HK, unhide HF]; exact hle))
          have HS' := hide HS
          rw [op4] at c0
          clear HS op4 op1
          go_wp2_with fail
          refine (l1Get_any _ _ K _ ((unhide HNOW).kept (bA _))).mono ?_; rintro e w' ⟨rfl, rfl⟩
          rw [unhide HGP]
          have BA := hide (bA (.cells #[.int .i64 4, .int .i64 K, .int .i64 x.num] 33))
          clear bA
          go_wp2_with fail
          have bA := unhide BA
          go_roundw
          case rel => exact ⟨j + 1, s, P, hlt, by go_num, hbr.trans (bA.mono zr), unhide HS', unhide HVAL, unhide HZ, by omega, (unhide HNOW).kept bA, ownsRow_below (unhide HG) bA, ownsRow_below (unhide HC) bA, unhide HD1, unhide HD2⟩
          case measure => simp [intOf]; omega
      by_cases op3 : x.op = 3
      · cases hvb : valB (FK + x.num)
        · have HS := unhide HRE _ (step_over (s := s) op3 (by rw [unhide HK, unhide HF]; exact hvb))
          have HS' := hide HS
          rw [op3] at c0
          clear HS op4 op1 op3
          go_wp2_with fail
          refine (l1Get_any _ _ K _ ((unhide HNOW).kept (bA _))).mono ?_; rintro e w' ⟨rfl, rfl⟩
          rw [unhide HGP]
          clear bA
          go_wp2_with fail
          refine (l1Val_any _ _).mono ?_; rintro e w' ⟨rfl, rfl⟩
          go_wp2_with fail
          go_ret3
          rw [unhide HS']
          refine ⟨_, _, rfl, runAt_two' (wr.alloc (.cells #[.int .i64 3, .int .i64 K, .int .i64 x.num] 33)) _ (by simp; omega) (wr.heap.size + 1) (by simp) 2, ?_⟩
          exact ((hbr.alloc zr _).alloc (by simp; omega) _).alloc (by simp; omega) _
        have HVB := hide hvb
        have HS := unhide HRO _ (step_add (s := s) op3 (by rw [unhide HK, unhide HF]; exact hvb))
        rw [unhide HK, unhide HF] at HS
        have HS' := hide HS
        rw [op3] at c0
        clear HS op4 op1 op3
        go_wp2_with fail
        refine (l1Get_any _ _ K _ ((unhide HNOW).kept (bA _))).mono ?_; rintro e w' ⟨rfl, rfl⟩
        rw [unhide HGP]
        have BA := hide (bA (.cells #[.int .i64 3, .int .i64 K, .int .i64 x.num] 33))
        clear bA
        go_wp2_with fail
        refine (l1Val_any _ _).mono ?_; rintro e w' ⟨rfl, rfl⟩
        go_wp2_with fail
        have bA := unhide BA
        refine (l1Set_any _ _ K (FK + x.num) _ ((unhide HNOW).kept bA) (by have := chTo_length s.f P M; omega)).mono ?_; clear bA; rintro e w3 ⟨r1, rfl, ho3, hb3⟩
        rw [setP_chTo _ _ _ _ _ hKM] at ho3
        have bA3 := (unhide BA).trans (hb3.mono (unhide BA).size)
        have HO3 := hide ho3
        have HB3 := hide hb3
        have BA3 := hide bA3
        have k1 : w3.cell? ⟨wr.heap.size, 1, none⟩ = some (.int .i64 K) := cell_kept hb3 (by rw [World.cell?_alloc_at _ _ _ _ rfl]; rfl)
        clear ho3 hb3 bA3
        go_wp2_with fail
        have bA := unhide BA
        have ho3 := unhide HO3
        have hb3 := unhide HB3
        have bA3 := unhide BA3
        refine (l1Set_any _ _ K (FK + x.num) _ (((owned_prs (unhide HC)).1.kept bA).kept hb3) (by have := chTo_length s.f s.c M; omega)).mono ?_; rintro e w4 ⟨r2, rfl, ho4, hb4⟩
        rw [setP_chTo _ _ _ _ _ hKM] at ho4
        have bA4 := bA3.trans (hb4.mono bA3.size)
        have z3 := hb3.size
        have z4 := hb4.size
        simp at z3
        have HO4 := hide ho4
        have HB4 := hide hb4
        have BA4 := hide bA4
        clear ho3 hb3 bA3 ho4 hb4 bA4 bA
        have hzA : (wr.alloc (.cells #[.int .i64 3, .int .i64 K, .int .i64 x.num] 33)).heap.size = wr.heap.size + 1 := by simp
        have HZA := hide hzA
        clear hzA
        go_wp2_with fail
        have bA := unhide BA
        have ho3 := unhide HO3
        have hb3 := unhide HB3
        have bA3 := unhide BA3
        have ho4 := unhide HO4
        have hb4 := unhide HB4
        have bA4 := unhide BA4
        have hzA := unhide HZA
        go_roundw
        case rel =>
          refine ⟨j + 1, _, upd P K true, hlt, by go_num, hbr.trans (bA4.mono zr), unhide HS', upd_val (unhide HVAL) (unhide HVB), upd_zero (unhide HZ), by show s.g.length ≤ j + 1; omega, (owned_prs ho3).1.kept hb4, ownsRow_below (ownsRow_below (ownsRow_below (unhide HG) bA) hb3) hb4, ownsRow_base ho4 (by omega), ?_, ?_⟩
          · right
            rcases dist_new (unhide HG) ho3 (by rw [hzA]; omega) with h | h
            · rcases (owned_prs ho3).2 with ⟨_, h0⟩ | ⟨g, cp, h1, _⟩
              · have : (⟨K, (FK + x.num)⟩ : Pr) ∈ chTo (upd s.f K (FK + x.num)) (upd P K true) M := by
                  have := chTo_has (f := upd s.f K (FK + x.num)) (c := upd P K true) hKM (upd_same _ _ _)
                  rwa [upd_same] at this
                rw [h0] at this; cases this
              · rw [h1] at h; simp [Value.ownBlock] at h
            · exact h
          · exact dist_new (unhide HG) ho4 (by omega)
        case measure => simp [intOf]; omega

      · have op2 : x.op = 2 := by omega
        have hvb := unhide HO5
        have HVB := hide hvb
        have HS := unhide HRO _ (step_put (s := s) op2 hvb)
        rw [unhide HK] at HS
        have HS' := hide HS
        rw [op2] at c0
        clear HS op4 op1 op3 op2
        go_wp2_with fail
        refine (l1Get_any _ _ K _ ((unhide HNOW).kept (bA _))).mono ?_; rintro e w' ⟨rfl, rfl⟩
        rw [unhide HGP]
        have BA := hide (bA (.cells #[.int .i64 2, .int .i64 K, .int .i64 x.num] 33))
        clear bA
        go_wp2_with fail
        refine (l1Val_any _ _).mono ?_; rintro e w' ⟨rfl, rfl⟩
        go_wp2_with fail
        have bA := unhide BA
        refine (l1Set_any _ _ K x.num _ ((unhide HNOW).kept bA) (by have := chTo_length s.f P M; omega)).mono ?_; clear bA; rintro e w3 ⟨r1, rfl, ho3, hb3⟩
        rw [setP_chTo _ _ _ _ _ hKM] at ho3
        have bA3 := (unhide BA).trans (hb3.mono (unhide BA).size)
        have HO3 := hide ho3
        have HB3 := hide hb3
        have BA3 := hide bA3
        have k1 : w3.cell? ⟨wr.heap.size, 1, none⟩ = some (.int .i64 K) := cell_kept hb3 (by rw [World.cell?_alloc_at _ _ _ _ rfl]; rfl)
        clear ho3 hb3 bA3
        go_wp2_with fail
        have bA := unhide BA
        have ho3 := unhide HO3
        have hb3 := unhide HB3
        have bA3 := unhide BA3
        refine (l1Set_any _ _ K x.num _ (((owned_prs (unhide HC)).1.kept bA).kept hb3) (by have := chTo_length s.f s.c M; omega)).mono ?_; rintro e w4 ⟨r2, rfl, ho4, hb4⟩
        rw [setP_chTo _ _ _ _ _ hKM] at ho4
        have bA4 := bA3.trans (hb4.mono bA3.size)
        have z3 := hb3.size
        have z4 := hb4.size
        simp at z3
        have HO4 := hide ho4
        have HB4 := hide hb4
        have BA4 := hide bA4
        clear ho3 hb3 bA3 ho4 hb4 bA4 bA
        have hzA : (wr.alloc (.cells #[.int .i64 2, .int .i64 K, .int .i64 x.num] 33)).heap.size = wr.heap.size + 1 := by simp
        have HZA := hide hzA
        clear hzA
        go_wp2_with fail
        have bA := unhide BA
        have ho3 := unhide HO3
        have hb3 := unhide HB3
        have bA3 := unhide BA3
        have ho4 := unhide HO4
        have hb4 := unhide HB4
        have bA4 := unhide BA4
        have hzA := unhide HZA
        go_roundw
        case rel =>
          refine ⟨j + 1, _, upd P K true, hlt, by go_num, hbr.trans (bA4.mono zr), unhide HS', upd_val (unhide HVAL) (unhide HVB), upd_zero (unhide HZ), by show s.g.length ≤ j + 1; omega, (owned_prs ho3).1.kept hb4, ownsRow_below (ownsRow_below (ownsRow_below (unhide HG) bA) hb3) hb4, ownsRow_base ho4 (by omega), ?_, ?_⟩
          · right
            rcases dist_new (unhide HG) ho3 (by rw [hzA]; omega) with h | h
            · rcases (owned_prs ho3).2 with ⟨_, h0⟩ | ⟨g, cp, h1, _⟩
              · have : (⟨K, x.num⟩ : Pr) ∈ chTo (upd s.f K x.num) (upd P K true) M := by
                  have := chTo_has (f := upd s.f K x.num) (c := upd P K true) hKM (upd_same _ _ _)
                  rwa [upd_same] at this
                rw [h0] at this; cases this
              · rw [h1] at h; simp [Value.ownBlock] at h
            · exact h
          · exact dist_new (unhide HG) ho4 (by omega)
        case measure => simp [intOf]; omega

    · go_wp2
      go_ret3
      have hend : R = .ok s := by
        rw [← unhide HRUN, List.drop_of_length_le (by rw [unhide HN]; omega)]; rfl
      rw [hend]
      have hc32 := unhide HC
      rw [unhide HM] at hc32
      exact ⟨_, _, rfl, ⟨unhide HG, hc32, dist_symm (unhide HD2)⟩, hbr⟩

end Go.Proofs.Ytimnhgncnhmgcaa
