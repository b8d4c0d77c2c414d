/- The walk of the law of common parts over drawn intervals. -/
import Derived.Test.YtkbgbhbnkffneaaRDraw2
import Derived.Test.YtkbgbhbnkffneaaPair
import Derived.Test.YtkbgbhbnkffneaaDice
import Derived.Test.YtkbgbhbnkffneaaTwo
import Derived.Deep.RegionHeld3
import Derived.Deep.RegionWith
import Derived.Deep.DeepCutAuto
import Derived.Deep.DrawnRows
namespace Go.Proofs.Ytkbgbhbnkffneaa
open Go.ChangeShapes Go.WideShapes Go.ChangeAt Go.RowKit Num
set_option linter.unusedVariables false
attribute [local go_sem ↓] Go.wp_at_zero Go.wp_at_succ
set_option maxRecDepth 100000 in
set_option maxHeartbeats 2000000 in
theorem dmi_any (w : World) (a : Option Addr) (cap : Nat) (zs : List Int) (h : Code8 w w.heap.size a zs) :
    Calls Try.prog 21 #[.slice a zs.length cap] w (TwoIv w) := by
  have H := Lib.hid h
  clear h
  go_enter Try.func21, Try.ntmps21
  go_wp2_with fail
  refine (from_any _ _ _ zs ((H.out.below (below_refl2 _ _ _) (Nat.le_refl _)).more (by simp; omega))).mono ?_
  rintro e w1 ⟨s, rfl, hs, hsrc, hb⟩
  have C1 := Lib.hid (ctx2_start hs hsrc hb)
  clear hs hsrc hb
  go_wp2_with fail
  refine (dtw_any _ _ C1.out.1).mono ?_
  rintro e wz ⟨x, y, u, v, rfl, -, -, hsrc, hg⟩
  have CZ := Lib.hid (C1.out.next hsrc hg)
  obtain ⟨-, ⟨⟨⟨r0, r1⟩, t0, t1⟩, ⟨⟨p0, p1⟩, q0, q1⟩⟩, -, -⟩ := C1.out.next hsrc hg
  clear hsrc hg
  go_wp2
  exact bodyPost_ret (v := .tuple #[.agg #[.int .i64 x, .int .i64 y], .agg #[.int .i64 u, .int .i64 v]]) (by simp [results, Try.results21, go_sem, r0, r1, p0, p1]) rfl ⟨_, _, _, _, rfl, ctx2_end CZ.out⟩
set_option maxRecDepth 100000 in
set_option maxHeartbeats 4000000 in
theorem dhn_any (w : World) (a : Option Addr) (cap : Nat) (zs : List Int) (h : Code8 w w.heap.size a zs) :
    Calls Try.prog 24 #[.slice a zs.length cap] w (RtInt w) := by
  have H := Lib.hid h
  clear h
  go_enter Try.func24, Try.ntmps24
  go_wp2_with fail
  refine (from_any _ _ _ zs ((H.out.below ((Below.refl _ _).alloc (Nat.le_refl _) _) (Nat.le_refl _)).more (by simp))).mono ?_
  rintro e w1 ⟨s, rfl, hs, hsrc, hb⟩
  have C1 := Lib.hid (ctx_start hs hsrc hb)
  clear hs hsrc hb
  go_wp2_with fail
  refine (dtw_any _ _ C1.out.1).mono ?_
  rintro e w2 ⟨x, y, u, v, rfl, -, -, hsrc, hg⟩
  have C2 := Lib.hid (((C1.out.next hsrc hg).alloc (.cells #[.int .i64 x, .int .i64 y] 29)).alloc (.cells #[.int .i64 u, .int .i64 v] 29))
  have hl2 := (C1.out.next hsrc hg).1.lt
  have hs0 := C2.out.2.2.2
  clear hsrc hg
  go_upto_region 3 with fail
  obtain ⟨W, hW⟩ : ∃ W, W = (w2.alloc (.cells #[.int .i64 x, .int .i64 y] 29)).alloc (.cells #[.int .i64 u, .int .i64 v] 29) := ⟨_, rfl⟩
  have x0 : W.cell? ⟨w2.heap.size, 0, none⟩ = some (.int .i64 x) := by rw [hW]; simp [go_sem]
  have x1 : W.cell? ⟨w2.heap.size, 1, none⟩ = some (.int .i64 y) := by rw [hW]; simp [go_sem]
  rw [← hW]
  rw [← hW] at C2
  clear hW
  obtain ⟨hsrc, hrz, hbl, -⟩ := C2.out
  have hsd := hsrc.drew
  have hrd := hrz.drew
  have hbd := hbl.drew
  have hne1 : ¬ w.heap.size = w2.heap.size := by omega
  have hne2 : ¬ w2.heap.size = w.heap.size := by omega
  clear hsrc hrz hbl
  go_region_held3 (fun w' => w'.cell? ⟨w2.heap.size, 0, none⟩ = some (.int .i64 x) ∧ w'.cell? ⟨w2.heap.size, 1, none⟩ = some (.int .i64 y))
    (first
      | (exact ⟨x0, x1⟩)
      | (go_split_ands; exact ⟨cell_keep (by assumption) hg (by omega), cell_keep (by assumption) hg (by omega)⟩)
      | go_keep)
    (first
      | (go_at_call 58; ((with_reducible refine (nxt_any _ _ 300 hsd).mono ?_); rintro e wq ⟨q, rfl, hq0, hq1, -, hs, hg⟩); have hq2 := hq1 (by omega); clear hq1; have hq3 := hs.lt; have hrz := (Rzz.keep2 hrd hg (by omega)).al; have hbl := below_src hbd hg (by omega) (Nat.le_refl _); have hsq := hs.alloc)
      | (go_at_call 66; refine (pick5 _ _ _ _ _ _ _ _ _ (hsq _) (by omega) (heap_alloc_new _ _)).mono ?_; rintro e wr ⟨k, rfl, hs, hg⟩; have hrz3 := Rzz.keep2 (hrz _) hg (by omega); have hbl3 := below_src (hbl.alloc hbl.size _) hg (by omega) (Nat.le_refl _); obtain ⟨⟨r0, r1⟩, r2, r3⟩ := hrz3))
  all_goals
    go_wp2
    exact bodyPost_ret (v := .tuple #[.agg #[.int .i64 x, .int .i64 y], .int .i64 k]) (by simp [results, Try.results24, go_sem, r0, r1]) rfl ⟨_, _, _, rfl, (hbl3.setCell (Nat.le_refl _) _).setCell (Nat.le_refl _) _⟩
theorem meet_0 {a b c d l h : Int} (e : meetT a b c d = (l, h, 0)) : (a ≤ b ∧ -1000000000000 ≤ a ∧ b ≤ 1000000000000) ∧ ∀ k, a ≤ k → k ≤ b → hnB l h k = hnB c d k := by
  cases hv : (vldB a b && vldB c d)
  · unfold meetT at e; rw [hv] at e; cases e
  · unfold meetT at e
    rw [hv] at e
    rw [Bool.and_eq_true] at hv
    obtain ⟨v1, v2⟩ := hv
    obtain ⟨a1, a2, b1, b2, ab⟩ := vldB_t v1
    obtain ⟨c1, c2, d1, d2, cd⟩ := vldB_t v2
    by_cases hm : max a c ≤ min b d
    · replace e : (max a c, min b d, (0 : Int)) = (l, h, 0) := by simpa [hm] using e
      simp only [Prod.mk.injEq, and_true] at e
      obtain ⟨rfl, rfl⟩ := e
      refine ⟨⟨ab, a1, b2⟩, fun k h1 h2 => ?_⟩
      have v3 : vldB (max a c) (min b d) = true := by
        unfold vldB
        rw [valB_mk (by omega) (by omega), valB_mk (by omega) (by omega), decide_eq_true hm]; rfl
      unfold hnB
      rw [v3, v2]
      unfold hasB
      have e1 : decide (max a c ≤ k) = decide (c ≤ k) := by simp only [decide_eq_decide]; omega
      have e2 : decide (k ≤ min b d) = decide (k ≤ d) := by simp only [decide_eq_decide]; omega
      rw [e1, e2]
    · exfalso
      simp [hm] at e
theorem meet_code {a b c d l h e : Int} (g : meetT a b c d = (l, h, e)) (h1 : ¬ e = 1) (h0 : ¬ e = 0) : e = 4 := by
  unfold meetT at g
  split at g
  · split at g
    · simp only [Prod.mk.injEq] at g; exact absurd g.2.2.symm h0
    · simp only [Prod.mk.injEq] at g; exact g.2.2.symm
  · simp only [Prod.mk.injEq] at g; exact absurd g.2.2.symm h1
theorem meet_4 {a b c d l h e : Int} (g : meetT a b c d = (l, h, e)) (h1 : ¬ e = 1) (h0 : ¬ e = 0) : (a ≤ b ∧ -1000000000000 ≤ a ∧ b ≤ 1000000000000) ∧ ∀ k, a ≤ k → k ≤ b → hnB c d k = false := by
  cases hv : (vldB a b && vldB c d)
  · unfold meetT at g; rw [hv] at g
    exfalso
    have : ((0 : Int), (0 : Int), (1 : Int)) = (l, h, e) := g
    simp only [Prod.mk.injEq] at this
    exact h1 this.2.2.symm
  · unfold meetT at g
    rw [hv] at g
    rw [Bool.and_eq_true] at hv
    obtain ⟨v1, v2⟩ := hv
    obtain ⟨a1, a2, b1, b2, ab⟩ := vldB_t v1
    by_cases hm : max a c ≤ min b d
    · exfalso
      have : (max a c, min b d, (0 : Int)) = (l, h, e) := by simpa [hm] using g
      simp only [Prod.mk.injEq] at this
      exact h0 this.2.2.symm
    · refine ⟨⟨ab, a1, b2⟩, fun k k1 k2 => ?_⟩
      unfold hnB hasB
      cases hc : decide (c ≤ k) <;> cases hd : decide (k ≤ d)
      case true.true =>
        have := of_decide_eq_true hc
        have := of_decide_eq_true hd
        omega
      all_goals simp
set_option maxRecDepth 100000 in
set_option maxHeartbeats 16000000 in
theorem lisets (a0 : Option Addr) (len0 cap0 : Nat) (z0 : List Int) (w : World) (w0 : IsRow .u8 w a0 len0 cap0 z0) :
    Calls Try.prog 5 #[.slice a0 len0 cap0] w fun e w' => e = .returned (.bool true) ∧ Below w.heap.size w w' := by
  obtain ⟨hlen, hcode⟩ := Code8.of_row w0
  obtain ⟨zs, hzs⟩ : ∃ zs, z0.take len0 = zs := ⟨_, rfl⟩
  rw [hzs] at hlen hcode
  subst hlen
  clear hzs w0
  have HC := Lib.hid hcode
  clear hcode
  by_cases hbig : 4096 < zs.length
  · have hd : decide ((4096 : Int) < (zs.length : Int)) = true := by simp; omega
    go_enter Try.func5, Try.ntmps5
    go_wp2_with (go_at_call 17; refine (big_any _ _ _ _).mono ?_; rw [hd]; rintro e w' ⟨rfl, rfl⟩)
    go_ret
    exact ⟨rfl, Below.refl _ _⟩
  · have hd : decide ((4096 : Int) < (zs.length : Int)) = false := by simp; omega
    go_enter Try.func5, Try.ntmps5
    go_wp2_with (go_at_call 17; refine (big_any _ _ _ _).mono ?_; rw [hd]; rintro e w' ⟨rfl, rfl⟩)
    clear hd
    refine (dmi_any _ _ _ zs HC.out).mono ?_
    rintro e w1 ⟨x, y, u, v, rfl, hb⟩
    have B1 := Lib.hid hb
    clear hb
    obtain ⟨T, hT⟩ : ∃ T, meetT x y u v = T := ⟨_, rfl⟩
    have HT := Lib.hid hT
    clear hT
    obtain ⟨l, h, c⟩ := T
    go_wp2_with fail
    refine (imt_any _ _ _ _ _).mono ?_
    rw [HT.out]
    rintro e w2 ⟨rfl, hb⟩
    have PA_2 := Lib.hid (((Pair.new w1 x y 29).alloc _).keep hb)
    have PB_2 := Lib.hid ((Pair.new2 w1 _ u v 29).keep hb)
    have B2 := Lib.hid (bel_end (bel_end B1.out (below_refl2 _ _ _)) hb)
    clear hb
    obtain ⟨uA0, uA1⟩ := PA_2.out
    have gA := PA_2.out.lt
    obtain ⟨uB0, uB1⟩ := PB_2.out
    have gB := PB_2.out.lt
    go_wp2_with fail
    refine (smt_any _ _ _ _ _).mono ?_
    rw [HT.out]
    rintro e w3 ⟨rfl, hb⟩
    have PA_3 := Lib.hid ((PA_2.out.alloc _).keep hb)
    have PB_3 := Lib.hid ((PB_2.out.alloc _).keep hb)
    have PX_3 := Lib.hid ((Pair.new w2 l h 29).keep hb)
    have B3 := Lib.hid (bel_end (B2.out.alloc B2.out.size (.cells #[.int .i64 l, .int .i64 h] 29)) hb)
    clear hb
    clear uA0 uA1 gA uB0 uB1 gB
    clear PA_2 PB_2
    have BA := Lib.hid (B3.out.alloc B3.out.size (.cells #[.int .i64 l, .int .i64 h] 29))
    go_wp2_with fail
    refine (dhn_any _ _ _ zs (Code8.more (HC.out.below BA.out (Nat.le_refl _)) BA.out.size)).mono ?_
    rintro e w4 ⟨p, q, n, rfl, hb⟩
    have PA_4 := Lib.hid ((PA_3.out.alloc _).keep hb)
    have PB_4 := Lib.hid ((PB_3.out.alloc _).keep hb)
    have PX_4 := Lib.hid ((PX_3.out.alloc _).keep hb)
    have PM_4 := Lib.hid ((Pair.new w3 l h 29).keep hb)
    have B4 := Lib.hid (bel_end (B3.out.alloc B3.out.size (.cells #[.int .i64 l, .int .i64 h] 29)) hb)
    clear hb
    clear PA_3 PB_3 PX_3
    clear BA
    go_upto_region 7 with fail
    obtain ⟨w5, hW⟩ : ∃ W, W = (w4.alloc (.cells #[.int .i64 p, .int .i64 q] 29)) := ⟨_, rfl⟩
    have hb : Below w4.heap.size w4 w5 := by rw [hW]; exact (by repeat (first | exact Below.refl _ _ | (refine Below.alloc ?_ (by simp <;> omega) _) | (refine Below.setCell ?_ (by simp <;> omega) _) | (refine Below.drew ?_) | (refine bel_drewN ?_ _)))
    have PA_5 := Lib.hid (PA_4.out.keep hb)
    have PB_5 := Lib.hid (PB_4.out.keep hb)
    have PX_5 := Lib.hid (PX_4.out.keep hb)
    have PM_5 := Lib.hid (PM_4.out.keep hb)
    have PC_5 : Hid (Pair w5 w4.heap.size p q) := Lib.hid (by rw [hW]; exact Pair.new w4 p q 29)
    have B5 := Lib.hid (bel_end B4.out hb)
    rw [← hW]
    clear hW hb
    clear PA_4 PB_4 PX_4 PM_4
    obtain ⟨uX0, uX1⟩ := PX_5.out
    have gX := PX_5.out.lt
    obtain ⟨uM0, uM1⟩ := PM_5.out
    have gM := PM_5.out.lt
    obtain ⟨uC0, uC1⟩ := PC_5.out
    have gC := PC_5.out.lt
    obtain ⟨uA0, uA1⟩ := PA_5.out
    have gA := PA_5.out.lt
    go_cut [59] (fun s wx => s = .bool false ∧ Below w5.heap.size w5 wx)
    case first =>
      first | go_region_held3 (fun w' => w'.cell? ⟨w2.heap.size, 0, none⟩ = some (.int .i64 l) ∧ w'.cell? ⟨w2.heap.size, 1, none⟩ = some (.int .i64 h) ∧ w'.cell? ⟨w3.heap.size, 0, none⟩ = some (.int .i64 l) ∧ w'.cell? ⟨w3.heap.size, 1, none⟩ = some (.int .i64 h) ∧ w'.cell? ⟨w4.heap.size, 0, none⟩ = some (.int .i64 p) ∧ w'.cell? ⟨w4.heap.size, 1, none⟩ = some (.int .i64 q) ∧ w'.cell? ⟨w1.heap.size, 0, none⟩ = some (.int .i64 x) ∧ w'.cell? ⟨w1.heap.size, 1, none⟩ = some (.int .i64 y) ∧ Below w5.heap.size w5 w')
        (first
          | (exact ⟨uX0, uX1, uM0, uM1, uC0, uC1, uA0, uA1, (Below.refl _ w5).drew⟩)
          | (go_split_ands; exact ⟨keep1 (by assumption) hb, keep1 (by assumption) hb, keep1 (by assumption) hb, keep1 (by assumption) hb, keep1 (by assumption) hb, keep1 (by assumption) hb, keep1 (by assumption) hb, keep1 (by assumption) hb, bel_in hb (by assumption) (Nat.le_refl _)⟩)
          | (go_split_ands; exact ⟨cell_keep (by assumption) hg (by omega), cell_keep (by assumption) hg (by omega), cell_keep (by assumption) hg (by omega), cell_keep (by assumption) hg (by omega), cell_keep (by assumption) hg (by omega), cell_keep (by assumption) hg (by omega), cell_keep (by assumption) hg (by omega), cell_keep (by assumption) hg (by omega), below_src (by assumption) hg (by omega) (Nat.le_refl _)⟩))
        (first
          | (go_at_call 25; refine (ihn_any _ _ _ _).mono ?_; rintro e wi ⟨rfl, hb⟩)
          | (go_at_call 26; refine (shn_any _ _ _ _).mono ?_; rintro e wj ⟨rfl, hb⟩)
          | (go_at_call 27; refine (iii_any _ _ _).mono ?_; rintro e wk ⟨rfl, hb⟩)
          | (go_at_call 28; refine (svb_any _ _ _).mono ?_; rintro e wl ⟨rfl, hb⟩)) | fail
      all_goals (go_wp2_with fail; go_meet; go_split_ands)
      all_goals (first | exact ⟨rfl, by assumption⟩ | exact ⟨by simp, by assumption⟩)
    case rest =>
      obtain ⟨rfl, hb⟩ := hcut
      clear uX0 uX1 gX uM0 uM1 gM uC0 uC1 gC uA0 uA1 gA
      have PA_6 := Lib.hid (PA_5.out.keep hb)
      have PB_6 := Lib.hid (PB_5.out.keep hb)
      have PX_6 := Lib.hid (PX_5.out.keep hb)
      have PM_6 := Lib.hid (PM_5.out.keep hb)
      have PC_6 := Lib.hid (PC_5.out.keep hb)
      have B6 := Lib.hid (bel_end B5.out hb)
      clear hb PA_5 PB_5 PX_5 PM_5 PC_5
      skip
      by_cases hc1 : c = 1
      · subst hc1
        go_wp2
        go_ret
        exact ⟨rfl, B6.out⟩
      · have hcn : (c == 1) = false := by simpa using hc1
        have HF : Hid ((x ≤ y ∧ -1000000000000 ≤ x ∧ y ≤ 1000000000000) ∧ ∀ k, x ≤ k → k ≤ y → ((c == 0) && hnB l h k) = hnB u v k) := Lib.hid (by
          by_cases hc0 : c = 0
          · subst hc0; obtain ⟨r, m⟩ := meet_0 HT.out; exact ⟨r, fun k k1 k2 => by rw [← m k k1 k2]; rfl⟩
          · obtain ⟨r, m⟩ := meet_4 HT.out hc1 hc0; exact ⟨r, fun k k1 k2 => by rw [m k k1 k2, show (c == 0) = false by simpa using hc0]; rfl⟩)
        obtain ⟨xy, x1, y1⟩ := HF.out.1
        have i1 : IntKind.i64.wrap (y - x) = y - x := IntWalk.i64_in _ (by omega)
        have i2 : IntKind.i64.wrap (y - x + 1) = y - x + 1 := IntWalk.i64_in _ (by omega)
        go_upto_region 11 with fail
        obtain ⟨uA0, uA1⟩ := PA_6.out
        have gA := PA_6.out.lt
        go_cut [11] (fun s wx => ∃ r : Int, s = .int .i64 (x + r) ∧ 0 ≤ r ∧ r < y - x + 1 ∧ Below wc.heap.size wc wx)
        case first =>
          first | go_region_held3 (fun w' => w'.cell? ⟨w1.heap.size, 0, none⟩ = some (.int .i64 x) ∧ w'.cell? ⟨w1.heap.size, 1, none⟩ = some (.int .i64 y) ∧ Below wc.heap.size wc w')
            (first
              | (exact ⟨uA0, uA1, (Below.refl _ wc).drew⟩)
              | (go_split_ands; exact ⟨keep1 (by assumption) hb, keep1 (by assumption) hb, bel_in hb (by assumption) (Nat.le_refl _)⟩)
              | (go_split_ands; exact ⟨cell_keep (by assumption) hg (by omega), cell_keep (by assumption) hg (by omega), below_src (by assumption) hg (by omega) (Nat.le_refl _)⟩))
            (first
              | (go_at_call 29; refine (roll_any _ _ _ zs _ (Code8.more (HC.out.below B6.out.drew (Nat.le_refl _)) B6.out.drew.size)).mono ?_; rintro e wq ⟨s, rfl, hs0, hdice, hb⟩; have hs : wc.heap.size ≤ s := hs0; clear hs0)
              | (go_at_call 30; refine (bel_any _ _ _ (by omega) (by assumption)).mono ?_; rintro e wr ⟨r, rfl, hr0, hr1, -, hg⟩; clear hb)) | fail
          all_goals (clear i1 i2; have e1 : IntKind.i64.wrap (x + r) = x + r := IntWalk.i64_in _ (by omega); rw [e1]; go_wp2_with fail; go_meet; go_split_ands)
          all_goals (exact ⟨r, rfl, hr0, hr1, by assumption⟩)
        case rest =>
          obtain ⟨r, rfl, hr0, hr1, hb⟩ := hcut
          clear uA0 uA1 gA
          have PA_7 := Lib.hid (PA_6.out.keep hb)
          have PB_7 := Lib.hid (PB_6.out.keep hb)
          have PX_7 := Lib.hid (PX_6.out.keep hb)
          have PM_7 := Lib.hid (PM_6.out.keep hb)
          have PC_7 := Lib.hid (PC_6.out.keep hb)
          have B7 := Lib.hid (bel_end B6.out hb)
          clear hb PA_6 PB_6 PX_6 PM_6 PC_6
          have HE := Lib.hid (HF.out.2 (x + r) (by omega) (by omega))
          clear i1 i2
          obtain ⟨k, hk⟩ : ∃ k, x + r = k := ⟨_, rfl⟩
          rw [hk] at HE
          rw [hk]
          clear hk hr0 hr1
          go_upto_region 12 with fail
          by_cases hc0 : c = 0
          · subst hc0
            obtain ⟨uX0, uX1⟩ := PX_7.out
            have gX := PX_7.out.lt
            obtain ⟨uB0, uB1⟩ := PB_7.out
            have gB := PB_7.out.lt
            go_cut [2] (fun s wx => s = .bool true ∧ Below wc.heap.size wc wx)
            case first =>
              first | go_region_held3 (fun w' => w'.cell? ⟨w2.heap.size, 0, none⟩ = some (.int .i64 l) ∧ w'.cell? ⟨w2.heap.size, 1, none⟩ = some (.int .i64 h) ∧ w'.cell? ⟨w1.heap.size + 1, 0, none⟩ = some (.int .i64 u) ∧ w'.cell? ⟨w1.heap.size + 1, 1, none⟩ = some (.int .i64 v) ∧ Below wc.heap.size wc w')
                (first
                  | (exact ⟨uX0, uX1, uB0, uB1, (Below.refl _ wc).drew⟩)
                  | (go_split_ands; exact ⟨keep1 (by assumption) hb, keep1 (by assumption) hb, keep1 (by assumption) hb, keep1 (by assumption) hb, bel_in hb (by assumption) (Nat.le_refl _)⟩)
                  | (go_split_ands; exact ⟨cell_keep (by assumption) hg (by omega), cell_keep (by assumption) hg (by omega), cell_keep (by assumption) hg (by omega), cell_keep (by assumption) hg (by omega), below_src (by assumption) hg (by omega) (Nat.le_refl _)⟩))
                (first
                  | (go_at_call 25; refine (ihn_any _ _ _ _).mono ?_; rintro e wi ⟨rfl, hb⟩)) | fail
              all_goals (go_wp2_with fail; go_meet; go_split_ands)
              all_goals (refine ⟨?_, by assumption⟩)
              all_goals (have he := HE.out; first | (simp at he ⊢; rw [he]; done) | (simp [he]; done) | (simp at he; simp [he]; done))
            case rest =>
              obtain ⟨rfl, hb⟩ := hcut
              have B8 := Lib.hid (bel_end B7.out hb)
              go_wp2
              go_ret
              exact ⟨rfl, B8.out⟩
          · obtain rfl : c = 4 := meet_code HT.out hc1 hc0
            clear hc0 hc1 hcn
            have HEF : Hid (hnB u v k = false) := Lib.hid (by rw [← HE.out]; rfl)
            obtain ⟨uB0, uB1⟩ := PB_7.out
            have gB := PB_7.out.lt
            first | go_region_with (go_at_call 25; refine (ihn_any _ _ _ _).mono ?_; rw [HEF.out]; rintro e wi ⟨rfl, hb⟩) | fail
            all_goals
              go_wp2
              go_ret
              exact ⟨rfl, bel_end B7.out.drew hb⟩
end Go.Proofs.Ytkbgbhbnkffneaa
