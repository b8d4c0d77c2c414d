/- The walk of the law of products and quotients over drawn intervals. -/
import Derived.Test.YtfcbagjjpclplaaPMath
import Derived.Test.YtfcbagjjpclplaaDice
import Derived.Test.YtfcbagjjpclplaaDrw
import Derived.Test.YtfcbagjjpclplaaBas
namespace Go.Proofs.Ytfcbagjjpclplaa
open Go.ChangeShapes Go.WideShapes Go.ChangeAt Go.RowKit Num
set_option linter.unusedVariables false
attribute [local go_sem ↓] Go.wp_at_zero Go.wp_at_succ
theorem Code8.drew' {w : World} {B : Nat} {a : Option Addr} {zs : List Int} (h : Code8 w B a zs) : Code8 w.drew B a zs := ⟨h.ints, h.len, h.byte⟩
theorem Dice.drew {w : World} {s : Nat} (h : Dice w s) : Dice w.drew s := by
  obtain ⟨a, cap, zs, k, q, hb, hc, rest⟩ := h
  exact ⟨a, cap, zs, k, q, hb, hc.drew', rest⟩
theorem Dice.below {w w1 : World} {s : Nat} (h : Dice w s) (hb : Below w.heap.size w w1) : Dice w1 s := by
  obtain ⟨a, cap, zs, k, q, hb0, hc, rest⟩ := h
  have hlt : s < w.heap.size := (Array.getElem?_eq_some_iff.1 hb0).1
  exact ⟨a, cap, zs, k, q, (hb.block s hlt).trans hb0, hc.below hb (Nat.le_of_lt hlt), rest⟩
theorem qb_facts {k m : Int} (hk : -1000000000000 ≤ k ∧ k ≤ 1000000000000) (hm : -1000000000000 ≤ m ∧ m ≤ 1000000000000) (h0 : ¬ m = 0) : dcode k m = 0 ∧ qlo k m = k.fdiv m ∧ qhi k m = cdiv k m := by
  have hd : dcode k m = 0 := by
    unfold dcode
    rw [valB_mk hk.1 hk.2, valB_mk hm.1 hm.2, show (m == 0) = false by simpa using h0]; rfl
  exact ⟨hd, by unfold qlo; rw [if_pos hd], by unfold qhi; rw [if_pos hd]⟩
set_option maxRecDepth 100000 in
set_option maxHeartbeats 16000000 in
theorem lprods (a0 : Option Addr) (len0 cap0 : Nat) (z0 : List Int) (w : World) (w0 : IsRow .u8 w a0 len0 cap0 z0) :
    Calls Try.prog 3 #[.slice a0 len0 cap0] w fun e w' => e = .returned (.bool true) ∧ Below w.heap.size w w' := by
  obtain ⟨hlen, hcode⟩ := Code8.of_row w0
  obtain ⟨zs, hzs⟩ : ∃ zs, z0.take len0 = zs := ⟨_, rfl⟩
  rw [hzs] at hlen hcode
  subst hlen
  clear hzs w0
  have HC := Lib.hid hcode
  clear hcode
  by_cases hbig : 4096 < zs.length
  · have hd : decide ((4096 : Int) < (zs.length : Int)) = true := by simp; omega
    go_enter Try.func3, Try.ntmps3
    go_wp2_with (go_at_call 9; refine (big_any _ _ _ _).mono ?_; rw [hd]; rintro e w' ⟨rfl, rfl⟩)
    go_ret
    exact ⟨rfl, Below.refl _ _⟩
  · have hd : decide ((4096 : Int) < (zs.length : Int)) = false := by simp; omega
    go_enter Try.func3, Try.ntmps3
    go_wp2_with (go_at_call 9; refine (big_any _ _ _ _).mono ?_; rw [hd]; rintro e w' ⟨rfl, rfl⟩)
    clear hd
    refine (dpi_any _ _ _ zs HC.out).mono ?_
    rintro e w1 ⟨x, y, u, v, rfl, hb⟩
    have B1 := Lib.hid hb
    clear hb
    obtain ⟨T, hT⟩ : ∃ T, prdT x y u v = T := ⟨_, rfl⟩
    have HT := Lib.hid hT
    clear hT
    obtain ⟨l, h, c⟩ := T
    go_wp2_with fail
    refine (ipd_any _ _ _ _ _).mono ?_
    rw [HT.out]
    rintro e w2 ⟨rfl, hb⟩
    have PA := Lib.hid (((Pair.new w1 x y 25).alloc _).keep hb)
    have PB := Lib.hid ((Pair.new2 w1 _ u v 25).keep hb)
    have B2 := Lib.hid (bel_end (bel_end B1.out (below_refl2 _ _ _)) hb)
    clear hb
    obtain ⟨a1, a2⟩ := PA.out
    obtain ⟨b1, b2⟩ := PB.out
    have ga := PA.out.lt
    have gb := PB.out.lt
    go_wp2_with fail
    refine (spd_any _ _ _ _ _).mono ?_
    rw [HT.out]
    rintro e w3 ⟨rfl, hb⟩
    have PA3 := Lib.hid ((PA.out.alloc _).keep hb)
    have PB3 := Lib.hid ((PB.out.alloc _).keep hb)
    have PC3 := Lib.hid ((Pair.new w2 l h 25).keep hb)
    have B3 := Lib.hid (bel_end (B2.out.alloc B2.out.size (.cells #[.int .i64 l, .int .i64 h] 25)) hb)
    have S3 := Lib.hid hb.size
    clear hb a1 a2 b1 b2
    go_wp2_with fail
    have BA := Lib.hid (B3.out.alloc B3.out.size (.cells #[.int .i64 l, .int .i64 h] 25))
    refine (dqi_any _ _ _ zs (Code8.more (HC.out.below BA.out (Nat.le_refl _)) BA.out.size)).mono ?_
    rintro e w4 ⟨x', y', u', v', rfl, hb⟩
    have PA4 := Lib.hid ((PA3.out.alloc _).keep hb)
    have PB4 := Lib.hid ((PB3.out.alloc _).keep hb)
    have PC4 := Lib.hid ((PC3.out.alloc _).keep hb)
    have PG4 := Lib.hid ((Pair.new w3 l h 25).keep hb)
    have B4 := Lib.hid (bel_end BA.out hb)
    clear hb BA PA3 PB3 PC3
    obtain ⟨T2, hT⟩ : ∃ T2, quoT x' y' u' v' = T2 := ⟨_, rfl⟩
    have HQ := Lib.hid hT
    clear hT
    obtain ⟨l', h', c'⟩ := T2
    go_wp2_with fail
    refine (iqt_any _ _ _ _ _).mono ?_
    rw [HQ.out]
    rintro e w5 ⟨rfl, hb⟩
    have PA5 := Lib.hid (((PA4.out.alloc _).alloc _).keep hb)
    have PB5 := Lib.hid (((PB4.out.alloc _).alloc _).keep hb)
    have PC5 := Lib.hid (((PC4.out.alloc _).alloc _).keep hb)
    have PG5 := Lib.hid (((PG4.out.alloc _).alloc _).keep hb)
    have PD5 := Lib.hid (((Pair.new w4 x' y' 25).alloc _).keep hb)
    have PE5 := Lib.hid ((Pair.new2 w4 _ u' v' 25).keep hb)
    have B5 := Lib.hid (bel_end (bel_end B4.out (below_refl2 _ _ _)) hb)
    clear hb PA4 PB4 PC4 PG4
    obtain ⟨a1, a2⟩ := PD5.out
    obtain ⟨b1, b2⟩ := PE5.out
    have gd := PD5.out.lt
    have ge := PE5.out.lt
    go_wp2_with fail
    refine (sqt_any _ _ _ _ _).mono ?_
    rw [HQ.out]
    rintro e w6 ⟨rfl, hb⟩
    have PA6 := Lib.hid (((PA5.out.alloc _).keep hb).alloc (.cells #[.int .i64 l', .int .i64 h'] 25))
    have PB6 := Lib.hid (((PB5.out.alloc _).keep hb).alloc (.cells #[.int .i64 l', .int .i64 h'] 25))
    have PC6 := Lib.hid (((PC5.out.alloc _).keep hb).alloc (.cells #[.int .i64 l', .int .i64 h'] 25))
    have PG6 := Lib.hid (((PG5.out.alloc _).keep hb).alloc (.cells #[.int .i64 l', .int .i64 h'] 25))
    have PD6 := Lib.hid (((PD5.out.alloc _).keep hb).alloc (.cells #[.int .i64 l', .int .i64 h'] 25))
    have PE6 := Lib.hid (((PE5.out.alloc _).keep hb).alloc (.cells #[.int .i64 l', .int .i64 h'] 25))
    have PF6 := Lib.hid (((Pair.new w5 l' h' 25).keep hb).alloc (.cells #[.int .i64 l', .int .i64 h'] 25))
    have PH6 := Lib.hid (Pair.new w6 l' h' 25)
    have B6 := Lib.hid (bel_end (B5.out.alloc B5.out.size (.cells #[.int .i64 l', .int .i64 h'] 25)) hb)
    clear hb PA5 PB5 PC5 PG5 PD5 PE5 a1 a2 b1 b2 PA PB
    obtain ⟨a1, a2⟩ := PC6.out
    obtain ⟨b1, b2⟩ := PG6.out
    obtain ⟨d1, d2⟩ := PF6.out
    obtain ⟨W, hW⟩ : ∃ W, W = w6.alloc (.cells #[.int .i64 l', .int .i64 h'] 25) := ⟨_, rfl⟩
    have BW : Hid (Below w.heap.size w W) := Lib.hid (by rw [hW]; exact B6.out.alloc B6.out.size _)
    go_wp2_with fail
    rw [← hW]
    rw [← hW] at PA6 PB6 PC6 PD6 PE6 PF6
    have la := PA6.out.lt
    have lb := PB6.out.lt
    have lc := PC6.out.lt
    have ld := PD6.out.lt
    have le' := PE6.out.lt
    have lf := PF6.out.lt
    clear hW a1 a2 b1 b2 d1 d2 B6 PG6 PH6 ga gb gd ge S3
    refine (roll_any _ _ _ zs _ (Code8.more (HC.out.below BW.out (Nat.le_refl _)) BW.out.size)).mono ?_
    rintro e w7 ⟨s, rfl, hs, hdice, hb⟩
    have PA := Lib.hid (PA6.out.keep hb)
    have PB := Lib.hid (PB6.out.keep hb)
    have PC := Lib.hid (PC6.out.keep hb)
    have PD := Lib.hid (PD6.out.keep hb)
    have PE := Lib.hid (PE6.out.keep hb)
    have PF := Lib.hid (PF6.out.keep hb)
    have B7 := Lib.hid (bel_end BW.out hb)
    have hws : w.heap.size ≤ s := Nat.le_trans BW.out.size hs
    have HD := Lib.hid hdice
    clear hb hdice PA6 PB6 PC6 PD6 PE6 PF6
    by_cases hc : c = 0
    · subst hc
      obtain ⟨⟨xy, uv⟩, ⟨⟨sx, sy⟩, ⟨su, sv⟩⟩, hpr, hvl, hvh⟩ := prdT_0 (show (prdT x y u v).2.2 = 0 by rw [HT.out])
      rw [HT.out] at hvl hvh hpr
      simp only [Prod.mk.injEq, and_true] at hpr
      have HL := Lib.hid hpr
      have HV := Lib.hid (And.intro hvl hvh)
      clear hpr hvl hvh
      obtain ⟨p0, p1⟩ := PA.out
      obtain ⟨p2, p3⟩ := PB.out
      have hdd := HD.out.drew
      have bdd := B7.out.drew
      have i1 : IntKind.i64.wrap (y - x) = y - x := IntWalk.i64_in _ (by omega)
      have i2 : IntKind.i64.wrap (y - x + 1) = y - x + 1 := IntWalk.i64_in _ (by omega)
      have i3 : IntKind.i64.wrap (v - u) = v - u := IntWalk.i64_in _ (by omega)
      have i4 : IntKind.i64.wrap (v - u + 1) = v - u + 1 := IntWalk.i64_in _ (by omega)
      go_wp2_with fail
      go_region_held3 (fun w' => w'.cell? ⟨w1.heap.size, 0, none⟩ = some (.int .i64 x) ∧ w'.cell? ⟨w1.heap.size, 1, none⟩ = some (.int .i64 y) ∧
          w'.cell? ⟨w1.heap.size + 1, 0, none⟩ = some (.int .i64 u) ∧ w'.cell? ⟨w1.heap.size + 1, 1, none⟩ = some (.int .i64 v))
        (first
          | (exact ⟨p0, p1, p2, p3⟩)
          | (go_split_ands; exact ⟨cell_keep (by assumption) hg (by omega), cell_keep (by assumption) hg (by omega), cell_keep (by assumption) hg (by omega), cell_keep (by assumption) hg (by omega)⟩))
        (first
          | (go_at_call 17; ((with_reducible refine (bel_any _ _ (y - x + 1) (by omega) (by assumption)).mono ?_); rintro e wq ⟨q, rfl, hq0, hq1, hdq, hg⟩); have hgq := Lib.hid hg)
          | (go_at_call 17; ((with_reducible refine (bel_any _ _ (v - u + 1) (by omega) (by assumption)).mono ?_); rintro e wr ⟨r, rfl, hr0, hr1, hdr, hg⟩); have hgr := Lib.hid hg))
      clear i1 i2 i3 i4 p0 p1 p2 p3 hdd bdd hdq
      have PC8 := Lib.hid ((Pair.grown (show Pair w7.drew _ l h from PC.out) hgq.out (by omega)).grown hgr.out (by omega))
      have PD8 := Lib.hid ((Pair.grown (show Pair w7.drew _ x' y' from PD.out) hgq.out (by omega)).grown hgr.out (by omega))
      have PE8 := Lib.hid ((Pair.grown (show Pair w7.drew _ u' v' from PE.out) hgq.out (by omega)).grown hgr.out (by omega))
      have PF8 := Lib.hid ((Pair.grown (show Pair w7.drew _ l' h' from PF.out) hgq.out (by omega)).grown hgr.out (by omega))
      have B8 := Lib.hid (below_src (below_src B7.out.drew hgq.out hws (Nat.le_refl _)) hgr.out hws (Nat.le_refl _))
      have HD8 := Lib.hid hdr
      have hin := prod_in (a := x) (b := y) (c := u) (d := v) (k := x + q) (m := u + r) (by omega) (by omega) (by omega) (by omega)
      rw [← HL.out.1, ← HL.out.2] at hin
      have hhn : hnB l h ((x + q) * (u + r)) = true := by
        unfold hnB vldB hasB
        rw [HV.out.1, HV.out.2, decide_eq_true hin.1, decide_eq_true hin.2, decide_eq_true (Int.le_trans hin.1 hin.2)]; rfl
      have mk := mul_abs (a := x + q) (n := u + r) (A := 1000000) (N := 1000000) (by omega) (by omega)
      have e1 : IntKind.i64.wrap (x + q) = x + q := IntWalk.i64_in _ (by omega)
      have e2 : IntKind.i64.wrap (u + r) = u + r := IntWalk.i64_in _ (by omega)
      have e3 : IntKind.i64.wrap ((x + q) * (u + r)) = (x + q) * (u + r) := IntWalk.i64_in _ (by omega)
      clear hin
      go_split_ands
      rw [e1, e2, e3]
      obtain ⟨n, hn⟩ : ∃ n, (x + q) * (u + r) = n := ⟨_, rfl⟩
      rw [hn] at hhn ⊢
      have HN := Lib.hid hhn
      clear hn hhn mk e1 e2 e3 hg hdr hgq hgr
      obtain ⟨c0, c1⟩ := PC8.out
      go_wp2_with fail
      refine (ihn_any _ _ _ _).mono ?_
      rw [HN.out]
      rintro e w9 ⟨rfl, hb⟩
      have PD := Lib.hid (PD8.out.keep hb)
      have PE := Lib.hid (PE8.out.keep hb)
      have PF := Lib.hid (PF8.out.keep hb)
      have HD := Lib.hid (HD8.out.below hb)
      have B9 := Lib.hid (bel_end B8.out hb)
      clear hb c0 c1 PC8 PD8 PE8 PF8 B8 HD8
      by_cases hc' : c' = 0
      · subst hc'
        obtain ⟨⟨x1, xy', y1⟩, ⟨u1, uv', v1⟩, hsg, hqu⟩ := quoT_0 (show (quoT x' y' u' v').2.2 = 0 by rw [HQ.out])
        rw [HQ.out] at hqu
        simp only [Prod.mk.injEq, and_true] at hqu
        have HL' := Lib.hid hqu
        clear hqu
        obtain ⟨p0, p1⟩ := PD.out
        obtain ⟨p2, p3⟩ := PE.out
        have hdd := HD.out.drew
        have i1 : IntKind.i64.wrap (y' - x') = y' - x' := IntWalk.i64_in _ (by omega)
        have i2 : IntKind.i64.wrap (y' - x' + 1) = y' - x' + 1 := IntWalk.i64_in _ (by omega)
        have i3 : IntKind.i64.wrap (v' - u') = v' - u' := IntWalk.i64_in _ (by omega)
        have i4 : IntKind.i64.wrap (v' - u' + 1) = v' - u' + 1 := IntWalk.i64_in _ (by omega)
        go_wp2_with fail
        go_region_held3 (fun w' => w'.cell? ⟨w4.heap.size, 0, none⟩ = some (.int .i64 x') ∧ w'.cell? ⟨w4.heap.size, 1, none⟩ = some (.int .i64 y') ∧
            w'.cell? ⟨w4.heap.size + 1, 0, none⟩ = some (.int .i64 u') ∧ w'.cell? ⟨w4.heap.size + 1, 1, none⟩ = some (.int .i64 v'))
          (first
            | (exact ⟨p0, p1, p2, p3⟩)
            | (go_split_ands; exact ⟨cell_keep (by assumption) hg (by omega), cell_keep (by assumption) hg (by omega), cell_keep (by assumption) hg (by omega), cell_keep (by assumption) hg (by omega)⟩)
            | (go_split_ands; exact ⟨by assumption, by assumption, by assumption, by assumption⟩))
          (first
            | (go_at_call 17; ((with_reducible refine (bel_any _ _ (y' - x' + 1) (by omega) (by assumption)).mono ?_); rintro e wq' ⟨q', rfl, hq0', hq1', hdq', hg⟩); have hgq' := Lib.hid hg)
            | (go_at_call 17; ((with_reducible refine (bel_any _ _ (v' - u' + 1) (by omega) (by assumption)).mono ?_); rintro e wr' ⟨r', rfl, hr0', hr1', hdr', hg⟩); have hgr' := Lib.hid hg)
            | (go_at_call 19; ((with_reducible refine (iqb_any _ _ _).mono ?_); rintro e wt ⟨rfl, rfl⟩)))
        clear i1 i2 i3 i4 p0 p1 p2 p3 hdd hdq' hdr'
        have PF8' := Lib.hid ((Pair.grown (show Pair w9.drew _ l' h' from PF.out) hgq'.out (by omega)).grown hgr'.out (by omega))
        have B8' := Lib.hid (below_src (below_src B9.out.drew hgq'.out hws (Nat.le_refl _)) hgr'.out hws (Nat.le_refl _))
        have e1 : IntKind.i64.wrap (x' + q') = x' + q' := IntWalk.i64_in _ (by omega)
        have e2 : IntKind.i64.wrap (u' + r') = u' + r' := IntWalk.i64_in _ (by omega)
        obtain ⟨f0, f1, f2⟩ := qb_facts (k := x' + q') (m := u' + r') (by omega) (by omega) (by omega)
        have hin := quo_in (a := x') (b := y') (c := u') (d := v') (k := x' + q') (m := u' + r') (by omega) (by omega) (by omega) (by omega) hsg
        rw [← HL'.out.1, ← HL'.out.2, ← f1, ← f2] at hin
        have HIN := Lib.hid hin
        clear hin
        go_split_ands
        rw [e1, e2, f0]
        clear e1 e2 f0 f1 f2 hg hgq' hgr'
        obtain ⟨g1, g2⟩ := HIN.out
        obtain ⟨k1, hk1⟩ : ∃ k, qlo (x' + q') (u' + r') = k := ⟨_, rfl⟩
        obtain ⟨k2, hk2⟩ : ∃ k, qhi (x' + q') (u' + r') = k := ⟨_, rfl⟩
        rw [hk1] at g1 ⊢
        rw [hk2] at g2 ⊢
        clear hk1 hk2
        obtain ⟨j0, j1⟩ := PF8'.out
        go_wp2
        go_ret
        exact ⟨rfl, B8'.out⟩
      · have hcn' : (c' != 0) = true := by simpa using hc'
        go_wp2
        go_ret
        exact ⟨rfl, B9.out⟩
    · have hcn : (c == 0) = false := by simpa using hc
      by_cases hc' : c' = 0
      · subst hc'
        obtain ⟨⟨x1, xy', y1⟩, ⟨u1, uv', v1⟩, hsg, hqu⟩ := quoT_0 (show (quoT x' y' u' v').2.2 = 0 by rw [HQ.out])
        rw [HQ.out] at hqu
        simp only [Prod.mk.injEq, and_true] at hqu
        have HL' := Lib.hid hqu
        clear hqu
        obtain ⟨p0, p1⟩ := PD.out
        obtain ⟨p2, p3⟩ := PE.out
        have hdd := HD.out.drew
        have i1 : IntKind.i64.wrap (y' - x') = y' - x' := IntWalk.i64_in _ (by omega)
        have i2 : IntKind.i64.wrap (y' - x' + 1) = y' - x' + 1 := IntWalk.i64_in _ (by omega)
        have i3 : IntKind.i64.wrap (v' - u') = v' - u' := IntWalk.i64_in _ (by omega)
        have i4 : IntKind.i64.wrap (v' - u' + 1) = v' - u' + 1 := IntWalk.i64_in _ (by omega)
        go_wp2_with fail
        go_region_held3 (fun w' => w'.cell? ⟨w4.heap.size, 0, none⟩ = some (.int .i64 x') ∧ w'.cell? ⟨w4.heap.size, 1, none⟩ = some (.int .i64 y') ∧
            w'.cell? ⟨w4.heap.size + 1, 0, none⟩ = some (.int .i64 u') ∧ w'.cell? ⟨w4.heap.size + 1, 1, none⟩ = some (.int .i64 v'))
          (first
            | (exact ⟨p0, p1, p2, p3⟩)
            | (go_split_ands; exact ⟨cell_keep (by assumption) hg (by omega), cell_keep (by assumption) hg (by omega), cell_keep (by assumption) hg (by omega), cell_keep (by assumption) hg (by omega)⟩)
            | (go_split_ands; exact ⟨by assumption, by assumption, by assumption, by assumption⟩))
          (first
            | (go_at_call 17; ((with_reducible refine (bel_any _ _ (y' - x' + 1) (by omega) (by assumption)).mono ?_); rintro e wq' ⟨q', rfl, hq0', hq1', hdq', hg⟩); have hgq' := Lib.hid hg)
            | (go_at_call 17; ((with_reducible refine (bel_any _ _ (v' - u' + 1) (by omega) (by assumption)).mono ?_); rintro e wr' ⟨r', rfl, hr0', hr1', hdr', hg⟩); have hgr' := Lib.hid hg)
            | (go_at_call 19; ((with_reducible refine (iqb_any _ _ _).mono ?_); rintro e wt ⟨rfl, rfl⟩)))
        clear i1 i2 i3 i4 p0 p1 p2 p3 hdd hdq' hdr'
        have PF8' := Lib.hid ((Pair.grown (show Pair w7.drew _ l' h' from PF.out) hgq'.out (by omega)).grown hgr'.out (by omega))
        have B8' := Lib.hid (below_src (below_src B7.out.drew hgq'.out hws (Nat.le_refl _)) hgr'.out hws (Nat.le_refl _))
        have e1 : IntKind.i64.wrap (x' + q') = x' + q' := IntWalk.i64_in _ (by omega)
        have e2 : IntKind.i64.wrap (u' + r') = u' + r' := IntWalk.i64_in _ (by omega)
        obtain ⟨f0, f1, f2⟩ := qb_facts (k := x' + q') (m := u' + r') (by omega) (by omega) (by omega)
        have hin := quo_in (a := x') (b := y') (c := u') (d := v') (k := x' + q') (m := u' + r') (by omega) (by omega) (by omega) (by omega) hsg
        rw [← HL'.out.1, ← HL'.out.2, ← f1, ← f2] at hin
        have HIN := Lib.hid hin
        clear hin
        go_split_ands
        rw [e1, e2, f0]
        clear e1 e2 f0 f1 f2 hg hgq' hgr'
        obtain ⟨g1, g2⟩ := HIN.out
        obtain ⟨k1, hk1⟩ : ∃ k, qlo (x' + q') (u' + r') = k := ⟨_, rfl⟩
        obtain ⟨k2, hk2⟩ : ∃ k, qhi (x' + q') (u' + r') = k := ⟨_, rfl⟩
        rw [hk1] at g1 ⊢
        rw [hk2] at g2 ⊢
        clear hk1 hk2
        obtain ⟨j0, j1⟩ := PF8'.out
        go_wp2
        go_ret
        exact ⟨rfl, B8'.out⟩
      · have hcn' : (c' != 0) = true := by simpa using hc'
        go_wp2
        go_ret
        exact ⟨rfl, B7.out⟩
end Go.Proofs.Ytfcbagjjpclplaa
