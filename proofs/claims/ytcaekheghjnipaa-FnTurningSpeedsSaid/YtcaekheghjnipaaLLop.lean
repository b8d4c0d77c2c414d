/- The walk of the exact law of the open layers: it returns true and writes nothing that was there. -/
import Derived.Test.YtcaekheghjnipaaLop
import Derived.Deep.RegionWith
namespace Go.Proofs.Ytcaekheghjnipaa
open Go.ChangeShapes Go.WideShapes Go.ChangeAt Go.RowKit Go.Shelf Num
set_option linter.unusedVariables false
attribute [local go_sem ↓] Go.wp_at_zero Go.wp_at_succ
theorem loL_len (zs ys : List Int) (src c s h : Int) : (loL zs ys src c s h).length ≤ 12 := by
  unfold loL
  split
  · rename_i e
    have h1 := (Okp.of (rcod_0 e).1).n12
    exact Nat.le_trans (opL_len _ _ _ _ _) (by omega)
  · simp
set_option maxRecDepth 100000 in
set_option maxHeartbeats 4000000 in
theorem llop (a0 : Option Addr) (len0 cap0 : Nat) (z0 : List Int) (b0 : Option Addr) (len1 cap1 : Nat) (y0 : List Int) (src c s h : Int) (w : World) (w0 : IsRow .i64 w a0 len0 cap0 z0) (v0 : IsRow .i64 w b0 len1 cap1 y0) (w1 : (Lit.int .i64 src).wf = true) :
    Calls Try.prog 10 #[.agg #[.slice a0 len0 cap0, .slice b0 len1 cap1], .int .i64 src, .agg #[.int .i64 c, .int .i64 s, .int .i64 h]] w fun e w' => e = .returned (.bool true) ∧ Below w.heap.size w w' := by
  obtain ⟨hm, hn, e1, e2, hp⟩ := Prof.of_in w0 v0
  clear w0 v0
  obtain ⟨zs, hzs⟩ : ∃ zs, z0.take len0 = zs := ⟨_, rfl⟩
  obtain ⟨ys, hys⟩ : ∃ ys, y0.take len1 = ys := ⟨_, rfl⟩
  rw [hzs] at e1 hp
  rw [hys] at e2 hp
  subst e1 e2
  clear hzs hys w1
  by_cases hbig : 1048576 < zs.length + ys.length
  · have hz := szP_big hbig
    have HZ := Lib.hid hz
    clear hz hp
    go_enter Try.func10, Try.ntmps10
    go_wp2_with fail
    refine (szp_any _ _ _ _ _ _ _ hm hn).mono ?_
    rw [HZ.out]
    rintro e w1 ⟨rfl, hb⟩
    have HB : Hid (Below w.heap.size w w1) := Lib.hid (bel_end (by repeat (first | exact Below.refl _ _ | (refine Below.alloc ?_ (by simp <;> omega) _) | (refine Below.setCell ?_ (by simp <;> omega) _) | (refine Below.drew ?_) | (refine bel_drewN ?_ _))) hb)
    clear hb
    go_wp2
    go_ret
    exact ⟨rfl, HB.out⟩
  have hz := szP_fit hbig
  have HP := Lib.hid (ProfL.of (hp (by omega)))
  have lz := HP.out.at_.lz
  have ly := HP.out.at_.ly
  clear hp
  obtain ⟨q, hq⟩ : ∃ q, szP zs.length ys.length = q := ⟨_, rfl⟩
  have hq0 : 0 ≤ q := hq ▸ hz
  have HQ := Lib.hid hq
  clear hz hq
  have l12 := loL_len zs ys src c s h
  obtain ⟨LL, hL⟩ : ∃ x, loL zs ys src c s h = x := ⟨_, rfl⟩
  obtain ⟨qq, hq2⟩ : ∃ x, rcod zs ys src c s h src = x := ⟨_, rfl⟩
  rw [hL] at l12
  have S1 : Hid (∀ (w : World) (a b : Option Addr) (c_ d_ : Nat), Prof w w.heap.size a b zs ys → Calls Try.prog 36 #[.agg #[.slice a zs.length c_, .slice b ys.length d_], .int .i64 src, .agg #[.int .i64 c, .int .i64 s, .int .i64 h]] w fun e w' => ∃ a' c', e = .returned (.tuple #[.slice a' LL.length c', .int .i64 qq]) ∧ OwnA w' w.heap.size w'.heap.size a' c' LL ∧ Below w.heap.size w w') := Lib.hid (fun w a b c_ d_ hp => by have := slo_any w a b c_ d_ zs ys src c s h hp; rwa [hL, hq2] at this)
  have S2 : Hid (∀ (w : World) (a b : Option Addr) (c_ d_ : Nat), Prof w w.heap.size a b zs ys → Calls Try.prog 37 #[.agg #[.slice a zs.length c_, .slice b ys.length d_], .int .i64 src, .agg #[.int .i64 c, .int .i64 s, .int .i64 h]] w fun e w' => ∃ a' c', e = .returned (.tuple #[.slice a' LL.length c', .int .i64 qq]) ∧ OwnA w' w.heap.size w'.heap.size a' c' LL ∧ Below w.heap.size w w') := Lib.hid (fun w a b c_ d_ hp => by have := ilo_any w a b c_ d_ zs ys src c s h hp; rwa [hL, hq2] at this)
  clear hL hq2
  go_enter Try.func10, Try.ntmps10
  go_wp2_with fail
  obtain ⟨W1, hW⟩ : ∃ W, W = ((w.alloc (.cells #[.slice a0 zs.length cap0, .slice b0 ys.length cap1] 38)).alloc (.cells #[.int .i64 c, .int .i64 s, .int .i64 h] 23)) := ⟨_, rfl⟩
  have hb : Below w.heap.size w W1 := by rw [hW]; exact (by repeat (first | exact Below.refl _ _ | (refine Below.alloc ?_ (by simp <;> omega) _) | (refine Below.setCell ?_ (by simp <;> omega) _) | (refine Below.drew ?_) | (refine bel_drewN ?_ _)))
  have bX : Bk W1 (w.heap.size) #[.slice a0 zs.length cap0, .slice b0 ys.length cap1] 38 := by rw [hW]; exact ((Bk.new' (by simp)).alloc _)
  have bD : Bk W1 (w.heap.size + 1) #[.int .i64 c, .int .i64 s, .int .i64 h] 23 := by rw [hW]; exact (Bk.new' (by simp))
  replace HP := Lib.hid (HP.out.on hb)
  have HB := Lib.hid hb
  rw [← hW]
  clear hW hb
  have bX_0 := bX.cell 0 rfl
  have bX_1 := bX.cell 1 rfl
  have bX_l := bX.lt
  have bD_0 := bD.cell 0 rfl
  have bD_1 := bD.cell 1 rfl
  have bD_2 := bD.cell 2 rfl
  have bD_l := bD.lt
  refine (szp_any _ _ _ _ _ _ _ hm hn).mono ?_
  rw [HQ.out]
  rintro e w2 ⟨rfl, hb⟩
  replace bX := bX.on hb
  replace bD := bD.on hb
  replace HP := Lib.hid (HP.out.on hb)
  replace HB := Lib.hid (bel_end HB.out hb)
  clear hb
  clear bX_0 bX_1 bX_l bD_0 bD_1 bD_2 bD_l
  go_upto_region 5 with fail
  go_cut [8, 9] (fun s5 s6 wx => ∃ a' c', s5 = .slice a' LL.length c' ∧ s6 = .int .i64 qq ∧ OwnA wx w2.heap.size wx.heap.size a' c' LL ∧ Below w2.heap.size w2 wx)
  case first =>
    go_region_held3 (fun w' => w'.cell? ⟨w.heap.size, 0, none⟩ = some (.slice a0 zs.length cap0) ∧ w'.cell? ⟨w.heap.size, 1, none⟩ = some (.slice b0 ys.length cap1) ∧ w'.cell? ⟨w.heap.size + 1, 0, none⟩ = some (.int .i64 c) ∧ w'.cell? ⟨w.heap.size + 1, 1, none⟩ = some (.int .i64 s) ∧ w'.cell? ⟨w.heap.size + 1, 2, none⟩ = some (.int .i64 h) ∧ Below w2.heap.size w2 w')
      (first
        | (exact at23 bX bD (Below.refl _ w2).drew)
        | (go_split_ands; exact at23 bX bD (bel_in hb (by assumption) (Nat.le_refl _)))
        | (go_split_ands; exact at23 bX bD (bel_al (by assumption) (Nat.le_refl _))))
      (first
        | (go_at_call 27; (refine Calls.mono (top_any _ _ _ _ _ zs ys (HP.out.on ?hq).prof) ?_); (case hq => first | (go_split_ands; assumption) | (go_split_ands; exact bel_al (by assumption) (Nat.le_refl _))); rintro e wt ⟨g1, g2, rfl, hg1, hg2, hr1, hr2, hb⟩; obtain ⟨hc, hf, hz⟩ := bel_rules hb; (try have hy := lt_trans_rule (by assumption) hz); have hk := bel_in hb (by go_split_ands; assumption) (Nat.le_refl _); have hn := hk.size)
        | (go_at_call 16; refine (tod_any _ _ _ _).mono ?_; rintro e wd ⟨rfl, hb⟩; (try have hr1 := (by first | exact rowIs_on hr1 hb | exact rowIs_on (rowIs_al hr1) hb)); (try have hr2 := (by first | exact rowIs_on hr2 hb | exact rowIs_on (rowIs_al hr2) hb)); obtain ⟨hc, hf, hz⟩ := bel_rules hb; (try have hy := lt_trans_rule (by assumption) hz); have hk := bel_in hb (by go_split_ands; assumption) (Nat.le_refl _); have hn := hk.size)
        | (go_at_call 36; refine (S1.out _ _ _ _ _ (by first | exact Prof.of_rows hr1 hr2 lz ly | exact (Prof.of_rows hr1 hr2 lz ly).on bel_1)).mono ?_; rintro e wf ⟨ra, rc, rfl, hs, hb⟩; obtain ⟨hc, hf, hz⟩ := bel_rules hb; (try have hy := lt_trans_rule (by assumption) hz); have hk := bel_in hb (by go_split_ands; assumption) (Nat.le_refl _); have hn := hk.size))
    all_goals (go_wp2_with fail; go_meet; go_split_ands)
    all_goals (refine ⟨_, _, rfl, rfl, hs.less ?_, hk⟩; (first | omega | (simp; omega)))
  case rest =>
    obtain ⟨sa, sc, rfl, rfl, hs, hb⟩ := hcut
    have q_s := hb.size
    obtain ⟨w4, hwc⟩ : ∃ X, X = wc := ⟨_, rfl⟩
    rw [← hwc] at hs hb q_s ⊢
    clear hwc
    replace bX := bX.on hb
    replace bD := bD.on hb
    replace HP := Lib.hid (HP.out.on hb)
    replace HB := Lib.hid (bel_end HB.out hb)
    have HS := Lib.hid (IntL.of hs.ints)
    clear hs hb
    have bX_0 := bX.cell 0 rfl
    have bX_1 := bX.cell 1 rfl
    have bX_l := bX.lt
    have bD_0 := bD.cell 0 rfl
    have bD_1 := bD.cell 1 rfl
    have bD_2 := bD.cell 2 rfl
    have bD_l := bD.lt
    go_wp2_with fail
    have p1 := bX.lt
    have p2 := bD.lt
    have p3 := HS.out.le
    have p4 := HB.out.size
    refine (top_any _ _ _ _ _ zs ys HP.out.prof).mono ?_
    rintro e w5 ⟨g3, g4, rfl, hg3, hg4, hr1, hr2, hb⟩
    replace bX := bX.on hb
    replace bD := bD.on hb
    replace HP := Lib.hid (HP.out.on hb)
    replace HS := Lib.hid (HS.out.on hb)
    replace HB := Lib.hid (bel_end HB.out hb)
    have q1 := hb.size
    have HX := Lib.hid (OwnP.new2 hg3 hg4 hr1 hr2 lz ly)
    clear hr1 hr2 hg3 hg4
    clear hb
    clear bX_0 bX_1 bX_l bD_0 bD_1 bD_2 bD_l
    go_upto_region 7 with fail
    obtain ⟨W6, hW⟩ : ∃ W, W = (w5.alloc (.cells #[.slice (some ⟨g3, 0, none⟩) zs.length zs.length, .slice (some ⟨g4, 0, none⟩) ys.length ys.length] 42)) := ⟨_, rfl⟩
    have hb : Below w5.heap.size w5 W6 := by rw [hW]; exact (by repeat (first | exact Below.refl _ _ | (refine Below.alloc ?_ (by simp <;> omega) _) | (refine Below.setCell ?_ (by simp <;> omega) _) | (refine Below.drew ?_) | (refine bel_drewN ?_ _)))
    have bY : Bk W6 (w5.heap.size) #[.slice (some ⟨g3, 0, none⟩) zs.length zs.length, .slice (some ⟨g4, 0, none⟩) ys.length ys.length] 42 := by rw [hW]; exact (Bk.new' (by simp))
    replace bX := bX.on hb
    replace bD := bD.on hb
    replace HP := Lib.hid (HP.out.on hb)
    replace HS := Lib.hid (HS.out.on hb)
    replace HX := Lib.hid (HX.out.on hb)
    replace HB := Lib.hid (bel_end HB.out hb)
    rw [← hW]
    clear hW hb
    have p5 := bY.lt
    have p6 := HX.out.up
    have p7 := HS.out.le
    have p8 := HB.out.size
    go_upto_region 7 with fail
    go_cut [11, 12] (fun s5 s6 wx => ∃ a' c', s5 = .slice a' LL.length c' ∧ s6 = .int .i64 qq ∧ OwnA wx W6.heap.size wx.heap.size a' c' LL ∧ Below W6.heap.size W6 wx)
    case first =>
      go_region_held3 (fun w' => w'.cell? ⟨w5.heap.size, 0, none⟩ = some (.slice (some ⟨g3, 0, none⟩) zs.length zs.length) ∧ w'.cell? ⟨w5.heap.size, 1, none⟩ = some (.slice (some ⟨g4, 0, none⟩) ys.length ys.length) ∧ w'.cell? ⟨w.heap.size + 1, 0, none⟩ = some (.int .i64 c) ∧ w'.cell? ⟨w.heap.size + 1, 1, none⟩ = some (.int .i64 s) ∧ w'.cell? ⟨w.heap.size + 1, 2, none⟩ = some (.int .i64 h) ∧ Below W6.heap.size W6 w')
        (first
          | (exact at23 bY bD (Below.refl _ W6).drew)
          | (go_split_ands; exact at23 bY bD (bel_in hb (by assumption) (Nat.le_refl _)))
          | (go_split_ands; exact at23 bY bD (bel_al (by assumption) (Nat.le_refl _))))
        (first
          | (go_at_call 16; refine (tod_any _ _ _ _).mono ?_; rintro e wd ⟨rfl, hb⟩; (try have hr1 := (by first | exact rowIs_on hr1 hb | exact rowIs_on (rowIs_al hr1) hb)); (try have hr2 := (by first | exact rowIs_on hr2 hb | exact rowIs_on (rowIs_al hr2) hb)); obtain ⟨hc, hf, hz⟩ := bel_rules hb; (try have hy := lt_trans_rule (by assumption) hz); have hk := bel_in hb (by go_split_ands; assumption) (Nat.le_refl _); have hn := hk.size)
          | (go_at_call 37; (refine Calls.mono (S2.out _ _ _ _ _ (HX.out.on ?hq).prof) ?_); (case hq => first | (go_split_ands; assumption) | (go_split_ands; exact bel_al (by assumption) (Nat.le_refl _))); rintro e wf ⟨ra, rc, rfl, hs, hb⟩; obtain ⟨hc, hf, hz⟩ := bel_rules hb; (try have hy := lt_trans_rule (by assumption) hz); have hk := bel_in hb (by go_split_ands; assumption) (Nat.le_refl _); have hn := hk.size))
      all_goals (go_wp2_with fail; go_meet; go_split_ands)
      all_goals (refine ⟨_, _, rfl, rfl, hs.less ?_, hk⟩; (first | omega | (simp; omega)))
    case rest =>
      obtain ⟨ga, gc, rfl, rfl, hs, hb⟩ := hcut
      have q_g := hb.size
      obtain ⟨w7, hwc⟩ : ∃ X, X = wc := ⟨_, rfl⟩
      rw [← hwc] at hs hb q_g ⊢
      clear hwc
      replace bX := bX.on hb
      replace bD := bD.on hb
      replace bY := bY.on hb
      replace HP := Lib.hid (HP.out.on hb)
      replace HS := Lib.hid (HS.out.on hb)
      replace HX := Lib.hid (HX.out.on hb)
      replace HB := Lib.hid (bel_end HB.out hb)
      have HG := Lib.hid (hs)
      clear hs hb
      have p9 := HX.out.up
      have bX_0 := bX.cell 0 rfl
      have bX_1 := bX.cell 1 rfl
      have bX_l := bX.lt
      have bD_0 := bD.cell 0 rfl
      have bD_1 := bD.cell 1 rfl
      have bD_2 := bD.cell 2 rfl
      have bD_l := bD.lt
      have bY_0 := bY.cell 0 rfl
      have bY_1 := bY.cell 1 rfl
      have bY_l := bY.lt
      go_wp2_with fail
      refine (eql_any _ _ _ _ _ LL (by omega) HG.out.ints HS.out.ints).mono ?_
      rintro e w8 ⟨rfl, hb⟩
      replace bX := bX.on hb
      replace bD := bD.on hb
      replace bY := bY.on hb
      replace HP := Lib.hid (HP.out.on hb)
      replace HS := Lib.hid (HS.out.on hb)
      replace HX := Lib.hid (HX.out.on hb)
      replace HG := Lib.hid (HG.out.on hb)
      replace HB := Lib.hid (bel_end HB.out hb)
      clear hb
      clear bX_0 bX_1 bX_l bD_0 bD_1 bD_2 bD_l bY_0 bY_1 bY_l
      have bX_0 := bX.cell 0 rfl
      have bX_1 := bX.cell 1 rfl
      have bX_l := bX.lt
      have bD_0 := bD.cell 0 rfl
      have bD_1 := bD.cell 1 rfl
      have bD_2 := bD.cell 2 rfl
      have bD_l := bD.lt
      have bY_0 := bY.cell 0 rfl
      have bY_1 := bY.cell 1 rfl
      have bY_l := bY.lt
      go_upto_region 10 with fail
      go_cut [55] (fun s wx => s = .bool false ∧ Below w8.heap.size w8 wx)
      case first =>
        go_region_with (first
          | (go_at_call 27; refine (top_any _ _ _ _ _ zs ys HP.out.prof.drew).mono ?_; rintro e wa ⟨g5, g6, rfl, hg5, hg6, hr1, hr2, hb⟩; have d0 := kc1 (show w8.drew.cell? _ = _ from bY_0) hb; have d1 := kc1 (show w8.drew.cell? _ = _ from bY_1) hb)
          | (go_at_call 29; refine (eqp_any _ _ _ _ _ _ _ _ _ zs ys zs ys (HX.out.prof.drew.on hb) (Prof.of_rows hr1 hr2 lz ly)).mono ?_; rw [same_self]; rintro e wb ⟨rfl, hb2⟩))
        all_goals (go_wp2_with fail; go_meet)
        all_goals (exact ⟨rfl, bel_end (bel_end (Below.refl _ _).drew hb) hb2⟩)
      case rest =>
        obtain ⟨rfl, hb⟩ := hcut
        clear bX_0 bX_1 bX_l bD_0 bD_1 bD_2 bD_l bY_0 bY_1 bY_l
        obtain ⟨w9, hwc⟩ : ∃ X, X = wc := ⟨_, rfl⟩
        rw [← hwc] at hb ⊢
        clear hwc
        replace bX := bX.on hb
        replace bD := bD.on hb
        replace bY := bY.on hb
        replace HP := Lib.hid (HP.out.on hb)
        replace HS := Lib.hid (HS.out.on hb)
        replace HX := Lib.hid (HX.out.on hb)
        replace HG := Lib.hid (HG.out.on hb)
        replace HB := Lib.hid (bel_end HB.out hb)
        clear hb
        have bX_0 := bX.cell 0 rfl
        have bX_1 := bX.cell 1 rfl
        have bX_l := bX.lt
        have bD_0 := bD.cell 0 rfl
        have bD_1 := bD.cell 1 rfl
        have bD_2 := bD.cell 2 rfl
        have bD_l := bD.lt
        have bY_0 := bY.cell 0 rfl
        have bY_1 := bY.cell 1 rfl
        have bY_l := bY.lt
        go_wp2_with fail
        clear bX_0 bX_1 bX_l bD_0 bD_1 bD_2 bD_l bY_0 bY_1 bY_l
        have p10 := HX.out.up
        refine (mkp_any _ _ _ _ _ _ _ zs ys 1 HX.out (by omega) (by omega)).mono ?_
        rintro e w10 ⟨rfl, ho, hk⟩
        replace bX := bX.keptP hk (by omega)
        replace bD := bD.keptP hk (by omega)
        replace bY := bY.keptP hk (by omega)
        have hl_HP := HP.out.le
        replace HP := Lib.hid (HP.out.kept hk (by omega) (by omega))
        clear hl_HP
        have hl_HS := HS.out.le
        replace HS := Lib.hid (HS.out.kept hk (by omega) (by omega))
        clear hl_HS
        replace HG := Lib.hid (HG.out.kept hk (by omega))
        replace HB := Lib.hid (HB.out.trans ((hk.below (by omega)).mono (by omega)))
        replace HX := Lib.hid ho
        clear ho hk
        have bX_0 := bX.cell 0 rfl
        have bX_1 := bX.cell 1 rfl
        have bX_l := bX.lt
        have bD_0 := bD.cell 0 rfl
        have bD_1 := bD.cell 1 rfl
        have bD_2 := bD.cell 2 rfl
        have bD_l := bD.lt
        have bY_0 := bY.cell 0 rfl
        have bY_1 := bY.cell 1 rfl
        have bY_l := bY.lt
        go_wp2_with fail
        refine (eql_any _ _ _ _ _ LL (by omega) HG.out.ints HS.out.ints).mono ?_
        rintro e w11 ⟨rfl, hb⟩
        replace bX := bX.on hb
        replace bD := bD.on hb
        replace bY := bY.on hb
        replace HP := Lib.hid (HP.out.on hb)
        replace HS := Lib.hid (HS.out.on hb)
        replace HX := Lib.hid (HX.out.on hb)
        replace HG := Lib.hid (HG.out.on hb)
        replace HB := Lib.hid (bel_end HB.out hb)
        clear hb
        clear bX_0 bX_1 bX_l bD_0 bD_1 bD_2 bD_l bY_0 bY_1 bY_l
        have bX_0 := bX.cell 0 rfl
        have bX_1 := bX.cell 1 rfl
        have bX_l := bX.lt
        have bD_0 := bD.cell 0 rfl
        have bD_1 := bD.cell 1 rfl
        have bD_2 := bD.cell 2 rfl
        have bD_l := bD.lt
        have bY_0 := bY.cell 0 rfl
        have bY_1 := bY.cell 1 rfl
        have bY_l := bY.lt
        go_wp2_with fail
        clear bX_0 bX_1 bX_l bD_0 bD_1 bD_2 bD_l bY_0 bY_1 bY_l
        have p11 := HG.out.up
        refine (mka_any _ _ _ _ _ LL 1 HG.out (by omega) (by omega) (by omega)).mono ?_
        rintro e w12 ⟨rfl, ho, hk⟩
        replace bX := bX.keptP hk (by omega)
        replace bD := bD.keptP hk (by omega)
        replace bY := bY.keptP hk (by omega)
        have hl_HP := HP.out.le
        replace HP := Lib.hid (HP.out.kept hk (by omega) (by omega))
        clear hl_HP
        have hl_HS := HS.out.le
        replace HS := Lib.hid (HS.out.kept hk (by omega) (by omega))
        clear hl_HS
        replace HX := Lib.hid (HX.out.kept hk (by omega))
        replace HB := Lib.hid (HB.out.trans ((hk.below (by omega)).mono (by omega)))
        replace HG := Lib.hid ho
        clear ho hk
        have bX_0 := bX.cell 0 rfl
        have bX_1 := bX.cell 1 rfl
        have bX_l := bX.lt
        have bD_0 := bD.cell 0 rfl
        have bD_1 := bD.cell 1 rfl
        have bD_2 := bD.cell 2 rfl
        have bD_l := bD.lt
        have bY_0 := bY.cell 0 rfl
        have bY_1 := bY.cell 1 rfl
        have bY_l := bY.lt
        go_wp2_with fail
        refine (hdi_any _ _ _ _ LL.length 1 HG.out.ints (by omega) (by omega) (by omega)).mono ?_
        rintro e w_ ⟨rfl, rfl⟩
        clear bX_0 bX_1 bX_l bD_0 bD_1 bD_2 bD_l bY_0 bY_1 bY_l
        have p12 := HG.out.up
        go_upto_region 24 with fail
        go_cut [16, 17] (fun s5 s6 wx => ∃ a' c', s5 = .slice a' LL.length c' ∧ s6 = .int .i64 qq ∧ OwnA wx w12.heap.size wx.heap.size a' c' LL ∧ Below w12.heap.size w12 wx)
        case first =>
          go_region_held3 (fun w' => w'.cell? ⟨w.heap.size, 0, none⟩ = some (.slice a0 zs.length cap0) ∧ w'.cell? ⟨w.heap.size, 1, none⟩ = some (.slice b0 ys.length cap1) ∧ w'.cell? ⟨w.heap.size + 1, 0, none⟩ = some (.int .i64 c) ∧ w'.cell? ⟨w.heap.size + 1, 1, none⟩ = some (.int .i64 s) ∧ w'.cell? ⟨w.heap.size + 1, 2, none⟩ = some (.int .i64 h) ∧ Below w12.heap.size w12 w')
            (first
              | (exact at23 bX bD (Below.refl _ w12).drew)
              | (go_split_ands; exact at23 bX bD (bel_in hb (by assumption) (Nat.le_refl _)))
              | (go_split_ands; exact at23 bX bD (bel_al (by assumption) (Nat.le_refl _))))
            (first
              | (go_at_call 27; (refine Calls.mono (top_any _ _ _ _ _ zs ys (HP.out.on ?hq).prof) ?_); (case hq => first | (go_split_ands; assumption) | (go_split_ands; exact bel_al (by assumption) (Nat.le_refl _))); rintro e wt ⟨g1, g2, rfl, hg1, hg2, hr1, hr2, hb⟩; obtain ⟨hc, hf, hz⟩ := bel_rules hb; (try have hy := lt_trans_rule (by assumption) hz); have hk := bel_in hb (by go_split_ands; assumption) (Nat.le_refl _); have hn := hk.size)
              | (go_at_call 16; refine (tod_any _ _ _ _).mono ?_; rintro e wd ⟨rfl, hb⟩; (try have hr1 := (by first | exact rowIs_on hr1 hb | exact rowIs_on (rowIs_al hr1) hb)); (try have hr2 := (by first | exact rowIs_on hr2 hb | exact rowIs_on (rowIs_al hr2) hb)); obtain ⟨hc, hf, hz⟩ := bel_rules hb; (try have hy := lt_trans_rule (by assumption) hz); have hk := bel_in hb (by go_split_ands; assumption) (Nat.le_refl _); have hn := hk.size)
              | (go_at_call 37; refine (S2.out _ _ _ _ _ (by first | exact Prof.of_rows hr1 hr2 lz ly | exact (Prof.of_rows hr1 hr2 lz ly).on bel_1)).mono ?_; rintro e wf ⟨ra, rc, rfl, hs, hb⟩; obtain ⟨hc, hf, hz⟩ := bel_rules hb; (try have hy := lt_trans_rule (by assumption) hz); have hk := bel_in hb (by go_split_ands; assumption) (Nat.le_refl _); have hn := hk.size))
          all_goals (go_wp2_with fail; go_meet; go_split_ands)
          all_goals (refine ⟨_, _, rfl, rfl, hs.less ?_, hk⟩; (first | omega | (simp; omega)))
        case rest =>
          obtain ⟨ha, hc, rfl, rfl, hs, hb⟩ := hcut
          have q_h := hb.size
          obtain ⟨w13, hwc⟩ : ∃ X, X = wc := ⟨_, rfl⟩
          rw [← hwc] at hs hb q_h ⊢
          clear hwc
          replace bX := bX.on hb
          replace bD := bD.on hb
          replace bY := bY.on hb
          replace HP := Lib.hid (HP.out.on hb)
          replace HS := Lib.hid (HS.out.on hb)
          replace HX := Lib.hid (HX.out.on hb)
          replace HG := Lib.hid (HG.out.on hb)
          replace HB := Lib.hid (bel_end HB.out hb)
          have HI := Lib.hid (hs)
          clear hs hb
          have bX_0 := bX.cell 0 rfl
          have bX_1 := bX.cell 1 rfl
          have bX_l := bX.lt
          have bD_0 := bD.cell 0 rfl
          have bD_1 := bD.cell 1 rfl
          have bD_2 := bD.cell 2 rfl
          have bD_l := bD.lt
          have bY_0 := bY.cell 0 rfl
          have bY_1 := bY.cell 1 rfl
          have bY_l := bY.lt
          go_wp2_with fail
          refine (eql_any _ _ _ _ _ LL (by omega) HI.out.ints HS.out.ints).mono ?_
          rintro e w14 ⟨rfl, hb⟩
          replace bX := bX.on hb
          replace bD := bD.on hb
          replace bY := bY.on hb
          replace HP := Lib.hid (HP.out.on hb)
          replace HS := Lib.hid (HS.out.on hb)
          replace HX := Lib.hid (HX.out.on hb)
          replace HG := Lib.hid (HG.out.on hb)
          replace HI := Lib.hid (HI.out.on hb)
          replace HB := Lib.hid (bel_end HB.out hb)
          clear hb
          clear bX_0 bX_1 bX_l bD_0 bD_1 bD_2 bD_l bY_0 bY_1 bY_l
          have bX_0 := bX.cell 0 rfl
          have bX_1 := bX.cell 1 rfl
          have bX_l := bX.lt
          have bD_0 := bD.cell 0 rfl
          have bD_1 := bD.cell 1 rfl
          have bD_2 := bD.cell 2 rfl
          have bD_l := bD.lt
          have bY_0 := bY.cell 0 rfl
          have bY_1 := bY.cell 1 rfl
          have bY_l := bY.lt
          go_wp2_with fail
          refine (hdi_any _ _ _ _ LL.length 1 HG.out.ints (by omega) (by omega) (by omega)).mono ?_
          rintro e w_ ⟨rfl, rfl⟩
          clear bX_0 bX_1 bX_l bD_0 bD_1 bD_2 bD_l bY_0 bY_1 bY_l
          go_wp2
          go_ret
          exact ⟨rfl, HB.out⟩
end Go.Proofs.Ytcaekheghjnipaa
