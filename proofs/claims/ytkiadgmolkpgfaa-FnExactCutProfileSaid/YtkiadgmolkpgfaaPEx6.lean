/- The walk of an exact law of a cut: it returns true and writes nothing that was there. -/
import Derived.Test.YtkiadgmolkpgfaaCut2
import Derived.Deep.RegionWith
namespace Go.Proofs.Ytkiadgmolkpgfaa
open Go.ChangeShapes Go.WideShapes Go.ChangeAt Go.RowKit Go.Shelf Num
set_option linter.unusedVariables false
theorem OwnP.of_new {w' : World} {s g h : Nat} {zs ys : List Int} (hg : s ≤ g) (hh : g < h) (h1 : w'.rowIs g 2 zs.length (cellsOf zs)) (h2 : w'.rowIs h 2 ys.length (cellsOf ys)) (lz : zs.length ≤ 1048576) (ly : ys.length ≤ 1048576) :
    OwnP w' s w'.heap.size (some ⟨g, 0, none⟩) (some ⟨h, 0, none⟩) zs ys :=
  ⟨Or.inr ⟨g, rfl, hg, h1.lt, h1⟩, Or.inr ⟨h, rfl, by omega, h2.lt, h2⟩, (fun g' h' e e' => by injection e with e; injection e with e; injection e' with e'; injection e' with e'; omega), Nat.le_refl _, lz, ly⟩
set_option maxRecDepth 100000 in
set_option maxHeartbeats 4000000 in
theorem lcut (a0 : Option Addr) (len0 cap0 : Nat) (z0 : List Int) (b0 : Option Addr) (len1 cap1 : Nat) (y0 : List Int) (a1 : Int) (w : World) (w0 : IsRow .i64 w a0 len0 cap0 z0) (v0 : IsRow .i64 w b0 len1 cap1 y0) (w1 : (Lit.int .i64 a1).wf = true) :
    Calls Try.prog 11 #[.agg #[.slice a0 len0 cap0, .slice b0 len1 cap1], .int .i64 a1] w fun e w' => e = .returned (.bool true) ∧ Below w.heap.size w w' := by
  obtain ⟨hm, hn, e1, e2, hp⟩ := Prof.of_in w0 v0
  clear w0 v0
  obtain ⟨zs, hzs⟩ : ∃ zs, z0.take len0 = zs := ⟨_, rfl⟩
  obtain ⟨ys, hys⟩ : ∃ ys, y0.take len1 = ys := ⟨_, rfl⟩
  rw [hzs] at e1 hp
  rw [hys] at e2 hp
  subst e1 e2
  clear hzs hys
  by_cases hbig : 1048576 < zs.length + ys.length
  · have hz := szP_big hbig
    have HZ := Lib.hid hz
    clear hz hp
    go_enter Try.func11, Try.ntmps11
    go_wp2_with fail
    refine (szp_any _ _ _ _ _ _ _ hm hn).mono ?_
    rw [HZ.out]
    rintro e w1 ⟨rfl, hb⟩
    have HB : Hid (Below w.heap.size w w1) := Lib.hid (bel_end (by repeat (first | exact Below.refl _ _ | (refine Below.alloc ?_ (by simp <;> omega) _) | (refine Below.setCell ?_ (by simp <;> omega) _) | (refine Below.drew ?_) | (refine bel_drewN ?_ _))) hb)
    clear hb
    go_wp2
    go_ret
    exact ⟨rfl, HB.out⟩
  have hz := szP_fit hbig
  have HP := Lib.hid (ProfL.of (hp (by omega)))
  have lz := HP.out.at_.lz
  have ly := HP.out.at_.ly
  clear hp
  obtain ⟨q, hq⟩ : ∃ q, szP zs.length ys.length = q := ⟨_, rfl⟩
  have hq0 : 0 ≤ q := hq ▸ hz
  have HQ := Lib.hid hq
  clear hz hq
  obtain ⟨u, hu⟩ : ∃ u, cuC zs ys a1 = u := ⟨_, rfl⟩
  obtain ⟨Z, hZ⟩ : ∃ Z, cuL u a1 zs = Z := ⟨_, rfl⟩
  obtain ⟨Y, hY⟩ : ∃ Y, cuL u a1 ys = Y := ⟨_, rfl⟩
  have HU := Lib.hid hu
  have S1 : Hid (∀ (w : World) (a b : Option Addr) (c d : Nat), Prof w w.heap.size a b zs ys → zs.length ≤ c → ys.length ≤ d → Calls Try.prog 35 #[.agg #[.slice a zs.length c, .slice b ys.length d], .int .i64 a1] w fun e w' => ∃ a' b' c' d', e = .returned (.tuple #[.agg #[.slice a' Z.length c', .slice b' Y.length d'], .int .i64 u]) ∧
      Prof w' w'.heap.size a' b' Z Y ∧ Below w.heap.size w w') := Lib.hid (fun w a b c d hp hc hd => by have := scu_any w a b c d zs ys a1 u hp hc hd hu; rwa [hZ, hY] at this)
  have S2 : Hid (∀ (w : World) (a b : Option Addr) (c d : Nat), Prof w w.heap.size a b zs ys → Calls Try.prog 36 #[.agg #[.slice a zs.length c, .slice b ys.length d], .int .i64 a1] w fun e w' => ∃ a' b' c' d', e = .returned (.tuple #[.agg #[.slice a' Z.length c', .slice b' Y.length d'], .int .i64 u]) ∧
      OwnP w' w.heap.size w'.heap.size a' b' Z Y ∧ Below w.heap.size w w') := Lib.hid (fun w a b c d hp => by have := icu_any w a b c d zs ys a1 u hp hu; rwa [hZ, hY] at this)
  clear hu hZ hY HU
  go_enter Try.func11, Try.ntmps11
  go_wp2_with fail
  obtain ⟨W1, hW⟩ : ∃ W, W = (w.alloc (.cells #[.slice a0 zs.length cap0, .slice b0 ys.length cap1] 42)) := ⟨_, rfl⟩
  have hb : Below w.heap.size w W1 := by rw [hW]; exact (by repeat (first | exact Below.refl _ _ | (refine Below.alloc ?_ (by simp <;> omega) _) | (refine Below.setCell ?_ (by simp <;> omega) _) | (refine Below.drew ?_) | (refine bel_drewN ?_ _)))
  have bX : Bk W1 (w.heap.size) #[.slice a0 zs.length cap0, .slice b0 ys.length cap1] 42 := by rw [hW]; exact (Bk.new' (by simp))
  replace HP := Lib.hid (HP.out.on hb)
  have HB := Lib.hid hb
  rw [← hW]
  clear hW hb
  refine (szp_any _ _ _ _ _ _ _ hm hn).mono ?_
  rw [HQ.out]
  rintro e w2 ⟨rfl, hb⟩
  replace bX := bX.on hb
  replace HP := Lib.hid (HP.out.on hb)
  replace HB := Lib.hid (bel_end HB.out hb)
  clear hb
  have bX_0 := bX.cell 0 rfl
  have bX_1 := bX.cell 1 rfl
  have bX_l := bX.lt
  go_wp2_with fail
  refine (top_any _ _ _ _ _ zs ys HP.out.prof).mono ?_
  rintro e w3 ⟨g1, g2, rfl, hg1, hg2, hr1, hr2, hb⟩
  replace bX := bX.on hb
  replace HP := Lib.hid (HP.out.on hb)
  replace HB := Lib.hid (bel_end HB.out hb)
  have HR := Lib.hid (Prof.of_rows hr1 hr2 lz ly)
  clear hr1 hr2 hg1 hg2
  clear hb
  clear bX_0 bX_1 bX_l
  have bX_0 := bX.cell 0 rfl
  have bX_1 := bX.cell 1 rfl
  have bX_l := bX.lt
  go_wp2_with fail
  refine (S1.out _ _ _ _ _ HR.out (Nat.le_refl _) (Nat.le_refl _)).mono ?_
  rintro e w4 ⟨sa, sb, sc, sd, rfl, hs, hb⟩
  replace bX := bX.on hb
  replace HP := Lib.hid (HP.out.on hb)
  replace HB := Lib.hid (bel_end HB.out hb)
  have HS := Lib.hid (ProfL.of hs)
  clear hs HR
  clear hb
  clear bX_0 bX_1 bX_l
  have bX_0 := bX.cell 0 rfl
  have bX_1 := bX.cell 1 rfl
  have bX_l := bX.lt
  go_wp2_with fail
  obtain ⟨W5, hW⟩ : ∃ W, W = (w4.alloc (.cells #[.slice sa Z.length sc, .slice sb Y.length sd] 26)) := ⟨_, rfl⟩
  have hb : Below w4.heap.size w4 W5 := by rw [hW]; exact (by repeat (first | exact Below.refl _ _ | (refine Below.alloc ?_ (by simp <;> omega) _) | (refine Below.setCell ?_ (by simp <;> omega) _) | (refine Below.drew ?_) | (refine bel_drewN ?_ _)))
  have bW : Bk W5 (w4.heap.size) #[.slice sa Z.length sc, .slice sb Y.length sd] 26 := by rw [hW]; exact (Bk.new' (by simp))
  replace bX := bX.on hb
  replace HP := Lib.hid (HP.out.on hb)
  replace HS := Lib.hid (HS.out.on hb)
  replace HB := Lib.hid (bel_end HB.out hb)
  rw [← hW]
  clear bX_0 bX_1 bX_l
  clear hW hb
  have p1 := bX.lt
  have p2 := bW.lt
  have p3 := HS.out.le
  have p4 := HB.out.size
  refine (top_any _ _ _ _ _ zs ys HP.out.prof).mono ?_
  rintro e w6 ⟨g3, g4, rfl, hg3, hg4, hr1, hr2, hb⟩
  replace bX := bX.on hb
  replace bW := bW.on hb
  replace HP := Lib.hid (HP.out.on hb)
  replace HS := Lib.hid (HS.out.on hb)
  replace HB := Lib.hid (bel_end HB.out hb)
  have q1 := hb.size
  have HX := Lib.hid (OwnP.of_new hg3 hg4 hr1 hr2 lz ly)
  clear hr1 hr2 hg3 hg4
  clear hb
  have bX_0 := bX.cell 0 rfl
  have bX_1 := bX.cell 1 rfl
  have bX_l := bX.lt
  have bW_0 := bW.cell 0 rfl
  have bW_1 := bW.cell 1 rfl
  have bW_l := bW.lt
  go_wp2_with fail
  obtain ⟨W7, hW⟩ : ∃ W, W = (w6.alloc (.cells #[.slice (some ⟨g3, 0, none⟩) zs.length zs.length, .slice (some ⟨g4, 0, none⟩) ys.length ys.length] 26)) := ⟨_, rfl⟩
  have hb : Below w6.heap.size w6 W7 := by rw [hW]; exact (by repeat (first | exact Below.refl _ _ | (refine Below.alloc ?_ (by simp <;> omega) _) | (refine Below.setCell ?_ (by simp <;> omega) _) | (refine Below.drew ?_) | (refine bel_drewN ?_ _)))
  have bY : Bk W7 (w6.heap.size) #[.slice (some ⟨g3, 0, none⟩) zs.length zs.length, .slice (some ⟨g4, 0, none⟩) ys.length ys.length] 26 := by rw [hW]; exact (Bk.new' (by simp))
  replace bX := bX.on hb
  replace bW := bW.on hb
  replace HP := Lib.hid (HP.out.on hb)
  replace HS := Lib.hid (HS.out.on hb)
  replace HX := Lib.hid (HX.out.on hb)
  replace HB := Lib.hid (bel_end HB.out hb)
  rw [← hW]
  clear bX_0 bX_1 bX_l bW_0 bW_1 bW_l
  clear hW hb
  have p5 := bY.lt
  have p6 := HX.out.up
  have p7 := HS.out.le
  have p8 := HB.out.size
  refine (S2.out _ _ _ _ _ HX.out.prof).mono ?_
  rintro e w8 ⟨ga, gb, gc, gd, rfl, hs, hb⟩
  replace bX := bX.on hb
  replace bW := bW.on hb
  replace bY := bY.on hb
  replace HP := Lib.hid (HP.out.on hb)
  replace HS := Lib.hid (HS.out.on hb)
  replace HX := Lib.hid (HX.out.on hb)
  replace HB := Lib.hid (bel_end HB.out hb)
  have q2 := hb.size
  have HG := Lib.hid hs
  have p9 := HX.out.up
  clear hs
  clear hb
  have bX_0 := bX.cell 0 rfl
  have bX_1 := bX.cell 1 rfl
  have bX_l := bX.lt
  have bW_0 := bW.cell 0 rfl
  have bW_1 := bW.cell 1 rfl
  have bW_l := bW.lt
  have bY_0 := bY.cell 0 rfl
  have bY_1 := bY.cell 1 rfl
  have bY_l := bY.lt
  go_wp2_with fail
  obtain ⟨W9, hW⟩ : ∃ W, W = (w8.alloc (.cells #[.slice ga Z.length gc, .slice gb Y.length gd] 26)) := ⟨_, rfl⟩
  have hb : Below w8.heap.size w8 W9 := by rw [hW]; exact (by repeat (first | exact Below.refl _ _ | (refine Below.alloc ?_ (by simp <;> omega) _) | (refine Below.setCell ?_ (by simp <;> omega) _) | (refine Below.drew ?_) | (refine bel_drewN ?_ _)))
  have bG : Bk W9 (w8.heap.size) #[.slice ga Z.length gc, .slice gb Y.length gd] 26 := by rw [hW]; exact (Bk.new' (by simp))
  replace bX := bX.on hb
  replace bW := bW.on hb
  replace bY := bY.on hb
  replace HP := Lib.hid (HP.out.on hb)
  replace HS := Lib.hid (HS.out.on hb)
  replace HX := Lib.hid (HX.out.on hb)
  replace HG := Lib.hid (HG.out.on hb)
  replace HB := Lib.hid (bel_end HB.out hb)
  rw [← hW]
  clear bX_0 bX_1 bX_l bW_0 bW_1 bW_l bY_0 bY_1 bY_l
  clear hW hb
  refine (eqp_any _ _ _ _ _ _ _ _ _ Z Y Z Y HG.out.prof HS.out.prof).mono ?_
  rw [same_self]
  rintro e w10 ⟨rfl, hb⟩
  replace bX := bX.on hb
  replace bW := bW.on hb
  replace bY := bY.on hb
  replace bG := bG.on hb
  replace HP := Lib.hid (HP.out.on hb)
  replace HS := Lib.hid (HS.out.on hb)
  replace HX := Lib.hid (HX.out.on hb)
  replace HG := Lib.hid (HG.out.on hb)
  replace HB := Lib.hid (bel_end HB.out hb)
  clear hb
  have bX_0 := bX.cell 0 rfl
  have bX_1 := bX.cell 1 rfl
  have bX_l := bX.lt
  have bW_0 := bW.cell 0 rfl
  have bW_1 := bW.cell 1 rfl
  have bW_l := bW.lt
  have bY_0 := bY.cell 0 rfl
  have bY_1 := bY.cell 1 rfl
  have bY_l := bY.lt
  have bG_0 := bG.cell 0 rfl
  have bG_1 := bG.cell 1 rfl
  have bG_l := bG.lt
  go_upto_region 10 with fail
  go_cut [49] (fun s wx => s = .bool false ∧ Below w10.heap.size w10 wx)
  case first =>
    go_region_with (first
      | (go_at_call 30; refine (top_any _ _ _ _ _ zs ys HP.out.prof.drew).mono ?_; rintro e wa ⟨g5, g6, rfl, hg5, hg6, hr1, hr2, hb⟩; have d0 := kc1 (show w10.drew.cell? _ = _ from bY_0) hb; have d1 := kc1 (show w10.drew.cell? _ = _ from bY_1) hb)
      | (go_at_call 32; refine (eqp_any _ _ _ _ _ _ _ _ _ zs ys zs ys (HX.out.prof.drew.on hb) (Prof.of_rows hr1 hr2 lz ly)).mono ?_; rw [same_self]; rintro e wb ⟨rfl, hb2⟩))
    all_goals (go_wp2_with fail; go_meet)
    all_goals (exact ⟨rfl, bel_end (bel_end (Below.refl _ _).drew hb) hb2⟩)
  case rest =>
    obtain ⟨rfl, hb⟩ := hcut
    clear bX_0 bX_1 bX_l bW_0 bW_1 bW_l bY_0 bY_1 bY_l bG_0 bG_1 bG_l
    replace bX := bX.on hb
    replace bW := bW.on hb
    replace bY := bY.on hb
    replace bG := bG.on hb
    replace HP := Lib.hid (HP.out.on hb)
    replace HS := Lib.hid (HS.out.on hb)
    replace HX := Lib.hid (HX.out.on hb)
    replace HG := Lib.hid (HG.out.on hb)
    replace HB := Lib.hid (bel_end HB.out hb)
    clear hb
    have bX_0 := bX.cell 0 rfl
    have bX_1 := bX.cell 1 rfl
    have bX_l := bX.lt
    have bW_0 := bW.cell 0 rfl
    have bW_1 := bW.cell 1 rfl
    have bW_l := bW.lt
    have bY_0 := bY.cell 0 rfl
    have bY_1 := bY.cell 1 rfl
    have bY_l := bY.lt
    have bG_0 := bG.cell 0 rfl
    have bG_1 := bG.cell 1 rfl
    have bG_l := bG.lt
    go_wp2_with fail
    clear bX_0 bX_1 bX_l bW_0 bW_1 bW_l bY_0 bY_1 bY_l bG_0 bG_1 bG_l
    have p10 := HX.out.up
    refine (mkp_any _ _ _ _ _ _ _ zs ys 1 HX.out (by omega) (by omega)).mono ?_
    rintro e w11 ⟨rfl, ho, hk⟩
    replace bX := bX.keptP hk (by omega)
    replace bW := bW.keptP hk (by omega)
    replace bY := bY.keptP hk (by omega)
    replace bG := bG.keptP hk (by omega)
    have hl_HP := HP.out.le
    replace HP := Lib.hid (HP.out.kept hk (by omega) (by omega))
    clear hl_HP
    have hl_HS := HS.out.le
    replace HS := Lib.hid (HS.out.kept hk (by omega) (by omega))
    clear hl_HS
    replace HG := Lib.hid (HG.out.kept hk (by omega))
    replace HB := Lib.hid (HB.out.trans ((hk.below (by omega)).mono (by omega)))
    replace HX := Lib.hid ho
    clear ho hk
    have bX_0 := bX.cell 0 rfl
    have bX_1 := bX.cell 1 rfl
    have bX_l := bX.lt
    have bW_0 := bW.cell 0 rfl
    have bW_1 := bW.cell 1 rfl
    have bW_l := bW.lt
    have bY_0 := bY.cell 0 rfl
    have bY_1 := bY.cell 1 rfl
    have bY_l := bY.lt
    have bG_0 := bG.cell 0 rfl
    have bG_1 := bG.cell 1 rfl
    have bG_l := bG.lt
    go_wp2_with fail
    refine (eqp_any _ _ _ _ _ _ _ _ _ Z Y Z Y HG.out.prof HS.out.prof).mono ?_
    rw [same_self]
    rintro e w12 ⟨rfl, hb⟩
    replace bX := bX.on hb
    replace bW := bW.on hb
    replace bY := bY.on hb
    replace bG := bG.on hb
    replace HP := Lib.hid (HP.out.on hb)
    replace HS := Lib.hid (HS.out.on hb)
    replace HX := Lib.hid (HX.out.on hb)
    replace HG := Lib.hid (HG.out.on hb)
    replace HB := Lib.hid (bel_end HB.out hb)
    clear hb
    clear bX_0 bX_1 bX_l bW_0 bW_1 bW_l bY_0 bY_1 bY_l bG_0 bG_1 bG_l
    have bX_0 := bX.cell 0 rfl
    have bX_1 := bX.cell 1 rfl
    have bX_l := bX.lt
    have bW_0 := bW.cell 0 rfl
    have bW_1 := bW.cell 1 rfl
    have bW_l := bW.lt
    have bY_0 := bY.cell 0 rfl
    have bY_1 := bY.cell 1 rfl
    have bY_l := bY.lt
    have bG_0 := bG.cell 0 rfl
    have bG_1 := bG.cell 1 rfl
    have bG_l := bG.lt
    go_wp2_with fail
    clear bX_0 bX_1 bX_l bW_0 bW_1 bW_l bY_0 bY_1 bY_l bG_0 bG_1 bG_l
    have p11 := HG.out.up
    refine (mkp_any _ _ _ _ _ _ _ Z Y 1 HG.out (by omega) (by omega)).mono ?_
    rintro e w13 ⟨rfl, ho, hk⟩
    replace bX := bX.keptP hk (by omega)
    replace bW := bW.keptP hk (by omega)
    replace bY := bY.keptP hk (by omega)
    replace bG := bG.keptP hk (by omega)
    have hl_HP := HP.out.le
    replace HP := Lib.hid (HP.out.kept hk (by omega) (by omega))
    clear hl_HP
    have hl_HS := HS.out.le
    replace HS := Lib.hid (HS.out.kept hk (by omega) (by omega))
    clear hl_HS
    replace HX := Lib.hid (HX.out.kept hk (by omega))
    replace HB := Lib.hid (HB.out.trans ((hk.below (by omega)).mono (by omega)))
    replace HG := Lib.hid ho
    clear ho hk
    have bX_0 := bX.cell 0 rfl
    have bX_1 := bX.cell 1 rfl
    have bX_l := bX.lt
    have bW_0 := bW.cell 0 rfl
    have bW_1 := bW.cell 1 rfl
    have bW_l := bW.lt
    have bY_0 := bY.cell 0 rfl
    have bY_1 := bY.cell 1 rfl
    have bY_l := bY.lt
    have bG_0 := bG.cell 0 rfl
    have bG_1 := bG.cell 1 rfl
    have bG_l := bG.lt
    go_wp2_with fail
    refine (hdq_any _ _ _ _ _ _ _ 1 HG.out.prof (by omega) (by omega)).mono ?_
    rintro e w14 ⟨rfl, hb⟩
    replace bX := bX.on hb
    replace bW := bW.on hb
    replace bY := bY.on hb
    replace bG := bG.on hb
    replace HP := Lib.hid (HP.out.on hb)
    replace HS := Lib.hid (HS.out.on hb)
    replace HX := Lib.hid (HX.out.on hb)
    replace HG := Lib.hid (HG.out.on hb)
    replace HB := Lib.hid (bel_end HB.out hb)
    clear hb
    clear bX_0 bX_1 bX_l bW_0 bW_1 bW_l bY_0 bY_1 bY_l bG_0 bG_1 bG_l
    have bX_0 := bX.cell 0 rfl
    have bX_1 := bX.cell 1 rfl
    have bX_l := bX.lt
    have bW_0 := bW.cell 0 rfl
    have bW_1 := bW.cell 1 rfl
    have bW_l := bW.lt
    have bY_0 := bY.cell 0 rfl
    have bY_1 := bY.cell 1 rfl
    have bY_l := bY.lt
    have bG_0 := bG.cell 0 rfl
    have bG_1 := bG.cell 1 rfl
    have bG_l := bG.lt
    go_wp2_with fail
    refine (top_any _ _ _ _ _ zs ys HP.out.prof).mono ?_
    rintro e w15 ⟨g7, g8, rfl, hg7, hg8, hr1, hr2, hb⟩
    replace bX := bX.on hb
    replace bW := bW.on hb
    replace bY := bY.on hb
    replace bG := bG.on hb
    replace HP := Lib.hid (HP.out.on hb)
    replace HS := Lib.hid (HS.out.on hb)
    replace HX := Lib.hid (HX.out.on hb)
    replace HG := Lib.hid (HG.out.on hb)
    replace HB := Lib.hid (bel_end HB.out hb)
    have HR := Lib.hid (Prof.of_rows hr1 hr2 lz ly)
    clear hr1 hr2 hg7 hg8
    clear hb
    clear bX_0 bX_1 bX_l bW_0 bW_1 bW_l bY_0 bY_1 bY_l bG_0 bG_1 bG_l
    have bX_0 := bX.cell 0 rfl
    have bX_1 := bX.cell 1 rfl
    have bX_l := bX.lt
    have bW_0 := bW.cell 0 rfl
    have bW_1 := bW.cell 1 rfl
    have bW_l := bW.lt
    have bY_0 := bY.cell 0 rfl
    have bY_1 := bY.cell 1 rfl
    have bY_l := bY.lt
    have bG_0 := bG.cell 0 rfl
    have bG_1 := bG.cell 1 rfl
    have bG_l := bG.lt
    go_wp2_with fail
    refine (S2.out _ _ _ _ _ HR.out).mono ?_
    rintro e w16 ⟨ia, ib, ic, id, rfl, hs, hb⟩
    replace bX := bX.on hb
    replace bW := bW.on hb
    replace bY := bY.on hb
    replace bG := bG.on hb
    replace HP := Lib.hid (HP.out.on hb)
    replace HS := Lib.hid (HS.out.on hb)
    replace HX := Lib.hid (HX.out.on hb)
    replace HG := Lib.hid (HG.out.on hb)
    replace HB := Lib.hid (bel_end HB.out hb)
    have HI := Lib.hid hs
    clear hs HR
    clear hb
    clear bX_0 bX_1 bX_l bW_0 bW_1 bW_l bY_0 bY_1 bY_l bG_0 bG_1 bG_l
    have bX_0 := bX.cell 0 rfl
    have bX_1 := bX.cell 1 rfl
    have bX_l := bX.lt
    have bW_0 := bW.cell 0 rfl
    have bW_1 := bW.cell 1 rfl
    have bW_l := bW.lt
    have bY_0 := bY.cell 0 rfl
    have bY_1 := bY.cell 1 rfl
    have bY_l := bY.lt
    have bG_0 := bG.cell 0 rfl
    have bG_1 := bG.cell 1 rfl
    have bG_l := bG.lt
    go_wp2_with fail
    obtain ⟨W17, hW⟩ : ∃ W, W = (w16.alloc (.cells #[.slice ia Z.length ic, .slice ib Y.length id] 26)) := ⟨_, rfl⟩
    have hb : Below w16.heap.size w16 W17 := by rw [hW]; exact (by repeat (first | exact Below.refl _ _ | (refine Below.alloc ?_ (by simp <;> omega) _) | (refine Below.setCell ?_ (by simp <;> omega) _) | (refine Below.drew ?_) | (refine bel_drewN ?_ _)))
    have bI : Bk W17 (w16.heap.size) #[.slice ia Z.length ic, .slice ib Y.length id] 26 := by rw [hW]; exact (Bk.new' (by simp))
    replace bX := bX.on hb
    replace bW := bW.on hb
    replace bY := bY.on hb
    replace bG := bG.on hb
    replace HP := Lib.hid (HP.out.on hb)
    replace HS := Lib.hid (HS.out.on hb)
    replace HX := Lib.hid (HX.out.on hb)
    replace HG := Lib.hid (HG.out.on hb)
    replace HI := Lib.hid (HI.out.on hb)
    replace HB := Lib.hid (bel_end HB.out hb)
    rw [← hW]
    clear bX_0 bX_1 bX_l bW_0 bW_1 bW_l bY_0 bY_1 bY_l bG_0 bG_1 bG_l
    clear hW hb
    refine (eqp_any _ _ _ _ _ _ _ _ _ Z Y Z Y HI.out.prof HS.out.prof).mono ?_
    rw [same_self]
    rintro e w18 ⟨rfl, hb⟩
    replace bX := bX.on hb
    replace bW := bW.on hb
    replace bY := bY.on hb
    replace bG := bG.on hb
    replace bI := bI.on hb
    replace HP := Lib.hid (HP.out.on hb)
    replace HS := Lib.hid (HS.out.on hb)
    replace HX := Lib.hid (HX.out.on hb)
    replace HG := Lib.hid (HG.out.on hb)
    replace HI := Lib.hid (HI.out.on hb)
    replace HB := Lib.hid (bel_end HB.out hb)
    clear hb
    have bX_0 := bX.cell 0 rfl
    have bX_1 := bX.cell 1 rfl
    have bX_l := bX.lt
    have bW_0 := bW.cell 0 rfl
    have bW_1 := bW.cell 1 rfl
    have bW_l := bW.lt
    have bY_0 := bY.cell 0 rfl
    have bY_1 := bY.cell 1 rfl
    have bY_l := bY.lt
    have bG_0 := bG.cell 0 rfl
    have bG_1 := bG.cell 1 rfl
    have bG_l := bG.lt
    have bI_0 := bI.cell 0 rfl
    have bI_1 := bI.cell 1 rfl
    have bI_l := bI.lt
    go_wp2_with fail
    refine (hdq_any _ _ _ _ _ _ _ 1 HG.out.prof (by omega) (by omega)).mono ?_
    rintro e w19 ⟨rfl, hb⟩
    replace bX := bX.on hb
    replace bW := bW.on hb
    replace bY := bY.on hb
    replace bG := bG.on hb
    replace bI := bI.on hb
    replace HP := Lib.hid (HP.out.on hb)
    replace HS := Lib.hid (HS.out.on hb)
    replace HX := Lib.hid (HX.out.on hb)
    replace HG := Lib.hid (HG.out.on hb)
    replace HI := Lib.hid (HI.out.on hb)
    replace HB := Lib.hid (bel_end HB.out hb)
    clear hb
    clear bX_0 bX_1 bX_l bW_0 bW_1 bW_l bY_0 bY_1 bY_l bG_0 bG_1 bG_l bI_0 bI_1 bI_l
    go_wp2
    go_ret
    exact ⟨rfl, HB.out⟩
end Go.Proofs.Ytkiadgmolkpgfaa
