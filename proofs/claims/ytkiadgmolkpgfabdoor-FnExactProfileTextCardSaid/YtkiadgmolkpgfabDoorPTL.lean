/- The walk of the exact law of a profile's text: it returns true and writes nothing that was there. -/
import Derived.Test.YtkiadgmolkpgfabDoorPText2
import Derived.Deep.RegionWith
namespace Go.Proofs.YtkiadgmolkpgfabDoor
open Go.ChangeShapes Go.WideShapes Go.ChangeAt Go.RowKit Go.Shelf Num
set_option linter.unusedVariables false
set_option maxRecDepth 100000 in
set_option maxHeartbeats 2000000 in
theorem lptx (a0 : Option Addr) (len0 cap0 : Nat) (z0 : List Int) (b0 : Option Addr) (len1 cap1 : Nat) (y0 : List Int) (w : World) (w0 : IsRow .i64 w a0 len0 cap0 z0) (v0 : IsRow .i64 w b0 len1 cap1 y0) (ht : Pow10 w) :
    Calls Tryd.prog 4 #[.agg #[.slice a0 len0 cap0, .slice b0 len1 cap1]] w fun e w' => e = .returned (.bool true) ∧ Below w.heap.size w w' := by
  have HT := Lib.hid ht
  clear ht
  obtain ⟨hm, hn, e1, e2, hp⟩ := Prof.of_in w0 v0
  clear w0 v0
  obtain ⟨zs, hzs⟩ : ∃ zs, z0.take len0 = zs := ⟨_, rfl⟩
  obtain ⟨ys, hys⟩ : ∃ ys, y0.take len1 = ys := ⟨_, rfl⟩
  rw [hzs] at e1 hp
  rw [hys] at e2 hp
  subst e1 e2
  clear hzs hys
  by_cases hbig : 1048576 < zs.length + ys.length
  · have hz := szP_big hbig
    have HZ := Lib.hid hz
    clear hz hp
    go_enter Tryd.func4, Tryd.ntmps4
    go_wp2_with fail
    refine (szp_any _ _ _ _ _ _ _ hm hn).mono ?_
    rw [HZ.out]
    rintro e w1 ⟨rfl, hb⟩
    have HB : Hid (Below w.heap.size w w1) := Lib.hid (bel_end (by repeat (first | exact Below.refl _ _ | (refine Below.alloc ?_ (by simp <;> omega) _) | (refine Below.setCell ?_ (by simp <;> omega) _) | (refine Below.drew ?_) | (refine bel_drewN ?_ _))) hb)
    clear hb
    go_wp2
    go_ret
    exact ⟨rfl, HB.out⟩
  have hz := szP_fit hbig
  have HP := Lib.hid (hp (by omega))
  have lz := HP.out.lz
  have ly := HP.out.ly
  clear hp
  obtain ⟨q, hq⟩ : ∃ q, szP zs.length ys.length = q := ⟨_, rfl⟩
  have hq0 : 0 ≤ q := hq ▸ hz
  have HQ := Lib.hid hq
  clear hz hq
  obtain ⟨T, hT⟩ : ∃ T, pfT zs ys = T := ⟨_, rfl⟩
  have K1 : Hid (∀ (w : World) (a b : Option Addr) (c d : Nat), Prof w w.heap.size a b zs ys → Calls Tryd.prog 17 #[.agg #[.slice a zs.length c, .slice b ys.length d]] w (Told w T)) := Lib.hid (fun w a b c d hp => by have := stp_any w a b c d zs ys hp; rwa [hT] at this)
  have K2 : Hid (∀ (w : World) (a b : Option Addr) (c d : Nat), Prof w w.heap.size a b zs ys → Pow10 w → Calls Tryd.prog 10 #[.agg #[.slice a zs.length c, .slice b ys.length d]] w (Told w T)) := Lib.hid (fun w a b c d hp ht => by have := itp_any w a b c d zs ys hp ht; rwa [hT] at this)
  clear hT
  go_enter Tryd.func4, Tryd.ntmps4
  go_wp2_with fail
  obtain ⟨W1, hW⟩ : ∃ W, W = (w.alloc (.cells #[.slice a0 zs.length cap0, .slice b0 ys.length cap1] 38)) := ⟨_, rfl⟩
  have hb : Below w.heap.size w W1 := by rw [hW]; exact (by repeat (first | exact Below.refl _ _ | (refine Below.alloc ?_ (by simp <;> omega) _) | (refine Below.setCell ?_ (by simp <;> omega) _) | (refine Below.drew ?_) | (refine bel_drewN ?_ _)))
  have bX : Bk W1 (w.heap.size) #[.slice a0 zs.length cap0, .slice b0 ys.length cap1] 38 := by rw [hW]; exact (Bk.new' (by simp))
  replace HP := Lib.hid (HP.out.on hb)
  have HB := Lib.hid hb
  rw [← hW]
  clear hW hb
  refine (szp_any _ _ _ _ _ _ _ hm hn).mono ?_
  rw [HQ.out]
  rintro e w2 ⟨rfl, hb⟩
  replace bX := bX.on hb
  replace HP := Lib.hid (HP.out.on hb)
  replace HB := Lib.hid (bel_end HB.out hb)
  clear hb
  have bX_0 := bX.cell 0 rfl
  have bX_1 := bX.cell 1 rfl
  have bX_l := bX.lt
  go_wp2_with fail
  refine (top_any _ _ _ _ _ zs ys HP.out).mono ?_
  rintro e w3 ⟨g1, g2, rfl, hg1, hg2, hr1, hr2, hb⟩
  replace bX := bX.on hb
  replace HP := Lib.hid (HP.out.on hb)
  replace HB := Lib.hid (bel_end HB.out hb)
  have HR := Lib.hid (Prof.of_rows hr1 hr2 lz ly)
  clear hr1 hr2 hg1 hg2
  clear hb
  clear bX_0 bX_1 bX_l
  have bX_0 := bX.cell 0 rfl
  have bX_1 := bX.cell 1 rfl
  have bX_l := bX.lt
  go_wp2_with fail
  refine (K1.out _ _ _ _ _ HR.out).mono ?_
  rintro e w4 ⟨rfl, hb⟩
  replace bX := bX.on hb
  replace HP := Lib.hid (HP.out.on hb)
  replace HB := Lib.hid (bel_end HB.out hb)
  clear HR
  clear hb
  clear bX_0 bX_1 bX_l
  have bX_0 := bX.cell 0 rfl
  have bX_1 := bX.cell 1 rfl
  have bX_l := bX.lt
  go_wp2_with fail
  refine (top_any _ _ _ _ _ zs ys HP.out).mono ?_
  rintro e w5 ⟨g3, g4, rfl, hg3, hg4, hr1, hr2, hb⟩
  replace bX := bX.on hb
  replace HP := Lib.hid (HP.out.on hb)
  replace HB := Lib.hid (bel_end HB.out hb)
  have HR := Lib.hid (Prof.of_rows hr1 hr2 lz ly)
  clear hr1 hr2 hg3 hg4
  clear hb
  clear bX_0 bX_1 bX_l
  have bX_0 := bX.cell 0 rfl
  have bX_1 := bX.cell 1 rfl
  have bX_l := bX.lt
  go_wp2_with fail
  obtain ⟨W6, hW⟩ : ∃ W, W = (w5.alloc (.cells #[.slice (some ⟨g3, 0, none⟩) zs.length zs.length, .slice (some ⟨g4, 0, none⟩) ys.length ys.length] 26)) := ⟨_, rfl⟩
  have hb : Below w5.heap.size w5 W6 := by rw [hW]; exact (by repeat (first | exact Below.refl _ _ | (refine Below.alloc ?_ (by simp <;> omega) _) | (refine Below.setCell ?_ (by simp <;> omega) _) | (refine Below.drew ?_) | (refine bel_drewN ?_ _)))
  have bY : Bk W6 (w5.heap.size) #[.slice (some ⟨g3, 0, none⟩) zs.length zs.length, .slice (some ⟨g4, 0, none⟩) ys.length ys.length] 26 := by rw [hW]; exact (Bk.new' (by simp))
  replace bX := bX.on hb
  replace HP := Lib.hid (HP.out.on hb)
  replace HR := Lib.hid (HR.out.on hb)
  replace HB := Lib.hid (bel_end HB.out hb)
  rw [← hW]
  clear bX_0 bX_1 bX_l
  clear hW hb
  refine (K2.out _ _ _ _ _ HR.out (HT.out.later HB.out)).mono ?_
  rintro e w7 ⟨rfl, hb⟩
  replace bX := bX.on hb
  replace bY := bY.on hb
  replace HP := Lib.hid (HP.out.on hb)
  replace HR := Lib.hid (HR.out.on hb)
  replace HB := Lib.hid (bel_end HB.out hb)
  clear hb
  have bX_0 := bX.cell 0 rfl
  have bX_1 := bX.cell 1 rfl
  have bX_l := bX.lt
  have bY_0 := bY.cell 0 rfl
  have bY_1 := bY.cell 1 rfl
  have bY_l := bY.lt
  go_wp2_with fail
  clear bX_0 bX_1 bX_l bY_0 bY_1 bY_l
  have y0 := bY.cell 0 rfl
  have y1 := bY.cell 1 rfl
  have x0 := bX.cell 0 rfl
  have x1 := bX.cell 1 rfl
  go_region_with (first
    | (go_at_call 23; refine (top_any _ _ _ _ _ zs ys HP.out.drew).mono ?_; rintro e wa ⟨g5, g6, rfl, hg5, hg6, hr1, hr2, hb⟩; have d0 := kc1 (show w7.drew.cell? _ = _ from y0) hb; have d1 := kc1 (show w7.drew.cell? _ = _ from y1) hb)
    | (go_at_call 24; refine (eqp_any _ _ _ _ _ _ _ _ _ zs ys zs ys (HR.out.drew.on hb) (Prof.of_rows hr1 hr2 lz ly)).mono ?_; rw [same_self]; rintro e wb ⟨rfl, hb2⟩))
  all_goals
    go_wp2_with fail
    go_ret
    exact ⟨rfl, bel_end (bel_end HB.out (bel_end (Below.refl _ _).drew hb)) hb2⟩
end Go.Proofs.YtkiadgmolkpgfabDoor
