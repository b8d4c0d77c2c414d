/- The text of a profile: the contract of the model's text, and the program's at every profile. -/
import Derived.Test.YtcaekheghjnipabDoorPText
namespace Go.Proofs.YtcaekheghjnipabDoor
open Go.ChangeShapes Go.WideShapes Go.ChangeAt Go.RowKit Go.Shelf Num
set_option linter.unusedVariables false
attribute [local go_sem ↓] Go.wp_at_zero Go.wp_at_succ
theorem itp_any (w : World) (a b : Option Addr) (c d : Nat) (zs ys : List Int) (hp : Prof w w.heap.size a b zs ys) (ht : Pow10 w) :
    Calls Tryd.prog 12 #[.agg #[.slice a zs.length c, .slice b ys.length d]] w (Told w (pfT zs ys)) := by
  cases hv : prfB zs ys
  · have HP := Lib.hid hp
    have HV := Lib.hid hv
    have H := Lib.hid (pfT_f hv)
    clear hp hv
    go_enter Tryd.func12, Tryd.ntmps12
    go_wp2_with fail
    refine (ipr_any _ _ _ _ _ zs ys (HP.out.on (by repeat (first | exact Below.refl _ _ | (refine Below.alloc ?_ (by simp <;> omega) _) | (refine Below.setCell ?_ (by simp <;> omega) _) | (refine Below.drew ?_) | (refine bel_drewN ?_ _))))).mono ?_
    rw [HV.out]
    rintro e w1 ⟨rfl, hb⟩
    have HB : Hid (Below w.heap.size w w1) := Lib.hid (bel_end (by repeat (first | exact Below.refl _ _ | (refine Below.alloc ?_ (by simp <;> omega) _) | (refine Below.setCell ?_ (by simp <;> omega) _) | (refine Below.drew ?_) | (refine bel_drewN ?_ _))) hb)
    clear hb
    go_wp2
    go_ret
    exact ⟨ret_str H.out.symm, HB.out⟩
  · rw [pfT_t hv]
    exact itp_ok w a b c d zs ys hp hv ht
theorem num_lit {x : Int} (h : 0 ≤ x) : dstr x.toNat = ⟨(Lib.itoa x).toArray⟩ := (numS_pos h).symm
/-- the text with one knot more -/
theorem txt_step0 {zs ys : List Int} {z y : Int} (hz : zs.getD 0 0 = z) (hy : ys.getD 0 0 = y) (z0 : 0 ≤ z) (y0 : 0 ≤ y) :
    (⟨(pTL zs ys (List.range 0)).toArray⟩ : ByteArray) ++ dstr z.toNat ++ ⟨#[58]⟩ ++ dstr y.toNat = ⟨(pTL zs ys (List.range 1)).toArray⟩ := by
  rw [List.range_succ, pTL_snoc, num_lit z0, num_lit y0]
  unfold ktL
  rw [hz, hy, if_neg (by omega)]
  apply ByteArray.ext
  simp [ByteArray.data_append]
theorem txt_step {zs ys : List Int} {z y : Int} {j : Nat} (hz : zs.getD j 0 = z) (hy : ys.getD j 0 = y) (hj : 0 < j) (z0 : 0 ≤ z) (y0 : 0 ≤ y) :
    (⟨(pTL zs ys (List.range j)).toArray⟩ : ByteArray) ++ ⟨#[44]⟩ ++ dstr z.toNat ++ ⟨#[58]⟩ ++ dstr y.toNat = ⟨(pTL zs ys (List.range (j + 1))).toArray⟩ := by
  rw [List.range_succ, pTL_snoc, num_lit z0, num_lit y0]
  unfold ktL
  rw [hz, hy, if_pos hj]
  apply ByteArray.ext
  simp [ByteArray.data_append]
set_option maxRecDepth 100000 in
set_option maxHeartbeats 4000000 in
theorem stp_ok (w : World) (a b : Option Addr) (c d : Nat) (zs ys : List Int) (hp : Prof w w.heap.size a b zs ys) (hv : prfB zs ys = true) :
    Calls Tryd.prog 17 #[.agg #[.slice a zs.length c, .slice b ys.length d]] w (Told w ⟨(pTL zs ys (List.range zs.length)).toArray⟩) := by
  have lz := hp.lz
  have HO := Lib.hid (Okp.of hv)
  have HP := Lib.hid hp
  have HV := Lib.hid hv
  have n2 := HO.out.n2
  have n12 := HO.out.n12
  clear hp hv
  go_enter Tryd.func17, Tryd.ntmps17
  go_wp2_with fail
  obtain ⟨W, hW⟩ : ∃ W, W = w.alloc (.cells #[.slice a zs.length c, .slice b ys.length d] 24) := ⟨_, rfl⟩
  have bP : Bk W w.heap.size #[.slice a zs.length c, .slice b ys.length d] 24 := by rw [hW]; exact Bk.new' rfl
  have HB : Hid (Below w.heap.size w W) := Lib.hid (by rw [hW]; exact (by repeat (first | exact Below.refl _ _ | (refine Below.alloc ?_ (by simp <;> omega) _) | (refine Below.setCell ?_ (by simp <;> omega) _) | (refine Below.drew ?_) | (refine bel_drewN ?_ _))))
  rw [← hW]
  clear hW
  refine (spr_any _ _ _ _ _ zs ys (HP.out.on HB.out)).mono ?_
  rw [HV.out]
  rintro e w1 ⟨rfl, hb⟩
  replace bP := bP.on hb
  replace HB := Lib.hid (bel_end HB.out hb)
  clear hb
  go_wp2_with fail
  go_loopw [3, 4] (fun s i wr => ∃ j : Nat, j ≤ zs.length ∧ i = .int .i64 j ∧ s = .string ⟨(pTL zs ys (List.range j)).toArray⟩ ∧ Bk wr w.heap.size #[.slice a zs.length c, .slice b ys.length d] 24 ∧ Below w.heap.size w wr) (fun _ i _ => zs.length - (intOf i).toNat)
  case atStart => exact ⟨0, by omega, rfl, rfl, bP, HB.out⟩
  case round =>
    obtain ⟨j, hj, rfl, rfl, bR, hB⟩ := hrel
    have c0 := bR.cell 0 rfl
    have hL := (pTL_len HO.out (List.range j)).1
    rw [List.length_range] at hL
    by_cases hlt : j < zs.length
    · have hly : j < ys.length := by rw [HO.out.len]; exact hlt
      obtain ⟨b1, o1, e1, hB1, h1⟩ := (HP.out.on hB).dz.at_ hlt
      obtain ⟨b2, o2, e2, hB2, h2⟩ := (HP.out.on hB).sy.at_ (show j < ys.length by rw [HO.out.len]; exact hlt)
      have z0 := HO.out.lo j
      have z1 := HO.out.hi j
      have y0 := HO.out.sge j
      have y1 := HO.out.shi j
      have HB2 := Lib.hid hB
      have c1 := bR.cell 1 rfl
      subst e1 e2
      by_cases h0 : 0 < j
      case pos =>
        have hst := fun z y hz hy z0 y0 => @txt_step zs ys z y j hz hy h0 z0 y0
        obtain ⟨z, hz⟩ : ∃ z, zs.getD j 0 = z := ⟨_, rfl⟩
        obtain ⟨y, hy⟩ : ∃ z, ys.getD j 0 = z := ⟨_, rfl⟩
        rw [hz] at h1 z0 z1
        rw [hy] at h2 y0 y1
        have hx := hst z y hz hy z0 y0
        obtain ⟨T, hT⟩ : ∃ T, (⟨(pTL zs ys (List.range j)).toArray⟩ : ByteArray) = T := ⟨_, rfl⟩
        have hTs : T.size ≤ 42 * j := by rw [← hT]; simpa [ByteArray.size] using hL
        rw [hT] at hx ⊢
        have HX := Lib.hid hx
        have D1 := Lib.hid (fun w => dec_any 18 z w z0 (by omega) (by omega))
        have D2 := Lib.hid (fun w => dec_any 18 y w y0 (by omega) (by omega))
        have s1 := dstr_size (n := z.toNat) (by omega)
        have s2 := dstr_size (n := y.toNat) (by omega)
        have i0 : (0 : Int) ≤ (j : Int) := by omega
        have i1 : (j : Int) < (zs.length : Int) := by omega
        have i2 : (j : Int) < (ys.length : Int) := by omega
        clear hst hz hy hx hT hB hL
        go_wp2_with fail
        go_region_with (first
          | (go_at_call 40; (with_reducible refine Calls.mono (D1.out _) ?_); rintro e wp ⟨rfl, hb⟩; have d0 := kc1 (show wr.drew.cell? _ = _ from c0) hb; have d1 := kc1 (show wr.drew.cell? _ = _ from c1) hb; have d2 := kc1 (show wr.drew.cell? _ = _ from h1) hb; have d3 := kc1 (show wr.drew.cell? _ = _ from h2) hb)
          | (go_at_call 40; (with_reducible refine Calls.mono (D2.out _) ?_); rintro e wq ⟨rfl, hb2⟩))
        all_goals
          have hbx := bel_end (bel_end (Below.refl _ _).drew hb) hb2
          have HBX := Lib.hid hbx
          clear hbx hb hb2
          go_wp2_with fail
          go_roundw
          (case rel => exact ⟨j + 1, by omega, by go_num, congrArg Value.string HX.out, bR.on HBX.out, bel_end HB2.out HBX.out⟩)
          (case measure => simp [intOf]; omega)
      case neg =>
        obtain rfl : j = 0 := by omega
        rw [Nat.add_zero] at h1 h2
        have i1 : (0 : Int) < (zs.length : Int) := by omega
        have i2 : (0 : Int) < (ys.length : Int) := by omega
        have i3 : ¬ ys.length = 0 := by omega
        have i4 : ¬ zs.length = 0 := by omega
        have hst := fun z y hz hy z0 y0 => @txt_step0 zs ys z y hz hy z0 y0
        obtain ⟨z, hz⟩ : ∃ z, zs.getD 0 0 = z := ⟨_, rfl⟩
        obtain ⟨y, hy⟩ : ∃ z, ys.getD 0 0 = z := ⟨_, rfl⟩
        rw [hz] at h1 z0 z1
        rw [hy] at h2 y0 y1
        have hx := hst z y hz hy z0 y0
        obtain ⟨T, hT⟩ : ∃ T, (⟨(pTL zs ys (List.range 0)).toArray⟩ : ByteArray) = T := ⟨_, rfl⟩
        have hTs : T.size ≤ 42 * 0 := by rw [← hT]; simpa [ByteArray.size] using hL
        rw [hT] at hx ⊢
        have HX := Lib.hid hx
        have D1 := Lib.hid (fun w => dec_any 18 z w z0 (by omega) (by omega))
        have D2 := Lib.hid (fun w => dec_any 18 y w y0 (by omega) (by omega))
        have s1 := dstr_size (n := z.toNat) (by omega)
        have s2 := dstr_size (n := y.toNat) (by omega)
        clear hst hz hy hx hT hB hL
        go_wp2_with fail
        go_region_with (first
          | (go_at_call 40; (with_reducible refine Calls.mono (D1.out _) ?_); rintro e wp ⟨rfl, hb⟩; have d0 := kc1 (show wr.drew.cell? _ = _ from c0) hb; have d1 := kc1 (show wr.drew.cell? _ = _ from c1) hb; have d2 := kc1 (show wr.drew.cell? _ = _ from h1) hb; have d3 := kc1 (show wr.drew.cell? _ = _ from h2) hb)
          | (go_at_call 40; (with_reducible refine Calls.mono (D2.out _) ?_); rintro e wq ⟨rfl, hb2⟩))
        all_goals
          have hbx := bel_end (bel_end (Below.refl _ _).drew hb) hb2
          have HBX := Lib.hid hbx
          clear hbx hb hb2
          go_wp2_with fail
          go_roundw
          (case rel => exact ⟨0 + 1, by omega, by go_num, congrArg Value.string HX.out, bR.on HBX.out, bel_end HB2.out HBX.out⟩)
          (case measure => simp [intOf]; omega)
    · obtain rfl : j = zs.length := by omega
      have HB2 := Lib.hid hB
      clear hB hL
      go_wp2_with fail
      go_ret
      exact ⟨rfl, HB2.out⟩
theorem stp_any (w : World) (a b : Option Addr) (c d : Nat) (zs ys : List Int) (hp : Prof w w.heap.size a b zs ys) :
    Calls Tryd.prog 17 #[.agg #[.slice a zs.length c, .slice b ys.length d]] w (Told w (pfT zs ys)) := by
  cases hv : prfB zs ys
  · have HP := Lib.hid hp
    have HV := Lib.hid hv
    have H := Lib.hid (pfT_f hv)
    clear hp hv
    go_enter Tryd.func17, Tryd.ntmps17
    go_wp2_with fail
    refine (spr_any _ _ _ _ _ zs ys (HP.out.on (by repeat (first | exact Below.refl _ _ | (refine Below.alloc ?_ (by simp <;> omega) _) | (refine Below.setCell ?_ (by simp <;> omega) _) | (refine Below.drew ?_) | (refine bel_drewN ?_ _))))).mono ?_
    rw [HV.out]
    rintro e w1 ⟨rfl, hb⟩
    have HB : Hid (Below w.heap.size w w1) := Lib.hid (bel_end (by repeat (first | exact Below.refl _ _ | (refine Below.alloc ?_ (by simp <;> omega) _) | (refine Below.setCell ?_ (by simp <;> omega) _) | (refine Below.drew ?_) | (refine bel_drewN ?_ _))) hb)
    clear hb
    go_wp2
    go_ret
    exact ⟨ret_str H.out.symm, HB.out⟩
  · rw [pfT_t hv]
    exact stp_ok w a b c d zs ys hp hv
end Go.Proofs.YtcaekheghjnipabDoor
