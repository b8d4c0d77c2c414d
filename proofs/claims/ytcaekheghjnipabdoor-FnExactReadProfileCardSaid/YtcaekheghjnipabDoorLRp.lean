/- The walk of the exact law of ReadProfile: it returns true and writes nothing that was there. -/
import Derived.Test.YtcaekheghjnipabDoorRdp
import Derived.Deep.RegionWith
namespace Go.Proofs.YtcaekheghjnipabDoor
open Go.ChangeShapes Go.WideShapes Go.ChangeAt Go.RowKit Go.Shelf Num
set_option linter.unusedVariables false
set_option maxRecDepth 100000 in
set_option maxHeartbeats 4000000 in
theorem lrdp (a0 : ByteArray) (w0 : a0.size ≤ maxLen) (w : World) (ht : Pow10 w) (h1 : ∃ tp p, w.var? Tryd.prog "strconv.ErrSyntax" = some #[.iface tp p]) (h2 : ∃ tp p, w.var? Tryd.prog "strconv.ErrRange" = some #[.iface tp p]) (hm : MaxCell w) :
    Calls Tryd.prog 3 #[.string a0] w fun e w' => e = .returned (.bool true) ∧ Below w.heap.size w w' := by
  have HT := Lib.hid ht
  have HE := Lib.hid (errs_of h1 h2)
  have HM := Lib.hid hm
  unfold maxLen at w0
  clear ht h1 h2 hm
  by_cases hbig : 1048576 < a0.size
  · go_enter Tryd.func3, Tryd.ntmps3
    go_wp2
    go_ret
    exact ⟨rfl, Below.refl _ _⟩
  go_enter Tryd.func3, Tryd.ntmps3
  go_wp2_with fail
  refine (srp_any a0 _ (by omega)).mono ?_
  rintro e w1 ⟨sa, sb, sc, sd, zs, ys, kk, rfl, hr, ho, hb⟩
  have HB := Lib.hid hb
  have RP := Lib.hid hr
  have ln1 := hr.len.1
  have ln2 := hr.len.2
  have HS := Lib.hid (ProfL.of (ho.prof (by omega) (by omega)))
  clear hr ho
  clear hb
  go_wp2_with fail
  obtain ⟨W2, hW⟩ : ∃ W, W = (w1.alloc (.cells #[.slice sa zs.length sc, .slice sb ys.length sd] 24)) := ⟨_, rfl⟩
  have hb : Below w1.heap.size w1 W2 := by rw [hW]; exact (by repeat (first | exact Below.refl _ _ | (refine Below.alloc ?_ (by simp <;> omega) _) | (refine Below.setCell ?_ (by simp <;> omega) _) | (refine Below.drew ?_) | (refine bel_drewN ?_ _)))
  have bW : Bk W2 (w1.heap.size) #[.slice sa zs.length sc, .slice sb ys.length sd] 24 := by rw [hW]; exact (Bk.new' (by simp))
  replace HS := Lib.hid (HS.out.on hb)
  replace HB := Lib.hid (bel_end HB.out hb)
  rw [← hW]
  clear hW hb
  have p_g1 := HS.out.le
  have p_g2 := HB.out.size
  have p_g3 := bW.lt
  refine (irp_any a0 _ (by omega) (HT.out.later HB.out) (HE.out.later HB.out) (HM.out.later HB.out)).mono ?_
  rintro e w3 ⟨ga, gb, gc, gd, us, vs, k2, rfl, hr, ho, hb⟩
  replace bW := bW.on hb
  replace HS := Lib.hid (HS.out.on hb)
  replace HB := Lib.hid (bel_end HB.out hb)
  have q_g := hb.size
  obtain ⟨⟨e1, e2⟩, e3⟩ := RPf.unique RP.out hr
  subst e1 e2 e3
  have HG := Lib.hid ho
  have u_g := ho.up
  clear ho hr
  clear hb
  have bW_0 := bW.cell 0 rfl
  have bW_1 := bW.cell 1 rfl
  have bW_l := bW.lt
  go_wp2_with fail
  obtain ⟨W4, hW⟩ : ∃ W, W = (w3.alloc (.cells #[.slice ga zs.length gc, .slice gb ys.length gd] 24)) := ⟨_, rfl⟩
  have hb : Below w3.heap.size w3 W4 := by rw [hW]; exact (by repeat (first | exact Below.refl _ _ | (refine Below.alloc ?_ (by simp <;> omega) _) | (refine Below.setCell ?_ (by simp <;> omega) _) | (refine Below.drew ?_) | (refine bel_drewN ?_ _)))
  have bG : Bk W4 (w3.heap.size) #[.slice ga zs.length gc, .slice gb ys.length gd] 24 := by rw [hW]; exact (Bk.new' (by simp))
  replace bW := bW.on hb
  replace HS := Lib.hid (HS.out.on hb)
  replace HG := Lib.hid (HG.out.on hb)
  replace HB := Lib.hid (bel_end HB.out hb)
  rw [← hW]
  clear bW_0 bW_1 bW_l
  clear hW hb
  have bW_0 := bW.cell 0 rfl
  have bW_1 := bW.cell 1 rfl
  have bW_l := bW.lt
  have bG_0 := bG.cell 0 rfl
  have bG_1 := bG.cell 1 rfl
  have bG_l := bG.lt
  refine (eqp_any _ _ _ _ _ _ _ _ _ zs ys zs ys (HG.out.prof (by omega) (by omega)) HS.out.prof).mono ?_
  rw [same_self]
  rintro e w5 ⟨rfl, hb⟩
  replace bW := bW.on hb
  replace bG := bG.on hb
  replace HS := Lib.hid (HS.out.on hb)
  replace HG := Lib.hid (HG.out.on hb)
  replace HB := Lib.hid (bel_end HB.out hb)
  clear hb
  clear bW_0 bW_1 bW_l bG_0 bG_1 bG_l
  have bW_0 := bW.cell 0 rfl
  have bW_1 := bW.cell 1 rfl
  have bW_l := bW.lt
  have bG_0 := bG.cell 0 rfl
  have bG_1 := bG.cell 1 rfl
  have bG_l := bG.lt
  go_wp2_with fail
  clear bW_0 bW_1 bW_l bG_0 bG_1 bG_l
  have p3 := bW.lt
  have p4 := bG.lt
  have p5 := HS.out.le
  have p6 := HG.out.up
  have p7 := HB.out.size
  refine (mkq_any _ _ _ _ _ _ _ zs ys 1 HG.out (by omega) (by omega) (by omega) (by omega)).mono ?_
  rintro e w6 ⟨rfl, ho, hk⟩
  replace bW := bW.keptP hk (by omega)
  replace bG := bG.keptP hk (by omega)
  have hl_HS := HS.out.le
  replace HS := Lib.hid (HS.out.kept hk (by omega) (by omega))
  clear hl_HS
  replace HB := Lib.hid (HB.out.trans ((hk.below (by omega)).mono (by omega)))
  replace HG := Lib.hid ho
  clear ho hk
  have bW_0 := bW.cell 0 rfl
  have bW_1 := bW.cell 1 rfl
  have bW_l := bW.lt
  have bG_0 := bG.cell 0 rfl
  have bG_1 := bG.cell 1 rfl
  have bG_l := bG.lt
  go_wp2_with fail
  refine (hdq_any _ _ _ _ _ zs.length ys.length 1 (HG.out.prof (by rw [ramp_len]; omega) (by rw [ramp_len]; omega)) (by omega) (by omega)).mono ?_
  rintro e w7 ⟨rfl, hb⟩
  replace bW := bW.on hb
  replace bG := bG.on hb
  replace HS := Lib.hid (HS.out.on hb)
  replace HG := Lib.hid (HG.out.on hb)
  replace HB := Lib.hid (bel_end HB.out hb)
  clear hb
  clear bW_0 bW_1 bW_l bG_0 bG_1 bG_l
  have bW_0 := bW.cell 0 rfl
  have bW_1 := bW.cell 1 rfl
  have bW_l := bW.lt
  have bG_0 := bG.cell 0 rfl
  have bG_1 := bG.cell 1 rfl
  have bG_l := bG.lt
  go_wp2_with fail
  have p_h1 := HS.out.le
  have p_h2 := HB.out.size
  have p_h3 := bW.lt
  refine (irp_any a0 _ (by omega) (HT.out.later HB.out) (HE.out.later HB.out) (HM.out.later HB.out)).mono ?_
  rintro e w8 ⟨ha, hb_, hc, hd, us, vs, k2, rfl, hr, ho, hb⟩
  replace bW := bW.on hb
  replace bG := bG.on hb
  replace HS := Lib.hid (HS.out.on hb)
  replace HG := Lib.hid (HG.out.on hb)
  replace HB := Lib.hid (bel_end HB.out hb)
  have q_h := hb.size
  obtain ⟨⟨e1, e2⟩, e3⟩ := RPf.unique RP.out hr
  subst e1 e2 e3
  have HI := Lib.hid ho
  have u_h := ho.up
  clear ho hr
  clear hb
  clear bW_0 bW_1 bW_l bG_0 bG_1 bG_l
  have bW_0 := bW.cell 0 rfl
  have bW_1 := bW.cell 1 rfl
  have bW_l := bW.lt
  have bG_0 := bG.cell 0 rfl
  have bG_1 := bG.cell 1 rfl
  have bG_l := bG.lt
  go_wp2_with fail
  obtain ⟨W9, hW⟩ : ∃ W, W = (w8.alloc (.cells #[.slice ha zs.length hc, .slice hb_ ys.length hd] 24)) := ⟨_, rfl⟩
  have hb : Below w8.heap.size w8 W9 := by rw [hW]; exact (by repeat (first | exact Below.refl _ _ | (refine Below.alloc ?_ (by simp <;> omega) _) | (refine Below.setCell ?_ (by simp <;> omega) _) | (refine Below.drew ?_) | (refine bel_drewN ?_ _)))
  have bI : Bk W9 (w8.heap.size) #[.slice ha zs.length hc, .slice hb_ ys.length hd] 24 := by rw [hW]; exact (Bk.new' (by simp))
  replace bW := bW.on hb
  replace bG := bG.on hb
  replace HS := Lib.hid (HS.out.on hb)
  replace HG := Lib.hid (HG.out.on hb)
  replace HI := Lib.hid (HI.out.on hb)
  replace HB := Lib.hid (bel_end HB.out hb)
  rw [← hW]
  clear bW_0 bW_1 bW_l bG_0 bG_1 bG_l
  clear hW hb
  have bW_0 := bW.cell 0 rfl
  have bW_1 := bW.cell 1 rfl
  have bW_l := bW.lt
  have bG_0 := bG.cell 0 rfl
  have bG_1 := bG.cell 1 rfl
  have bG_l := bG.lt
  have bI_0 := bI.cell 0 rfl
  have bI_1 := bI.cell 1 rfl
  have bI_l := bI.lt
  refine (eqp_any _ _ _ _ _ _ _ _ _ zs ys zs ys (HI.out.prof (by omega) (by omega)) HS.out.prof).mono ?_
  rw [same_self]
  rintro e w10 ⟨rfl, hb⟩
  replace bW := bW.on hb
  replace bG := bG.on hb
  replace bI := bI.on hb
  replace HS := Lib.hid (HS.out.on hb)
  replace HG := Lib.hid (HG.out.on hb)
  replace HI := Lib.hid (HI.out.on hb)
  replace HB := Lib.hid (bel_end HB.out hb)
  clear hb
  clear bW_0 bW_1 bW_l bG_0 bG_1 bG_l bI_0 bI_1 bI_l
  have bW_0 := bW.cell 0 rfl
  have bW_1 := bW.cell 1 rfl
  have bW_l := bW.lt
  have bG_0 := bG.cell 0 rfl
  have bG_1 := bG.cell 1 rfl
  have bG_l := bG.lt
  have bI_0 := bI.cell 0 rfl
  have bI_1 := bI.cell 1 rfl
  have bI_l := bI.lt
  go_wp2_with fail
  refine (hdq_any _ _ _ _ _ zs.length ys.length 1 (HG.out.prof (by rw [ramp_len]; omega) (by rw [ramp_len]; omega)) (by omega) (by omega)).mono ?_
  rintro e w11 ⟨rfl, hb⟩
  replace bW := bW.on hb
  replace bG := bG.on hb
  replace bI := bI.on hb
  replace HS := Lib.hid (HS.out.on hb)
  replace HG := Lib.hid (HG.out.on hb)
  replace HI := Lib.hid (HI.out.on hb)
  replace HB := Lib.hid (bel_end HB.out hb)
  clear hb
  clear bW_0 bW_1 bW_l bG_0 bG_1 bG_l bI_0 bI_1 bI_l
  go_wp2
  go_ret
  exact ⟨rfl, HB.out⟩
end Go.Proofs.YtcaekheghjnipabDoor
