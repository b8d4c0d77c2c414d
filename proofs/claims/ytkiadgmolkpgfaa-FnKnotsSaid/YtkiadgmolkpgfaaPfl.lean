/- Contracts of LayerOf, the program's and the model's. -/
import Derived.Test.YtkiadgmolkpgfaaLay2
namespace Go.Proofs.Ytkiadgmolkpgfaa
open Go.ChangeShapes Go.WideShapes Go.ChangeAt Go.RowKit Go.Shelf Num
set_option linter.unusedVariables false
theorem rt2 {a b a' b' : Int} (h : a = a') (h2 : b = b') : Ending.returned (.tuple #[.int .i64 a, .int .i64 b]) = .returned (.tuple #[.int .i64 a', .int .i64 b']) := by rw [h, h2]
/-- the layer, 0 where there is none -/
def lyV (zs ys : List Int) (x : Int) : Int := if prfB zs ys && hdB zs x then (layN zs x : Int) else 0
theorem lyV_t {zs ys : List Int} {x : Int} (h : prfB zs ys = true) (g : hdB zs x = true) : lyV zs ys x = (layN zs x : Int) := by unfold lyV; rw [h, g]; rfl
theorem lyV_f {zs ys : List Int} {x : Int} (h : prfB zs ys = false) : lyV zs ys x = 0 := by unfold lyV; rw [h]; rfl
theorem lyV_g {zs ys : List Int} {x : Int} (g : hdB zs x = false) : lyV zs ys x = 0 := by unfold lyV; rw [g, Bool.and_false]; rfl

set_option maxRecDepth 100000 in
theorem ily_any (w : World) (a b : Option Addr) (c d : Nat) (zs ys : List Int) (x : Int) (hp : Prof w w.heap.size a b zs ys) :
    Calls Try.prog 16 #[.agg #[.slice a zs.length c, .slice b ys.length d], .int .i64 x] w fun e w' => e = .returned (.tuple #[.int .i64 (lyV zs ys x), .int .i64 (cdT (prfB zs ys) (hdB zs x))]) ∧ Below w.heap.size w w' := by
  have HP := Lib.hid hp
  have lz := hp.lz
  clear hp
  cases hv : prfB zs ys
  · have H := Lib.hid (lyV_f (x := x) hv)
    have HV := Lib.hid hv
    clear hv
    go_enter Try.func16, Try.ntmps16
    go_wp2_with fail
    obtain ⟨W, hW⟩ : ∃ W, W = w.alloc (.cells #[.slice a zs.length c, .slice b ys.length d] 26) := ⟨_, rfl⟩
    have bP : Bk W w.heap.size #[.slice a zs.length c, .slice b ys.length d] 26 := by rw [hW]; exact Bk.new' rfl
    have HB : Hid (Below w.heap.size w W) := Lib.hid (by rw [hW]; exact (by repeat (first | exact Below.refl _ _ | (refine Below.alloc ?_ (by simp <;> omega) _) | (refine Below.setCell ?_ (by simp <;> omega) _) | (refine Below.drew ?_) | (refine bel_drewN ?_ _))))
    rw [← hW]
    clear hW
    refine (eod_any _ _ _ _ _ zs ys _ (HP.out.on HB.out)).mono ?_
    rw [HV.out, show cdT false (hdB zs x) = 1 from rfl]
    rintro e w1 ⟨rfl, hb⟩
    replace HB := Lib.hid (bel_end HB.out hb)
    clear hb
    go_wp2
    go_ret2
    exact ⟨rt2 H.out.symm rfl, HB.out⟩
  · cases hh : hdB zs x
    · have H := Lib.hid (lyV_g (ys := ys) hh)
      have HV := Lib.hid hv
      have HH := Lib.hid hh
      clear hv hh
      go_enter Try.func16, Try.ntmps16
      go_wp2_with fail
      obtain ⟨W, hW⟩ : ∃ W, W = w.alloc (.cells #[.slice a zs.length c, .slice b ys.length d] 26) := ⟨_, rfl⟩
      have bP : Bk W w.heap.size #[.slice a zs.length c, .slice b ys.length d] 26 := by rw [hW]; exact Bk.new' rfl
      have HB : Hid (Below w.heap.size w W) := Lib.hid (by rw [hW]; exact (by repeat (first | exact Below.refl _ _ | (refine Below.alloc ?_ (by simp <;> omega) _) | (refine Below.setCell ?_ (by simp <;> omega) _) | (refine Below.drew ?_) | (refine bel_drewN ?_ _))))
      rw [← hW]
      clear hW
      refine (eod_any _ _ _ _ _ zs ys _ (HP.out.on HB.out)).mono ?_
      rw [HV.out, HH.out, show cdT true false = 2 from rfl]
      rintro e w1 ⟨rfl, hb⟩
      replace HB := Lib.hid (bel_end HB.out hb)
      clear hb
      go_wp2
      go_ret2
      exact ⟨rt2 H.out.symm rfl, HB.out⟩
    · have H := Lib.hid (lyV_t hv hh)
      have HV := Lib.hid hv
      have HH := Lib.hid hh
      clear hv hh
      go_enter Try.func16, Try.ntmps16
      go_wp2_with fail
      obtain ⟨W, hW⟩ : ∃ W, W = w.alloc (.cells #[.slice a zs.length c, .slice b ys.length d] 26) := ⟨_, rfl⟩
      have bP : Bk W w.heap.size #[.slice a zs.length c, .slice b ys.length d] 26 := by rw [hW]; exact Bk.new' rfl
      have HB : Hid (Below w.heap.size w W) := Lib.hid (by rw [hW]; exact (by repeat (first | exact Below.refl _ _ | (refine Below.alloc ?_ (by simp <;> omega) _) | (refine Below.setCell ?_ (by simp <;> omega) _) | (refine Below.drew ?_) | (refine bel_drewN ?_ _))))
      rw [← hW]
      clear hW
      refine (eod_any _ _ _ _ _ zs ys _ (HP.out.on HB.out)).mono ?_
      rw [HV.out, HH.out, show cdT true true = 0 from rfl]
      rintro e w1 ⟨rfl, hb⟩
      replace bP := bP.on hb
      replace HB := Lib.hid (bel_end HB.out hb)
      have c0 := bP.cell 0 rfl
      have c1 := bP.cell 1 rfl
      clear hb
      go_wp2_with fail
      refine (lat_any _ _ _ _ _ zs ys _ (HP.out.on HB.out) (Okp.of HV.out).len).mono ?_
      rintro e w2 ⟨rfl, hb⟩
      replace HB := Lib.hid (bel_end HB.out hb)
      clear hb
      go_wp2
      go_ret2
      exact ⟨rt2 H.out.symm rfl, HB.out⟩

set_option maxRecDepth 100000 in
theorem slyo_any (w : World) (a b : Option Addr) (c d : Nat) (zs ys : List Int) (x : Int) (hp : Prof w w.heap.size a b zs ys) :
    Calls Try.prog 17 #[.agg #[.slice a zs.length c, .slice b ys.length d], .int .i64 x] w fun e w' => e = .returned (.tuple #[.int .i64 (lyV zs ys x), .int .i64 (cdT (prfB zs ys) (hdB zs x))]) ∧ Below w.heap.size w w' := by
  have HP := Lib.hid hp
  have lz := hp.lz
  clear hp
  cases hv : prfB zs ys
  · have H := Lib.hid (lyV_f (x := x) hv)
    have HV := Lib.hid hv
    clear hv
    go_enter Try.func17, Try.ntmps17
    go_wp2_with fail
    obtain ⟨W, hW⟩ : ∃ W, W = w.alloc (.cells #[.slice a zs.length c, .slice b ys.length d] 26) := ⟨_, rfl⟩
    have bP : Bk W w.heap.size #[.slice a zs.length c, .slice b ys.length d] 26 := by rw [hW]; exact Bk.new' rfl
    have HB : Hid (Below w.heap.size w W) := Lib.hid (by rw [hW]; exact (by repeat (first | exact Below.refl _ _ | (refine Below.alloc ?_ (by simp <;> omega) _) | (refine Below.setCell ?_ (by simp <;> omega) _) | (refine Below.drew ?_) | (refine bel_drewN ?_ _))))
    rw [← hW]
    clear hW
    refine (scd_any _ _ _ _ _ zs ys _ (HP.out.on HB.out)).mono ?_
    rw [HV.out, show cdT false (hdB zs x) = 1 from rfl]
    rintro e w1 ⟨rfl, hb⟩
    replace HB := Lib.hid (bel_end HB.out hb)
    clear hb
    go_wp2
    go_ret2
    exact ⟨rt2 H.out.symm rfl, HB.out⟩
  · cases hh : hdB zs x
    · have H := Lib.hid (lyV_g (ys := ys) hh)
      have HV := Lib.hid hv
      have HH := Lib.hid hh
      clear hv hh
      go_enter Try.func17, Try.ntmps17
      go_wp2_with fail
      obtain ⟨W, hW⟩ : ∃ W, W = w.alloc (.cells #[.slice a zs.length c, .slice b ys.length d] 26) := ⟨_, rfl⟩
      have bP : Bk W w.heap.size #[.slice a zs.length c, .slice b ys.length d] 26 := by rw [hW]; exact Bk.new' rfl
      have HB : Hid (Below w.heap.size w W) := Lib.hid (by rw [hW]; exact (by repeat (first | exact Below.refl _ _ | (refine Below.alloc ?_ (by simp <;> omega) _) | (refine Below.setCell ?_ (by simp <;> omega) _) | (refine Below.drew ?_) | (refine bel_drewN ?_ _))))
      rw [← hW]
      clear hW
      refine (scd_any _ _ _ _ _ zs ys _ (HP.out.on HB.out)).mono ?_
      rw [HV.out, HH.out, show cdT true false = 2 from rfl]
      rintro e w1 ⟨rfl, hb⟩
      replace HB := Lib.hid (bel_end HB.out hb)
      clear hb
      go_wp2
      go_ret2
      exact ⟨rt2 H.out.symm rfl, HB.out⟩
    · have H := Lib.hid (lyV_t hv hh)
      have HV := Lib.hid hv
      have HH := Lib.hid hh
      clear hv hh
      go_enter Try.func17, Try.ntmps17
      go_wp2_with fail
      obtain ⟨W, hW⟩ : ∃ W, W = w.alloc (.cells #[.slice a zs.length c, .slice b ys.length d] 26) := ⟨_, rfl⟩
      have bP : Bk W w.heap.size #[.slice a zs.length c, .slice b ys.length d] 26 := by rw [hW]; exact Bk.new' rfl
      have HB : Hid (Below w.heap.size w W) := Lib.hid (by rw [hW]; exact (by repeat (first | exact Below.refl _ _ | (refine Below.alloc ?_ (by simp <;> omega) _) | (refine Below.setCell ?_ (by simp <;> omega) _) | (refine Below.drew ?_) | (refine bel_drewN ?_ _))))
      rw [← hW]
      clear hW
      refine (scd_any _ _ _ _ _ zs ys _ (HP.out.on HB.out)).mono ?_
      rw [HV.out, HH.out, show cdT true true = 0 from rfl]
      rintro e w1 ⟨rfl, hb⟩
      replace bP := bP.on hb
      replace HB := Lib.hid (bel_end HB.out hb)
      have c0 := bP.cell 0 rfl
      have c1 := bP.cell 1 rfl
      clear hb
      go_wp2_with fail
      refine (sly_any _ _ _ _ _ zs ys _ (HP.out.on HB.out) (Okp.of HV.out) (hdB_t HH.out).2).mono ?_
      rintro e w2 ⟨rfl, hb⟩
      replace HB := Lib.hid (bel_end HB.out hb)
      clear hb
      go_wp2
      go_ret2
      exact ⟨rt2 H.out.symm rfl, HB.out⟩
end Go.Proofs.Ytkiadgmolkpgfaa
