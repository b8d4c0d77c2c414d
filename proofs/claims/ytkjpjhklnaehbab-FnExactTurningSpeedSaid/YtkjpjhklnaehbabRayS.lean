/- Contracts of the model's helpers on rays. -/
import Derived.Test.YtkjpjhklnaehbabRys
import Derived.Test.YtkjpjhklnaehbabDirS
namespace Go.Proofs.Ytkjpjhklnaehbab
open Go.ChangeShapes Go.WideShapes Go.ChangeAt Go.RowKit Go.Shelf Num
set_option linter.unusedVariables false
theorem inB_hkn (zs : List Int) (x : Int) : inB x 0 ((zs.length : Int) - 1) = hkB zs x := by
  unfold inB hkB
  rw [Bool.eq_iff_iff]
  simp only [decide_eq_true_eq, Bool.and_eq_true]
  omega
set_option maxRecDepth 100000 in
set_option maxHeartbeats 2000000 in
theorem lrc_any (w : World) (a b : Option Addr) (ca cb : Nat) (zs ys : List Int) (src k c s h : Int) (hp : Prof w w.heap.size a b zs ys) :
    Calls Try.prog 24 #[.agg #[.slice a zs.length ca, .slice b ys.length cb], .int .i64 src, .agg #[.int .i64 c, .int .i64 s, .int .i64 h], .int .i64 k] w fun e w' => e = .returned (.int .i64 (rcT (prfB zs ys) (dirB c s h) (hkB zs src) (hkB zs k))) ∧ Below w.heap.size w w' := by
  have HP := Lib.hid hp
  have lz := hp.lz
  clear hp
  have ez : IntKind.wrap .i64 ((zs.length : Int) - 1) = (zs.length : Int) - 1 := IntWalk.i64_in _ (by omega)
  cases hv : prfB zs ys
  · have HV := Lib.hid hv
    clear hv
    go_enter Try.func24, Try.ntmps24
    go_wp2_with fail
    generalize hW : World.alloc _ _ = W
    have HB : Hid (Below w.heap.size w W) := Lib.hid (by rw [← hW]; exact (by repeat (first | exact Below.refl _ _ | (refine Below.alloc ?_ (by simp <;> omega) _) | (refine Below.setCell ?_ (by simp <;> omega) _) | (refine Below.drew ?_) | (refine bel_drewN ?_ _))))
    clear hW
    refine (spr_any _ _ _ _ _ zs ys (HP.out.on HB.out)).mono ?_
    rw [HV.out]
    rintro e w1 ⟨rfl, hb⟩
    go_wp2
    go_ret
    exact ⟨rfl, bel_end HB.out hb⟩
  have HV := Lib.hid hv
  clear hv
  cases hd : dirB c s h
  all_goals
    have HD := Lib.hid hd
    clear hd
  · go_enter Try.func24, Try.ntmps24
    go_wp2_with fail
    generalize hW : World.alloc _ _ = W
    have bD : Bk W (w.heap.size + 1) #[.int .i64 c, .int .i64 s, .int .i64 h] 34 := by rw [← hW]; repeat (first | exact Bk.new' (by simp) | refine Bk.alloc ?_ _)
    have bP : Bk W (w.heap.size) #[.slice a zs.length ca, .slice b ys.length cb] 32 := by rw [← hW]; repeat (first | exact Bk.new' (by simp) | refine Bk.alloc ?_ _)
    have HB : Hid (Below w.heap.size w W) := Lib.hid (by rw [← hW]; exact (by repeat (first | exact Below.refl _ _ | (refine Below.alloc ?_ (by simp <;> omega) _) | (refine Below.setCell ?_ (by simp <;> omega) _) | (refine Below.drew ?_) | (refine bel_drewN ?_ _))))
    clear hW
    refine (spr_any _ _ _ _ _ zs ys (HP.out.on HB.out)).mono ?_
    rw [HV.out]
    rintro e w1 ⟨rfl, hb⟩
    replace bD := bD.on hb
    replace bP := bP.on hb
    replace HB := Lib.hid (bel_end HB.out hb)
    clear hb
    have d0 := bD.cell 0 rfl
    have d1 := bD.cell 1 rfl
    have d2 := bD.cell 2 rfl
    go_wp2_with fail
    refine (sdr_any _ _ _ _).mono ?_
    rw [HD.out]
    rintro e w2 ⟨rfl, hb⟩
    replace bP := bP.on hb
    have p0 := bP.cell 0 rfl
    have pl := bP.lt
    go_wp2
    go_ret
    exact ⟨rfl, bel_end HB.out hb⟩
  cases hi : hkB zs src
  · have L1 : Hid (∀ w : World, Calls Try.prog 48 #[.int .i64 src, .int .i64 0, .int .i64 ((zs.length : Int) - 1)] w fun e w' => e = .returned (.bool false) ∧ w = w') := Lib.hid (fun w => by have := lin_any src 0 ((zs.length : Int) - 1) w; rwa [inB_hkn, hi] at this)
    go_enter Try.func24, Try.ntmps24
    go_wp2_with fail
    generalize hW : World.alloc _ _ = W
    have bD : Bk W (w.heap.size + 1) #[.int .i64 c, .int .i64 s, .int .i64 h] 34 := by rw [← hW]; repeat (first | exact Bk.new' (by simp) | refine Bk.alloc ?_ _)
    have bP : Bk W (w.heap.size) #[.slice a zs.length ca, .slice b ys.length cb] 32 := by rw [← hW]; repeat (first | exact Bk.new' (by simp) | refine Bk.alloc ?_ _)
    have HB : Hid (Below w.heap.size w W) := Lib.hid (by rw [← hW]; exact (by repeat (first | exact Below.refl _ _ | (refine Below.alloc ?_ (by simp <;> omega) _) | (refine Below.setCell ?_ (by simp <;> omega) _) | (refine Below.drew ?_) | (refine bel_drewN ?_ _))))
    clear hW
    refine (spr_any _ _ _ _ _ zs ys (HP.out.on HB.out)).mono ?_
    rw [HV.out]
    rintro e w1 ⟨rfl, hb⟩
    replace bD := bD.on hb
    replace bP := bP.on hb
    replace HB := Lib.hid (bel_end HB.out hb)
    clear hb
    have d0 := bD.cell 0 rfl
    have d1 := bD.cell 1 rfl
    have d2 := bD.cell 2 rfl
    go_wp2_with fail
    refine (sdr_any _ _ _ _).mono ?_
    rw [HD.out]
    rintro e w2 ⟨rfl, hb⟩
    replace bP := bP.on hb
    have p0 := bP.cell 0 rfl
    have pl := bP.lt
    go_wp2_with (go_at_call 48; (with_reducible refine Calls.mono (L1.out _) ?_); rintro e w' ⟨rfl, hw⟩; subst hw)
    go_ret
    exact ⟨rfl, bel_end HB.out hb⟩
  · have L1 : Hid (∀ w : World, Calls Try.prog 48 #[.int .i64 src, .int .i64 0, .int .i64 ((zs.length : Int) - 1)] w fun e w' => e = .returned (.bool true) ∧ w = w') := Lib.hid (fun w => by have := lin_any src 0 ((zs.length : Int) - 1) w; rwa [inB_hkn, hi] at this)
    cases hk : hkB zs k
    · have L2 : Hid (∀ w : World, Calls Try.prog 48 #[.int .i64 k, .int .i64 0, .int .i64 ((zs.length : Int) - 1)] w fun e w' => e = .returned (.bool false) ∧ w = w') := Lib.hid (fun w => by have := lin_any k 0 ((zs.length : Int) - 1) w; rwa [inB_hkn, hk] at this)
      clear hi hk
      go_enter Try.func24, Try.ntmps24
      go_wp2_with fail
      generalize hW : World.alloc _ _ = W
      have bD : Bk W (w.heap.size + 1) #[.int .i64 c, .int .i64 s, .int .i64 h] 34 := by rw [← hW]; repeat (first | exact Bk.new' (by simp) | refine Bk.alloc ?_ _)
      have bP : Bk W (w.heap.size) #[.slice a zs.length ca, .slice b ys.length cb] 32 := by rw [← hW]; repeat (first | exact Bk.new' (by simp) | refine Bk.alloc ?_ _)
      have HB : Hid (Below w.heap.size w W) := Lib.hid (by rw [← hW]; exact (by repeat (first | exact Below.refl _ _ | (refine Below.alloc ?_ (by simp <;> omega) _) | (refine Below.setCell ?_ (by simp <;> omega) _) | (refine Below.drew ?_) | (refine bel_drewN ?_ _))))
      clear hW
      refine (spr_any _ _ _ _ _ zs ys (HP.out.on HB.out)).mono ?_
      rw [HV.out]
      rintro e w1 ⟨rfl, hb⟩
      replace bD := bD.on hb
      replace bP := bP.on hb
      replace HB := Lib.hid (bel_end HB.out hb)
      clear hb
      have d0 := bD.cell 0 rfl
      have d1 := bD.cell 1 rfl
      have d2 := bD.cell 2 rfl
      go_wp2_with fail
      refine (sdr_any _ _ _ _).mono ?_
      rw [HD.out]
      rintro e w2 ⟨rfl, hb⟩
      replace bP := bP.on hb
      have p0 := bP.cell 0 rfl
      have pl := bP.lt
      go_wp2_with (first | (go_at_call 48; (with_reducible refine Calls.mono (L1.out _) ?_); rintro e w' ⟨rfl, hw⟩; subst hw) | (go_at_call 48; (with_reducible refine Calls.mono (L2.out _) ?_); rintro e w' ⟨rfl, hw⟩; subst hw))
      go_ret
      exact ⟨rfl, bel_end HB.out hb⟩
    · have L2 : Hid (∀ w : World, Calls Try.prog 48 #[.int .i64 k, .int .i64 0, .int .i64 ((zs.length : Int) - 1)] w fun e w' => e = .returned (.bool true) ∧ w = w') := Lib.hid (fun w => by have := lin_any k 0 ((zs.length : Int) - 1) w; rwa [inB_hkn, hk] at this)
      clear hi hk
      go_enter Try.func24, Try.ntmps24
      go_wp2_with fail
      generalize hW : World.alloc _ _ = W
      have bD : Bk W (w.heap.size + 1) #[.int .i64 c, .int .i64 s, .int .i64 h] 34 := by rw [← hW]; repeat (first | exact Bk.new' (by simp) | refine Bk.alloc ?_ _)
      have bP : Bk W (w.heap.size) #[.slice a zs.length ca, .slice b ys.length cb] 32 := by rw [← hW]; repeat (first | exact Bk.new' (by simp) | refine Bk.alloc ?_ _)
      have HB : Hid (Below w.heap.size w W) := Lib.hid (by rw [← hW]; exact (by repeat (first | exact Below.refl _ _ | (refine Below.alloc ?_ (by simp <;> omega) _) | (refine Below.setCell ?_ (by simp <;> omega) _) | (refine Below.drew ?_) | (refine bel_drewN ?_ _))))
      clear hW
      refine (spr_any _ _ _ _ _ zs ys (HP.out.on HB.out)).mono ?_
      rw [HV.out]
      rintro e w1 ⟨rfl, hb⟩
      replace bD := bD.on hb
      replace bP := bP.on hb
      replace HB := Lib.hid (bel_end HB.out hb)
      clear hb
      have d0 := bD.cell 0 rfl
      have d1 := bD.cell 1 rfl
      have d2 := bD.cell 2 rfl
      go_wp2_with fail
      refine (sdr_any _ _ _ _).mono ?_
      rw [HD.out]
      rintro e w2 ⟨rfl, hb⟩
      replace bP := bP.on hb
      have p0 := bP.cell 0 rfl
      have pl := bP.lt
      go_wp2_with (first | (go_at_call 48; (with_reducible refine Calls.mono (L1.out _) ?_); rintro e w' ⟨rfl, hw⟩; subst hw) | (go_at_call 48; (with_reducible refine Calls.mono (L2.out _) ?_); rintro e w' ⟨rfl, hw⟩; subst hw))
      go_ret
      exact ⟨rfl, bel_end HB.out hb⟩

set_option maxRecDepth 100000 in
set_option maxHeartbeats 2000000 in
theorem lsq_any (w : World) (a b : Option Addr) (ca cb : Nat) (zs ys : List Int) (i k : Nat) (c s h : Int) (hp : Prof w w.heap.size a b zs ys) (ho : Okp zs ys) (hi : i < zs.length) (hk : k < zs.length) (od : DirOk c s h) :
    Calls Try.prog 35 #[.agg #[.slice a zs.length ca, .slice b ys.length cb], .int .i64 (i : Int), .agg #[.int .i64 c, .int .i64 s, .int .i64 h], .int .i64 (k : Int)] w fun e w' => e = .returned (.int .i64 ((h * ys.getD i 0 - c * ys.getD k 0) * (h * ys.getD i 0 + c * ys.getD k 0))) ∧ Below w.heap.size w w' := by
  have c1 := od.c1
  have c2 := od.c2
  have h1 := od.h1
  have h2 := od.h2
  have q1 := mul_in (a := h) (b := ys.getD i 0) (A := 1000) (B := 1700000) (by omega) (by omega) (ho.sge i) (ho.shi i)
  have q2 := mul_in (a := c) (b := ys.getD k 0) (A := 1000) (B := 1700000) (by omega) (by omega) (ho.sge k) (ho.shi k)
  have hl := ho.len
  have ly := hp.ly
  have hi2 : i < ys.length := by omega
  have hk2 : k < ys.length := by omega
  obtain ⟨b0, off, rfl, hB0, g1⟩ := hp.sy.at_ hi2
  have g2 : w.cell? ⟨b0, off + k, none⟩ = some (.int .i64 (ys.getD k 0)) := by
    obtain ⟨b2, o2, e2, _, g2⟩ := hp.sy.at_ hk2
    injection e2 with e2
    injection e2 with e3 e4
    subst e3 e4
    exact g2
  obtain ⟨u, hu⟩ : ∃ u, ys.getD i 0 = u := ⟨_, rfl⟩
  obtain ⟨v, hv⟩ : ∃ u, ys.getD k 0 = u := ⟨_, rfl⟩
  rw [hu] at q1 g1
  rw [hv] at q2 g2
  rw [hu, hv]
  have e1 : IntKind.wrap .i64 (h * u) = h * u := IntWalk.i64_in _ (by omega)
  have e2 : IntKind.wrap .i64 (c * v) = c * v := IntWalk.i64_in _ (by omega)
  have e3 : IntKind.wrap .i64 (h * u - c * v) = h * u - c * v := IntWalk.i64_in _ (by omega)
  have e4 : IntKind.wrap .i64 (h * u + c * v) = h * u + c * v := IntWalk.i64_in _ (by omega)
  have e5 : IntKind.wrap .i64 ((h * u - c * v) * (h * u + c * v)) = (h * u - c * v) * (h * u + c * v) := by
    refine IntWalk.i64_in _ ?_
    have := mul_abs (a := h * u - c * v) (n := h * u + c * v) (A := 1700000000) (N := 3400000000) (by omega) (by omega)
    omega
  clear hu hv q1 q2 c1 c2 h1 h2 od ho hp hl hi hk
  go_enter Try.func35, Try.ntmps35
  go_wp2_with fail
  generalize hW : World.alloc _ _ = W
  have bD : Bk W (w.heap.size + 1) #[.int .i64 c, .int .i64 s, .int .i64 h] 34 := by rw [← hW]; repeat (first | exact Bk.new' (by simp) | refine Bk.alloc ?_ _)
  have bP : Bk W (w.heap.size) #[.slice a zs.length ca, .slice (some ⟨b0, off, none⟩) ys.length cb] 32 := by rw [← hW]; repeat (first | exact Bk.new' (by simp) | refine Bk.alloc ?_ _)
  have HB : Hid (Below w.heap.size w W) := Lib.hid (by rw [← hW]; exact (by repeat (first | exact Below.refl _ _ | (refine Below.alloc ?_ (by simp <;> omega) _) | (refine Below.setCell ?_ (by simp <;> omega) _) | (refine Below.drew ?_) | (refine bel_drewN ?_ _))))
  have HB1 := HB.out
  clear hW
  replace g1 := kc1 g1 HB1
  replace g2 := kc1 g2 HB1
  have d0 := bD.cell 0 rfl
  have d2 := bD.cell 2 rfl
  have p1 := bP.cell 1 rfl
  clear HB1
  go_quiet (fail)
  go_wp2
  go_ret
  exact ⟨rfl, bel_drewN HB.out _⟩

theorem sq_eq (A B : Int) : (A - B) * (A + B) = A * A - B * B := by rw [Int.sub_mul, Int.mul_add, Int.mul_add, Int.mul_comm B A]; omega
theorem sq_pos {A B : Int} (hA : 0 ≤ A) (hB : 0 ≤ B) : (0 < (A - B) * (A + B)) ↔ B < A := by
  constructor
  · intro h
    rcases Int.lt_or_le B A with l | l
    · exact l
    · have := Int.mul_le_mul_of_nonneg_right (show A - B ≤ 0 by omega) (show 0 ≤ A + B by omega)
      omega
  · intro h; exact Int.mul_pos (by omega) (by omega)

end Go.Proofs.Ytkjpjhklnaehbab
