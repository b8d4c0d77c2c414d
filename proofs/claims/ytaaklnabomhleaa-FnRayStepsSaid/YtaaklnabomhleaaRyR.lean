/- Contracts of the program's states and steps of a ray. -/
import Derived.Test.YtaaklnabomhleaaRyQ
import Derived.Test.YtaaklnabomhleaaRyN
import Derived.Handy
import Derived.Deep.RegionHeld3
import Derived.Deep.DeepCutAuto
import Derived.Deep.RegionWith
namespace Go.Proofs.Ytaaklnabomhleaa
open Go.ChangeShapes Go.WideShapes Go.ChangeAt Go.RowKit Go.Shelf Num
set_option linter.unusedVariables false
set_option linter.unusedSimpArgs false
theorem evW_iface (a b : Option Addr) (ca cb : Nat) (zs ys : List Int) (i : Nat) (c s h : Int) (k : Nat) (dn : Bool) : ∃ t v, evW a b ca cb zs ys i c s h k dn = .iface t v := by
  unfold evW
  cases inP zs.length k dn <;> cases crB ys (i : Int) c h (fk k dn : Nat) <;> cases dn <;> exact ⟨_, _, rfl⟩

set_option maxRecDepth 100000 in
set_option maxHeartbeats 4000000 in
theorem eos_any (w : World) (a b : Option Addr) (ca cb : Nat) (zs ys : List Int) (src c s h K lo hi : Int) (dn : Bool) (hp : Prof w w.heap.size a b zs ys) :
    Calls Try.prog 107 #[.agg #[.slice a zs.length ca, .slice b ys.length cb, .int .i64 src, .int .i64 c, .int .i64 s, .int .i64 h], .agg #[.int .i64 K, .bool dn, .int .i64 lo, .int .i64 hi]] w fun e w' => e = .returned (.int .i64 (eosT zs ys src c s h K lo hi)) ∧ Below w.heap.size w w' := by
  have HP := Lib.hid hp
  have KE : Hid (∀ W : World, Below w.heap.size w W → Calls Try.prog 106 #[.agg #[.slice a zs.length ca, .slice b ys.length cb, .int .i64 src, .int .i64 c, .int .i64 s, .int .i64 h], .int .i64 K] W fun e w' => e = .returned (.int .i64 (rcod zs ys src c s h K)) ∧ Below W.heap.size W w') := Lib.hid (fun W hb => rer_any W a b ca cb zs ys src K c s h (HP.out.on hb))
  unfold eosT
  by_cases hq : rcod zs ys src c s h K = 0
  case neg =>
    rw [if_neg hq]
    obtain ⟨q, hqq⟩ : ∃ q, rcod zs ys src c s h K = q := ⟨_, rfl⟩
    rw [hqq] at KE hq ⊢
    have hq0 : (q != 0) = true := by simpa using hq
    clear hqq hq hp
    go_enter Try.func107, Try.ntmps107
    go_wp2_with fail
    generalize hW : World.alloc _ _ = W
    have bX : Bk W (w.heap.size) #[.slice a zs.length ca, .slice b ys.length cb, .int .i64 src, .int .i64 c, .int .i64 s, .int .i64 h] 141 := by rw [← hW]; repeat (first | (refine Bk.new' ?_; (simp; done)) | refine Bk.alloc ?_ _)
    have bS : Bk W (w.heap.size + 1) #[.int .i64 K, .bool dn, .int .i64 lo, .int .i64 hi] 61 := by rw [← hW]; repeat (first | (refine Bk.new' ?_; (simp; done)) | refine Bk.alloc ?_ _)
    have HB : Hid (Below w.heap.size w W) := Lib.hid (by rw [← hW]; exact (by repeat (first | exact Below.refl _ _ | (refine Below.alloc ?_ (by simp <;> omega) _) | (refine Below.setCell ?_ (by simp <;> omega) _) | (refine Below.drew ?_) | (refine bel_drewN ?_ _))))
    clear hW
    (with_reducible refine Calls.mono (KE.out _ HB.out) ?_)
    rintro e w1 ⟨rfl, hb⟩
    replace bX := bX.on hb
    replace bS := bS.on hb
    replace HB := Lib.hid (bel_end HB.out hb)
    clear hb
    go_wp2
    go_ret
    exact ⟨rfl, HB.out⟩
  case pos =>
    rw [if_pos hq]
    obtain ⟨i, k, rfl, rfl, hk, r⟩ := rc_parts hq
    rw [hq] at KE
    have KC : Hid (∀ W : World, Below w.heap.size w W → Calls Try.prog 142 #[.agg #[.slice a zs.length ca, .slice b ys.length cb, .int .i64 (i : Int), .int .i64 c, .int .i64 s, .int .i64 h], .int .i64 (k : Int)] W fun e w' => e = .returned (.bool (crB ys (i : Int) c h (k : Int))) ∧ Below W.heap.size W w') := Lib.hid (fun W hb => rcc_any W a b ca cb zs ys i k c s h (HP.out.on hb) r.ok r.hi hk r.od)
    obtain ⟨C, hC⟩ : ∃ x, crB ys (i : Int) c h (k : Int) = x := ⟨_, rfl⟩
    obtain ⟨V, hV⟩ : ∃ x, vldB lo hi = x := ⟨_, rfl⟩
    rw [hC] at KC ⊢
    rw [hV]
    have HV := Lib.hid hV
    clear hC hV hp r hk hq
    cases C
    case false =>
      go_enter Try.func107, Try.ntmps107
      go_wp2_with fail
      generalize hW : World.alloc _ _ = W
      have bX : Bk W (w.heap.size) #[.slice a zs.length ca, .slice b ys.length cb, .int .i64 (i : Int), .int .i64 c, .int .i64 s, .int .i64 h] 141 := by rw [← hW]; repeat (first | (refine Bk.new' ?_; (simp; done)) | refine Bk.alloc ?_ _)
      have bS : Bk W (w.heap.size + 1) #[.int .i64 (k : Int), .bool dn, .int .i64 lo, .int .i64 hi] 61 := by rw [← hW]; repeat (first | (refine Bk.new' ?_; (simp; done)) | refine Bk.alloc ?_ _)
      have HB : Hid (Below w.heap.size w W) := Lib.hid (by rw [← hW]; exact (by repeat (first | exact Below.refl _ _ | (refine Below.alloc ?_ (by simp <;> omega) _) | (refine Below.setCell ?_ (by simp <;> omega) _) | (refine Below.drew ?_) | (refine bel_drewN ?_ _))))
      clear hW
      (with_reducible refine Calls.mono (KE.out _ HB.out) ?_)
      rintro e w1 ⟨rfl, hb⟩
      replace bX := bX.on hb
      replace bS := bS.on hb
      replace HB := Lib.hid (bel_end HB.out hb)
      clear hb
      have bX_0 := bX.cell 0 rfl
      have bX_1 := bX.cell 1 rfl
      have bX_2 := bX.cell 2 rfl
      have bX_3 := bX.cell 3 rfl
      have bX_4 := bX.cell 4 rfl
      have bX_5 := bX.cell 5 rfl
      have bX_l := bX.lt
      have bS_0 := bS.cell 0 rfl
      have bS_1 := bS.cell 1 rfl
      have bS_2 := bS.cell 2 rfl
      have bS_3 := bS.cell 3 rfl
      have bS_l := bS.lt
      go_wp2_with fail
      clear bX_0 bX_1 bX_2 bX_3 bX_4 bX_5 bX_l
      clear bS_0 bS_1 bS_2 bS_3 bS_l
      (with_reducible refine Calls.mono (KC.out _ HB.out) ?_)
      rintro e w2 ⟨rfl, hb⟩
      replace bX := bX.on hb
      replace bS := bS.on hb
      replace HB := Lib.hid (bel_end HB.out hb)
      clear hb
      go_wp2
      go_ret
      exact ⟨rfl, HB.out⟩
    case true =>
      cases V
      case false =>
        go_enter Try.func107, Try.ntmps107
        go_wp2_with fail
        generalize hW : World.alloc _ _ = W
        have bX : Bk W (w.heap.size) #[.slice a zs.length ca, .slice b ys.length cb, .int .i64 (i : Int), .int .i64 c, .int .i64 s, .int .i64 h] 141 := by rw [← hW]; repeat (first | (refine Bk.new' ?_; (simp; done)) | refine Bk.alloc ?_ _)
        have bS : Bk W (w.heap.size + 1) #[.int .i64 (k : Int), .bool dn, .int .i64 lo, .int .i64 hi] 61 := by rw [← hW]; repeat (first | (refine Bk.new' ?_; (simp; done)) | refine Bk.alloc ?_ _)
        have HB : Hid (Below w.heap.size w W) := Lib.hid (by rw [← hW]; exact (by repeat (first | exact Below.refl _ _ | (refine Below.alloc ?_ (by simp <;> omega) _) | (refine Below.setCell ?_ (by simp <;> omega) _) | (refine Below.drew ?_) | (refine bel_drewN ?_ _))))
        clear hW
        (with_reducible refine Calls.mono (KE.out _ HB.out) ?_)
        rintro e w1 ⟨rfl, hb⟩
        replace bX := bX.on hb
        replace bS := bS.on hb
        replace HB := Lib.hid (bel_end HB.out hb)
        clear hb
        have bX_0 := bX.cell 0 rfl
        have bX_1 := bX.cell 1 rfl
        have bX_2 := bX.cell 2 rfl
        have bX_3 := bX.cell 3 rfl
        have bX_4 := bX.cell 4 rfl
        have bX_5 := bX.cell 5 rfl
        have bX_l := bX.lt
        have bS_0 := bS.cell 0 rfl
        have bS_1 := bS.cell 1 rfl
        have bS_2 := bS.cell 2 rfl
        have bS_3 := bS.cell 3 rfl
        have bS_l := bS.lt
        go_wp2_with fail
        clear bX_0 bX_1 bX_2 bX_3 bX_4 bX_5 bX_l
        clear bS_0 bS_1 bS_2 bS_3 bS_l
        (with_reducible refine Calls.mono (KC.out _ HB.out) ?_)
        rintro e w2 ⟨rfl, hb⟩
        replace bX := bX.on hb
        replace bS := bS.on hb
        replace HB := Lib.hid (bel_end HB.out hb)
        clear hb
        have bS_0 := bS.cell 0 rfl
        have bS_1 := bS.cell 1 rfl
        have bS_2 := bS.cell 2 rfl
        have bS_3 := bS.cell 3 rfl
        have bS_l := bS.lt
        go_wp2_with fail
        refine (vld_any _ _ _).mono ?_
        rw [HV.out]
        rintro e w3 ⟨rfl, hw9⟩
        have hb : Below w2.heap.size w2 w3 := by rw [hw9]; exact (Below.refl _ _).alloc (Nat.le_refl _) _
        clear hw9
        clear bS_0 bS_1 bS_2 bS_3 bS_l
        replace bX := bX.on hb
        replace bS := bS.on hb
        replace HB := Lib.hid (bel_end HB.out hb)
        clear hb
        go_wp2
        go_ret
        exact ⟨rfl, HB.out⟩
      case true =>
        by_cases hlo : 0 ≤ lo
        · rw [decide_eq_true hlo]
          have hl2 : ¬ lo < 0 := by omega
          clear hlo
          go_enter Try.func107, Try.ntmps107
          go_wp2_with fail
          generalize hW : World.alloc _ _ = W
          have bX : Bk W (w.heap.size) #[.slice a zs.length ca, .slice b ys.length cb, .int .i64 (i : Int), .int .i64 c, .int .i64 s, .int .i64 h] 141 := by rw [← hW]; repeat (first | (refine Bk.new' ?_; (simp; done)) | refine Bk.alloc ?_ _)
          have bS : Bk W (w.heap.size + 1) #[.int .i64 (k : Int), .bool dn, .int .i64 lo, .int .i64 hi] 61 := by rw [← hW]; repeat (first | (refine Bk.new' ?_; (simp; done)) | refine Bk.alloc ?_ _)
          have HB : Hid (Below w.heap.size w W) := Lib.hid (by rw [← hW]; exact (by repeat (first | exact Below.refl _ _ | (refine Below.alloc ?_ (by simp <;> omega) _) | (refine Below.setCell ?_ (by simp <;> omega) _) | (refine Below.drew ?_) | (refine bel_drewN ?_ _))))
          clear hW
          (with_reducible refine Calls.mono (KE.out _ HB.out) ?_)
          rintro e w1 ⟨rfl, hb⟩
          replace bX := bX.on hb
          replace bS := bS.on hb
          replace HB := Lib.hid (bel_end HB.out hb)
          clear hb
          have bX_0 := bX.cell 0 rfl
          have bX_1 := bX.cell 1 rfl
          have bX_2 := bX.cell 2 rfl
          have bX_3 := bX.cell 3 rfl
          have bX_4 := bX.cell 4 rfl
          have bX_5 := bX.cell 5 rfl
          have bX_l := bX.lt
          have bS_0 := bS.cell 0 rfl
          have bS_1 := bS.cell 1 rfl
          have bS_2 := bS.cell 2 rfl
          have bS_3 := bS.cell 3 rfl
          have bS_l := bS.lt
          go_wp2_with fail
          clear bX_0 bX_1 bX_2 bX_3 bX_4 bX_5 bX_l
          clear bS_0 bS_1 bS_2 bS_3 bS_l
          (with_reducible refine Calls.mono (KC.out _ HB.out) ?_)
          rintro e w2 ⟨rfl, hb⟩
          replace bX := bX.on hb
          replace bS := bS.on hb
          replace HB := Lib.hid (bel_end HB.out hb)
          clear hb
          have bS_0 := bS.cell 0 rfl
          have bS_1 := bS.cell 1 rfl
          have bS_2 := bS.cell 2 rfl
          have bS_3 := bS.cell 3 rfl
          have bS_l := bS.lt
          go_wp2_with fail
          refine (vld_any _ _ _).mono ?_
          rw [HV.out]
          rintro e w3 ⟨rfl, hw9⟩
          have hb : Below w2.heap.size w2 w3 := by rw [hw9]; exact (Below.refl _ _).alloc (Nat.le_refl _) _
          clear hw9
          clear bS_0 bS_1 bS_2 bS_3 bS_l
          replace bX := bX.on hb
          replace bS := bS.on hb
          replace HB := Lib.hid (bel_end HB.out hb)
          clear hb
          have bS_0 := bS.cell 0 rfl
          have bS_1 := bS.cell 1 rfl
          have bS_2 := bS.cell 2 rfl
          have bS_3 := bS.cell 3 rfl
          have bS_l := bS.lt
          go_wp2
          go_ret
          exact ⟨rfl, HB.out⟩
        · rw [decide_eq_false hlo]
          have hl2 : lo < 0 := by omega
          clear hlo
          go_enter Try.func107, Try.ntmps107
          go_wp2_with fail
          generalize hW : World.alloc _ _ = W
          have bX : Bk W (w.heap.size) #[.slice a zs.length ca, .slice b ys.length cb, .int .i64 (i : Int), .int .i64 c, .int .i64 s, .int .i64 h] 141 := by rw [← hW]; repeat (first | (refine Bk.new' ?_; (simp; done)) | refine Bk.alloc ?_ _)
          have bS : Bk W (w.heap.size + 1) #[.int .i64 (k : Int), .bool dn, .int .i64 lo, .int .i64 hi] 61 := by rw [← hW]; repeat (first | (refine Bk.new' ?_; (simp; done)) | refine Bk.alloc ?_ _)
          have HB : Hid (Below w.heap.size w W) := Lib.hid (by rw [← hW]; exact (by repeat (first | exact Below.refl _ _ | (refine Below.alloc ?_ (by simp <;> omega) _) | (refine Below.setCell ?_ (by simp <;> omega) _) | (refine Below.drew ?_) | (refine bel_drewN ?_ _))))
          clear hW
          (with_reducible refine Calls.mono (KE.out _ HB.out) ?_)
          rintro e w1 ⟨rfl, hb⟩
          replace bX := bX.on hb
          replace bS := bS.on hb
          replace HB := Lib.hid (bel_end HB.out hb)
          clear hb
          have bX_0 := bX.cell 0 rfl
          have bX_1 := bX.cell 1 rfl
          have bX_2 := bX.cell 2 rfl
          have bX_3 := bX.cell 3 rfl
          have bX_4 := bX.cell 4 rfl
          have bX_5 := bX.cell 5 rfl
          have bX_l := bX.lt
          have bS_0 := bS.cell 0 rfl
          have bS_1 := bS.cell 1 rfl
          have bS_2 := bS.cell 2 rfl
          have bS_3 := bS.cell 3 rfl
          have bS_l := bS.lt
          go_wp2_with fail
          clear bX_0 bX_1 bX_2 bX_3 bX_4 bX_5 bX_l
          clear bS_0 bS_1 bS_2 bS_3 bS_l
          (with_reducible refine Calls.mono (KC.out _ HB.out) ?_)
          rintro e w2 ⟨rfl, hb⟩
          replace bX := bX.on hb
          replace bS := bS.on hb
          replace HB := Lib.hid (bel_end HB.out hb)
          clear hb
          have bS_0 := bS.cell 0 rfl
          have bS_1 := bS.cell 1 rfl
          have bS_2 := bS.cell 2 rfl
          have bS_3 := bS.cell 3 rfl
          have bS_l := bS.lt
          go_wp2_with fail
          refine (vld_any _ _ _).mono ?_
          rw [HV.out]
          rintro e w3 ⟨rfl, hw9⟩
          have hb : Below w2.heap.size w2 w3 := by rw [hw9]; exact (Below.refl _ _).alloc (Nat.le_refl _) _
          clear hw9
          clear bS_0 bS_1 bS_2 bS_3 bS_l
          replace bX := bX.on hb
          replace bS := bS.on hb
          replace HB := Lib.hid (bel_end HB.out hb)
          clear hb
          have bS_0 := bS.cell 0 rfl
          have bS_1 := bS.cell 1 rfl
          have bS_2 := bS.cell 2 rfl
          have bS_3 := bS.cell 3 rfl
          have bS_l := bS.lt
          go_wp2
          go_ret
          exact ⟨rfl, HB.out⟩

set_option maxRecDepth 100000 in
set_option maxHeartbeats 2000000 in
theorem irs_any (w : World) (a b : Option Addr) (ca cb : Nat) (zs ys : List Int) (src c s h K lo hi : Int) (dn : Bool) (hp : Prof w w.heap.size a b zs ys) :
    Calls Try.prog 49 #[.agg #[.slice a zs.length ca, .slice b ys.length cb], .int .i64 src, .agg #[.int .i64 c, .int .i64 s, .int .i64 h], .agg #[.int .i64 K, .bool dn, .int .i64 lo, .int .i64 hi]] w fun e w' => e = .returned (.bool (eosT zs ys src c s h K lo hi == 0)) ∧ Below w.heap.size w w' := by
  have HP := Lib.hid hp
  have KE : Hid (∀ W : World, Below w.heap.size w W → Calls Try.prog 107 #[.agg #[.slice a zs.length ca, .slice b ys.length cb, .int .i64 src, .int .i64 c, .int .i64 s, .int .i64 h], .agg #[.int .i64 K, .bool dn, .int .i64 lo, .int .i64 hi]] W fun e w' => e = .returned (.int .i64 (eosT zs ys src c s h K lo hi)) ∧ Below W.heap.size W w') := Lib.hid (fun W hb => eos_any W a b ca cb zs ys src c s h K lo hi dn (HP.out.on hb))
  obtain ⟨q, hq⟩ : ∃ q, eosT zs ys src c s h K lo hi = q := ⟨_, rfl⟩
  rw [hq] at KE ⊢
  clear hq hp
  obtain ⟨z, hz⟩ : ∃ z, (q == 0) = z := ⟨_, rfl⟩
  rw [hz]
  go_enter Try.func49, Try.ntmps49
  go_wp2_with fail
  generalize hW : World.alloc _ _ = W
  have bP : Bk W (w.heap.size) #[.slice a zs.length ca, .slice b ys.length cb] 51 := by rw [← hW]; repeat (first | (refine Bk.new' ?_; (simp; done)) | refine Bk.alloc ?_ _)
  have bD : Bk W (w.heap.size + 1) #[.int .i64 c, .int .i64 s, .int .i64 h] 32 := by rw [← hW]; repeat (first | (refine Bk.new' ?_; (simp; done)) | refine Bk.alloc ?_ _)
  have bS : Bk W (w.heap.size + 1 + 1) #[.int .i64 K, .bool dn, .int .i64 lo, .int .i64 hi] 61 := by rw [← hW]; repeat (first | (refine Bk.new' ?_; (simp; done)) | refine Bk.alloc ?_ _)
  have bX : Bk W (w.heap.size + 1 + 1 + 1) #[.slice a zs.length ca, .slice b ys.length cb, .int .i64 src, .int .i64 c, .int .i64 s, .int .i64 h] 141 := by rw [← hW]; repeat (first | (refine Bk.new' ?_; (simp; done)) | refine Bk.alloc ?_ _)
  have HB : Hid (Below w.heap.size w W) := Lib.hid (by rw [← hW]; exact (by repeat (first | exact Below.refl _ _ | (refine Below.alloc ?_ (by simp <;> omega) _) | (refine Below.setCell ?_ (by simp <;> omega) _) | (refine Below.drew ?_) | (refine bel_drewN ?_ _))))
  clear hW
  (with_reducible refine Calls.mono (KE.out _ HB.out) ?_)
  rintro e w1 ⟨rfl, hb⟩
  go_wp2
  go_ret
  exact ⟨rfl, bel_end HB.out hb⟩

set_option maxRecDepth 100000 in
set_option maxHeartbeats 2000000 in
theorem ifs_st (w : World) (a b : Option Addr) (ca cb : Nat) (zs ys : List Int) (src c s h : Int) (hp : Prof w w.heap.size a b zs ys) :
    Calls Try.prog 47 #[.agg #[.slice a zs.length ca, .slice b ys.length cb], .int .i64 src, .agg #[.int .i64 c, .int .i64 s, .int .i64 h]] w fun e w' => e = .returned (.tuple #[.agg #[.int .i64 (fsT zs ys src c s h).1, .bool (fsT zs ys src c s h).2.1, .int .i64 (fsT zs ys src c s h).2.2.1, .int .i64 (fsT zs ys src c s h).2.2.2.1], .int .i64 (fsT zs ys src c s h).2.2.2.2]) ∧ Below w.heap.size w w' := by
  have HP := Lib.hid hp
  have KE : Hid (∀ W : World, Below w.heap.size w W → Calls Try.prog 106 #[.agg #[.slice a zs.length ca, .slice b ys.length cb, .int .i64 src, .int .i64 c, .int .i64 s, .int .i64 h], .int .i64 src] W fun e w' => e = .returned (.int .i64 (fcod zs ys src c s h)) ∧ Below W.heap.size W w') := Lib.hid (fun W hb => rer_any W a b ca cb zs ys src src c s h (HP.out.on hb))
  have KF : Hid (∀ W : World, Calls Try.prog 102 #[.agg #[.slice a zs.length ca, .slice b ys.length cb, .int .i64 src, .int .i64 c, .int .i64 s, .int .i64 h]] W fun e w' => e = .returned (.agg #[.int .i64 src, .bool (decide (0 < s)), .int .i64 0, .int .i64 0]) ∧ Below W.heap.size W w') := Lib.hid (fun W => fs_any W a b ca cb zs ys src c s h)
  by_cases hq : fcod zs ys src c s h = 0
  case neg =>
    have HT : Hid (fsT zs ys src c s h = (0, false, 0, 0, fcod zs ys src c s h)) := Lib.hid (by unfold fsT; rw [if_neg hq])
    obtain ⟨q, hqq⟩ : ∃ q, fcod zs ys src c s h = q := ⟨_, rfl⟩
    rw [hqq] at KE HT hq
    have hq0 : (q != 0) = true := by simpa using hq
    clear hqq hq hp KF
    go_enter Try.func47, Try.ntmps47
    go_wp2_with fail
    generalize hW : World.alloc _ _ = W
    have bP : Bk W (w.heap.size) #[.slice a zs.length ca, .slice b ys.length cb] 51 := by rw [← hW]; repeat (first | (refine Bk.new' ?_; (simp; done)) | refine Bk.alloc ?_ _)
    have bD : Bk W (w.heap.size + 1) #[.int .i64 c, .int .i64 s, .int .i64 h] 32 := by rw [← hW]; repeat (first | (refine Bk.new' ?_; (simp; done)) | refine Bk.alloc ?_ _)
    have bR : Bk W (w.heap.size + 1 + 1) #[.int .i64 0, .bool false, .int .i64 0, .int .i64 0] 61 := by rw [← hW]; repeat (first | (refine Bk.new' ?_; (simp; done)) | refine Bk.alloc ?_ _)
    have bX : Bk W (w.heap.size + 1 + 1 + 1) #[.slice a zs.length ca, .slice b ys.length cb, .int .i64 src, .int .i64 c, .int .i64 s, .int .i64 h] 141 := by rw [← hW]; repeat (first | (refine Bk.new' ?_; (simp; done)) | refine Bk.alloc ?_ _)
    have HB : Hid (Below w.heap.size w W) := Lib.hid (by rw [← hW]; exact (by repeat (first | exact Below.refl _ _ | (refine Below.alloc ?_ (by simp <;> omega) _) | (refine Below.setCell ?_ (by simp <;> omega) _) | (refine Below.drew ?_) | (refine bel_drewN ?_ _))))
    clear hW
    (with_reducible refine Calls.mono (KE.out _ HB.out) ?_)
    rintro e w1 ⟨rfl, hb⟩
    replace bR := bR.on hb
    replace HB := Lib.hid (bel_end HB.out hb)
    clear hb
    have bR_0 := bR.cell 0 rfl
    have bR_1 := bR.cell 1 rfl
    have bR_2 := bR.cell 2 rfl
    have bR_3 := bR.cell 3 rfl
    have bR_f0 := bR.frozen 0
    have bR_f1 := bR.frozen 1
    have bR_f2 := bR.frozen 2
    have bR_f3 := bR.frozen 3
    have bR_l := bR.lt
    go_wp2
    exact bodyPost_ret (v := .tuple #[.agg #[.int .i64 0, .bool false, .int .i64 0, .int .i64 0], .int .i64 q]) (by simp [results, Try.results47, go_sem, bR_0, bR_1, bR_2, bR_3]) rfl ⟨resF HT.out, (by first | exact HB.out | exact ((((HB.out.setCell (p := ⟨w.heap.size + 1 + 1, 0, none⟩) (by dsimp only; omega) _).setCell (p := ⟨w.heap.size + 1 + 1, 1, none⟩) (by dsimp only; omega) _).setCell (p := ⟨w.heap.size + 1 + 1, 2, none⟩) (by dsimp only; omega) _).setCell (p := ⟨w.heap.size + 1 + 1, 3, none⟩) (by dsimp only; omega) _))⟩
  case pos =>
    have HT : Hid (fsT zs ys src c s h = (src, decide (0 < s), 0, 0, 0)) := Lib.hid (by unfold fsT; rw [if_pos hq])
    rw [hq] at KE
    obtain ⟨dd, hd⟩ : ∃ x, decide (0 < s) = x := ⟨_, rfl⟩
    rw [hd] at KF HT
    clear hd hq hp
    go_enter Try.func47, Try.ntmps47
    go_wp2_with fail
    generalize hW : World.alloc _ _ = W
    have bP : Bk W (w.heap.size) #[.slice a zs.length ca, .slice b ys.length cb] 51 := by rw [← hW]; repeat (first | (refine Bk.new' ?_; (simp; done)) | refine Bk.alloc ?_ _)
    have bD : Bk W (w.heap.size + 1) #[.int .i64 c, .int .i64 s, .int .i64 h] 32 := by rw [← hW]; repeat (first | (refine Bk.new' ?_; (simp; done)) | refine Bk.alloc ?_ _)
    have bR : Bk W (w.heap.size + 1 + 1) #[.int .i64 0, .bool false, .int .i64 0, .int .i64 0] 61 := by rw [← hW]; repeat (first | (refine Bk.new' ?_; (simp; done)) | refine Bk.alloc ?_ _)
    have bX : Bk W (w.heap.size + 1 + 1 + 1) #[.slice a zs.length ca, .slice b ys.length cb, .int .i64 src, .int .i64 c, .int .i64 s, .int .i64 h] 141 := by rw [← hW]; repeat (first | (refine Bk.new' ?_; (simp; done)) | refine Bk.alloc ?_ _)
    have HB : Hid (Below w.heap.size w W) := Lib.hid (by rw [← hW]; exact (by repeat (first | exact Below.refl _ _ | (refine Below.alloc ?_ (by simp <;> omega) _) | (refine Below.setCell ?_ (by simp <;> omega) _) | (refine Below.drew ?_) | (refine bel_drewN ?_ _))))
    clear hW
    (with_reducible refine Calls.mono (KE.out _ HB.out) ?_)
    rintro e w1 ⟨rfl, hb⟩
    replace bR := bR.on hb
    replace bX := bX.on hb
    replace HB := Lib.hid (bel_end HB.out hb)
    clear hb
    have bX_0 := bX.cell 0 rfl
    have bX_1 := bX.cell 1 rfl
    have bX_2 := bX.cell 2 rfl
    have bX_3 := bX.cell 3 rfl
    have bX_4 := bX.cell 4 rfl
    have bX_5 := bX.cell 5 rfl
    have bX_l := bX.lt
    go_wp2_with fail
    clear bX_0 bX_1 bX_2 bX_3 bX_4 bX_5 bX_l
    (with_reducible refine Calls.mono (KF.out _) ?_)
    rintro e w2 ⟨rfl, hb⟩
    replace bR := bR.on hb
    replace HB := Lib.hid (bel_end HB.out hb)
    clear hb
    have bR_0 := bR.cell 0 rfl
    have bR_1 := bR.cell 1 rfl
    have bR_2 := bR.cell 2 rfl
    have bR_3 := bR.cell 3 rfl
    have bR_f0 := bR.frozen 0
    have bR_f1 := bR.frozen 1
    have bR_f2 := bR.frozen 2
    have bR_f3 := bR.frozen 3
    have bR_l := bR.lt
    go_wp2
    exact bodyPost_ret (v := .tuple #[.agg #[.int .i64 src, .bool dd, .int .i64 0, .int .i64 0], .int .i64 0]) (by simp [results, Try.results47, go_sem, bR_0, bR_1, bR_2, bR_3]) rfl ⟨resF HT.out, (by first | exact HB.out | exact ((((HB.out.setCell (p := ⟨w.heap.size + 1 + 1, 0, none⟩) (by dsimp only; omega) _).setCell (p := ⟨w.heap.size + 1 + 1, 1, none⟩) (by dsimp only; omega) _).setCell (p := ⟨w.heap.size + 1 + 1, 2, none⟩) (by dsimp only; omega) _).setCell (p := ⟨w.heap.size + 1 + 1, 3, none⟩) (by dsimp only; omega) _))⟩

set_option maxRecDepth 100000 in
set_option maxHeartbeats 8000000 in
theorem isr_any (w : World) (a b : Option Addr) (ca cb : Nat) (zs ys : List Int) (src c s h K lo hi : Int) (dn : Bool) (hp : Prof w w.heap.size a b zs ys) :
    Calls Try.prog 48 #[.agg #[.slice a zs.length ca, .slice b ys.length cb], .int .i64 src, .agg #[.int .i64 c, .int .i64 s, .int .i64 h], .agg #[.int .i64 K, .bool dn, .int .i64 lo, .int .i64 hi]] w fun e w' => e = .returned (.tuple #[.agg #[.int .i64 (sryT zs ys src c s h K dn lo hi).1, .bool (sryT zs ys src c s h K dn lo hi).2.1, .int .i64 (sryT zs ys src c s h K dn lo hi).2.2.1, .int .i64 (sryT zs ys src c s h K dn lo hi).2.2.2.1], .int .i64 (sryT zs ys src c s h K dn lo hi).2.2.2.2.1, .int .i64 (sryT zs ys src c s h K dn lo hi).2.2.2.2.2]) ∧ Below w.heap.size w w' := by
  have HP := Lib.hid hp
  have KE : Hid (∀ W : World, Below w.heap.size w W → Calls Try.prog 107 #[.agg #[.slice a zs.length ca, .slice b ys.length cb, .int .i64 src, .int .i64 c, .int .i64 s, .int .i64 h], .agg #[.int .i64 K, .bool dn, .int .i64 lo, .int .i64 hi]] W fun e w' => e = .returned (.int .i64 (eosT zs ys src c s h K lo hi)) ∧ Below W.heap.size W w') := Lib.hid (fun W hb => eos_any W a b ca cb zs ys src c s h K lo hi dn (HP.out.on hb))
  by_cases hq : eosT zs ys src c s h K lo hi = 0
  case neg =>
    have HT : Hid (sryT zs ys src c s h K dn lo hi = (0, false, 0, 0, 0, eosT zs ys src c s h K lo hi)) := Lib.hid (by unfold sryT; rw [if_neg hq])
    obtain ⟨q, hqq⟩ : ∃ q, eosT zs ys src c s h K lo hi = q := ⟨_, rfl⟩
    rw [hqq] at KE HT hq
    have hq0 : (q != 0) = true := by simpa using hq
    clear hqq hq hp
    go_enter Try.func48, Try.ntmps48
    go_wp2_with fail
    generalize hW : World.alloc _ _ = W
    have bP : Bk W (w.heap.size) #[.slice a zs.length ca, .slice b ys.length cb] 51 := by rw [← hW]; repeat (first | (refine Bk.new' ?_; (simp; done)) | refine Bk.alloc ?_ _)
    have bD : Bk W (w.heap.size + 1) #[.int .i64 c, .int .i64 s, .int .i64 h] 32 := by rw [← hW]; repeat (first | (refine Bk.new' ?_; (simp; done)) | refine Bk.alloc ?_ _)
    have bS : Bk W (w.heap.size + 1 + 1) #[.int .i64 K, .bool dn, .int .i64 lo, .int .i64 hi] 61 := by rw [← hW]; repeat (first | (refine Bk.new' ?_; (simp; done)) | refine Bk.alloc ?_ _)
    have bR : Bk W (w.heap.size + 1 + 1 + 1) #[.int .i64 0, .bool false, .int .i64 0, .int .i64 0] 61 := by rw [← hW]; repeat (first | (refine Bk.new' ?_; (simp; done)) | refine Bk.alloc ?_ _)
    have bX : Bk W (w.heap.size + 1 + 1 + 1 + 1) #[.slice a zs.length ca, .slice b ys.length cb, .int .i64 src, .int .i64 c, .int .i64 s, .int .i64 h] 141 := by rw [← hW]; repeat (first | (refine Bk.new' ?_; (simp; done)) | refine Bk.alloc ?_ _)
    have HB : Hid (Below w.heap.size w W) := Lib.hid (by rw [← hW]; exact (by repeat (first | exact Below.refl _ _ | (refine Below.alloc ?_ (by simp <;> omega) _) | (refine Below.setCell ?_ (by simp <;> omega) _) | (refine Below.drew ?_) | (refine bel_drewN ?_ _))))
    clear hW
    (with_reducible refine Calls.mono (KE.out _ HB.out) ?_)
    rintro e w1 ⟨rfl, hb⟩
    replace bR := bR.on hb
    replace HB := Lib.hid (bel_end HB.out hb)
    clear hb
    have bR_0 := bR.cell 0 rfl
    have bR_1 := bR.cell 1 rfl
    have bR_2 := bR.cell 2 rfl
    have bR_3 := bR.cell 3 rfl
    have bR_f0 := bR.frozen 0
    have bR_f1 := bR.frozen 1
    have bR_f2 := bR.frozen 2
    have bR_f3 := bR.frozen 3
    have bR_l := bR.lt
    go_wp2
    exact bodyPost_ret (v := .tuple #[.agg #[.int .i64 0, .bool false, .int .i64 0, .int .i64 0], .int .i64 0, .int .i64 q]) (by simp [results, Try.results48, go_sem, bR_0, bR_1, bR_2, bR_3]) rfl ⟨resR HT.out, (by first | exact HB.out | exact ((((HB.out.setCell (p := ⟨w.heap.size + 1 + 1 + 1, 0, none⟩) (by dsimp only; omega) _).setCell (p := ⟨w.heap.size + 1 + 1 + 1, 1, none⟩) (by dsimp only; omega) _).setCell (p := ⟨w.heap.size + 1 + 1 + 1, 2, none⟩) (by dsimp only; omega) _).setCell (p := ⟨w.heap.size + 1 + 1 + 1, 3, none⟩) (by dsimp only; omega) _))⟩
  case pos =>
    rw [hq] at KE
    obtain ⟨i, k, rfl, rfl, r, o, -⟩ := eos_0 (dn := dn) hq
    have KT0 : Hid (∀ W : World, Below w.heap.size w W → Calls Try.prog 108 #[.agg #[.slice a zs.length ca, .slice b ys.length cb, .int .i64 (i : Int), .int .i64 c, .int .i64 s, .int .i64 h], .agg #[.int .i64 (k : Int), .bool dn, .int .i64 lo, .int .i64 hi]] W fun e w' => e = .returned (if nxB zs ys i c h ⟨k, dn, lo, hi⟩ then .tuple #[.agg #[evW a b ca cb zs ys i c s h k dn, .int .i64 ((nxt zs ys i c h ⟨k, dn, lo, hi⟩).k : Int), .bool (nxt zs ys i c h ⟨k, dn, lo, hi⟩).dn, .int .i64 (nxt zs ys i c h ⟨k, dn, lo, hi⟩).lo, .int .i64 (nxt zs ys i c h ⟨k, dn, lo, hi⟩).hi], .int .i64 0] else .tuple #[.agg #[.nilIface, .int .i64 0, .bool false, .int .i64 0, .int .i64 0], .int .i64 3]) ∧ Below W.heap.size W w') := Lib.hid (fun W hb => stf_any W a b ca cb zs ys i k c s h lo hi dn (HP.out.on hb) r o)
    have KK : Hid (∀ W : World, Calls Try.prog 103 #[evW a b ca cb zs ys i c s h k dn] W fun e w' => e = .returned (.int .i64 (evV zs ys i c h k dn)) ∧ Below W.heap.size W w') := Lib.hid (fun W => kin_any W a b ca cb zs ys i c s h k dn)
    have HT0 : Hid (sryT zs ys (i : Int) c s h (k : Int) dn lo hi = if nxB zs ys i c h ⟨k, dn, lo, hi⟩ then (((nxt zs ys i c h ⟨k, dn, lo, hi⟩).k : Int), (nxt zs ys i c h ⟨k, dn, lo, hi⟩).dn, (nxt zs ys i c h ⟨k, dn, lo, hi⟩).lo, (nxt zs ys i c h ⟨k, dn, lo, hi⟩).hi, evV zs ys i c h k dn, 0) else (0, false, 0, 0, 0, 3)) := Lib.hid (by unfold sryT; rw [if_pos hq]; rfl)
    obtain ⟨et, evv, hE⟩ := evW_iface a b ca cb zs ys i c s h k dn
    obtain ⟨ev, hev⟩ : ∃ E, evV zs ys i c h k dn = E := ⟨_, rfl⟩
    obtain ⟨⟨k1, d1, l1, h1⟩, hN⟩ : ∃ x, nxt zs ys i c h ⟨k, dn, lo, hi⟩ = x := ⟨_, rfl⟩
    obtain ⟨N, hB⟩ : ∃ x, nxB zs ys i c h ⟨k, dn, lo, hi⟩ = x := ⟨_, rfl⟩
    rw [hE] at KT0 KK
    rw [hev] at KK HT0
    rw [hN, hB] at KT0 HT0
    clear hE hev hN hB hq hp r o
    cases N
    case false =>
      have KT := KT0.out
      have HT := HT0.out
      simp only [if_true, Bool.false_eq_true, if_false] at KT HT
      replace KT := Lib.hid KT
      replace HT := Lib.hid HT
      clear KT0 HT0
      go_enter Try.func48, Try.ntmps48
      go_wp2_with fail
      generalize hW : World.alloc _ _ = W
      have bP : Bk W (w.heap.size) #[.slice a zs.length ca, .slice b ys.length cb] 51 := by rw [← hW]; repeat (first | (refine Bk.new' ?_; (simp; done)) | refine Bk.alloc ?_ _)
      have bD : Bk W (w.heap.size + 1) #[.int .i64 c, .int .i64 s, .int .i64 h] 32 := by rw [← hW]; repeat (first | (refine Bk.new' ?_; (simp; done)) | refine Bk.alloc ?_ _)
      have bS : Bk W (w.heap.size + 1 + 1) #[.int .i64 (k : Int), .bool dn, .int .i64 lo, .int .i64 hi] 61 := by rw [← hW]; repeat (first | (refine Bk.new' ?_; (simp; done)) | refine Bk.alloc ?_ _)
      have bR : Bk W (w.heap.size + 1 + 1 + 1) #[.int .i64 0, .bool false, .int .i64 0, .int .i64 0] 61 := by rw [← hW]; repeat (first | (refine Bk.new' ?_; (simp; done)) | refine Bk.alloc ?_ _)
      have bX : Bk W (w.heap.size + 1 + 1 + 1 + 1) #[.slice a zs.length ca, .slice b ys.length cb, .int .i64 (i : Int), .int .i64 c, .int .i64 s, .int .i64 h] 141 := by rw [← hW]; repeat (first | (refine Bk.new' ?_; (simp; done)) | refine Bk.alloc ?_ _)
      have HB : Hid (Below w.heap.size w W) := Lib.hid (by rw [← hW]; exact (by repeat (first | exact Below.refl _ _ | (refine Below.alloc ?_ (by simp <;> omega) _) | (refine Below.setCell ?_ (by simp <;> omega) _) | (refine Below.drew ?_) | (refine bel_drewN ?_ _))))
      clear hW
      (with_reducible refine Calls.mono (KE.out _ HB.out) ?_)
      rintro e w1 ⟨rfl, hb⟩
      replace bR := bR.on hb
      replace bX := bX.on hb
      replace bS := bS.on hb
      replace HB := Lib.hid (bel_end HB.out hb)
      clear hb
      have bX_0 := bX.cell 0 rfl
      have bX_1 := bX.cell 1 rfl
      have bX_2 := bX.cell 2 rfl
      have bX_3 := bX.cell 3 rfl
      have bX_4 := bX.cell 4 rfl
      have bX_5 := bX.cell 5 rfl
      have bX_l := bX.lt
      have bS_0 := bS.cell 0 rfl
      have bS_1 := bS.cell 1 rfl
      have bS_2 := bS.cell 2 rfl
      have bS_3 := bS.cell 3 rfl
      have bS_l := bS.lt
      go_wp2_with fail
      clear bX_0 bX_1 bX_2 bX_3 bX_4 bX_5 bX_l
      clear bS_0 bS_1 bS_2 bS_3 bS_l
      (with_reducible refine Calls.mono (KT.out _ HB.out) ?_)
      rintro e w2 ⟨rfl, hb⟩
      replace bR := bR.on hb
      replace HB := Lib.hid (bel_end HB.out hb)
      clear hb
      go_upto_region 6 with fail
      generalize hW : World.alloc _ _ = W2
      have hb : Below w2.heap.size w2 W2 := by rw [← hW]; exact (Below.refl _ _).alloc (Nat.le_refl _) _
      clear hW
      replace bR := bR.on hb
      replace HB := Lib.hid (bel_end HB.out hb)
      clear hb
      have bR_0 := bR.cell 0 rfl
      have bR_1 := bR.cell 1 rfl
      have bR_2 := bR.cell 2 rfl
      have bR_3 := bR.cell 3 rfl
      have bR_f0 := bR.frozen 0
      have bR_f1 := bR.frozen 1
      have bR_f2 := bR.frozen 2
      have bR_f3 := bR.frozen 3
      have bR_l := bR.lt
      go_wp2
      exact bodyPost_ret (v := .tuple #[.agg #[.int .i64 0, .bool false, .int .i64 0, .int .i64 0], .int .i64 0, .int .i64 3]) (by simp [results, Try.results48, go_sem, bR_0, bR_1, bR_2, bR_3]) rfl ⟨resR HT.out, (by first | exact HB.out | exact ((((HB.out.setCell (p := ⟨w.heap.size + 1 + 1 + 1, 0, none⟩) (by dsimp only; omega) _).setCell (p := ⟨w.heap.size + 1 + 1 + 1, 1, none⟩) (by dsimp only; omega) _).setCell (p := ⟨w.heap.size + 1 + 1 + 1, 2, none⟩) (by dsimp only; omega) _).setCell (p := ⟨w.heap.size + 1 + 1 + 1, 3, none⟩) (by dsimp only; omega) _))⟩
    case true =>
      have KT := KT0.out
      have HT := HT0.out
      simp only [if_true, Bool.false_eq_true, if_false] at KT HT
      replace KT := Lib.hid KT
      replace HT := Lib.hid HT
      clear KT0 HT0
      go_enter Try.func48, Try.ntmps48
      go_wp2_with fail
      generalize hW : World.alloc _ _ = W
      have bP : Bk W (w.heap.size) #[.slice a zs.length ca, .slice b ys.length cb] 51 := by rw [← hW]; repeat (first | (refine Bk.new' ?_; (simp; done)) | refine Bk.alloc ?_ _)
      have bD : Bk W (w.heap.size + 1) #[.int .i64 c, .int .i64 s, .int .i64 h] 32 := by rw [← hW]; repeat (first | (refine Bk.new' ?_; (simp; done)) | refine Bk.alloc ?_ _)
      have bS : Bk W (w.heap.size + 1 + 1) #[.int .i64 (k : Int), .bool dn, .int .i64 lo, .int .i64 hi] 61 := by rw [← hW]; repeat (first | (refine Bk.new' ?_; (simp; done)) | refine Bk.alloc ?_ _)
      have bR : Bk W (w.heap.size + 1 + 1 + 1) #[.int .i64 0, .bool false, .int .i64 0, .int .i64 0] 61 := by rw [← hW]; repeat (first | (refine Bk.new' ?_; (simp; done)) | refine Bk.alloc ?_ _)
      have bX : Bk W (w.heap.size + 1 + 1 + 1 + 1) #[.slice a zs.length ca, .slice b ys.length cb, .int .i64 (i : Int), .int .i64 c, .int .i64 s, .int .i64 h] 141 := by rw [← hW]; repeat (first | (refine Bk.new' ?_; (simp; done)) | refine Bk.alloc ?_ _)
      have HB : Hid (Below w.heap.size w W) := Lib.hid (by rw [← hW]; exact (by repeat (first | exact Below.refl _ _ | (refine Below.alloc ?_ (by simp <;> omega) _) | (refine Below.setCell ?_ (by simp <;> omega) _) | (refine Below.drew ?_) | (refine bel_drewN ?_ _))))
      clear hW
      (with_reducible refine Calls.mono (KE.out _ HB.out) ?_)
      rintro e w1 ⟨rfl, hb⟩
      replace bR := bR.on hb
      replace bX := bX.on hb
      replace bS := bS.on hb
      replace HB := Lib.hid (bel_end HB.out hb)
      clear hb
      have bX_0 := bX.cell 0 rfl
      have bX_1 := bX.cell 1 rfl
      have bX_2 := bX.cell 2 rfl
      have bX_3 := bX.cell 3 rfl
      have bX_4 := bX.cell 4 rfl
      have bX_5 := bX.cell 5 rfl
      have bX_l := bX.lt
      have bS_0 := bS.cell 0 rfl
      have bS_1 := bS.cell 1 rfl
      have bS_2 := bS.cell 2 rfl
      have bS_3 := bS.cell 3 rfl
      have bS_l := bS.lt
      go_wp2_with fail
      clear bX_0 bX_1 bX_2 bX_3 bX_4 bX_5 bX_l
      clear bS_0 bS_1 bS_2 bS_3 bS_l
      (with_reducible refine Calls.mono (KT.out _ HB.out) ?_)
      rintro e w2 ⟨rfl, hb⟩
      replace bR := bR.on hb
      replace HB := Lib.hid (bel_end HB.out hb)
      clear hb
      go_upto_region 8 with fail
      generalize hW : World.alloc _ _ = W2
      obtain ⟨g, hg⟩ : ∃ g, g = w2.heap.size := ⟨_, rfl⟩
      have bN : Bk W2 g #[.iface et evv, .int .i64 (k1 : Int), .bool d1, .int .i64 l1, .int .i64 h1] 148 := by rw [← hW]; exact Bk.new' hg
      have hgl : w.heap.size + 1 + 1 + 1 < g := by have := bR.lt; omega
      have hb : Below w2.heap.size w2 W2 := by rw [← hW]; exact (Below.refl _ _).alloc (Nat.le_refl _) _
      try rw [← hg]
      clear hW hg
      replace bR := bR.on hb
      replace HB := Lib.hid (bel_end HB.out hb)
      clear hb
      go_wp2_with fail
      obtain ⟨S, hSd⟩ : ∃ S : World → Prop, ∀ w', S w' ↔ (w'.cell? ⟨g, 0, none⟩ = some (.iface et evv) ∧ w'.cell? ⟨g, 1, none⟩ = some (.int .i64 (k1 : Int)) ∧ w'.cell? ⟨g, 2, none⟩ = some (.bool d1) ∧ w'.cell? ⟨g, 3, none⟩ = some (.int .i64 l1) ∧ w'.cell? ⟨g, 4, none⟩ = some (.int .i64 h1)) := ⟨_, fun _ => Iff.rfl⟩
      have HSp : Hid (∀ w' : World, Bk w' (g) #[.iface et evv, .int .i64 (k1 : Int), .bool d1, .int .i64 l1, .int .i64 h1] 148 → S w') := Lib.hid (fun w' bN => (hSd w').2 ⟨bN.cell 0 rfl, bN.cell 1 rfl, bN.cell 2 rfl, bN.cell 3 rfl, bN.cell 4 rfl⟩)
      have HSd := Lib.hid hSd
      clear hSd
      refine wp_region_held_drew (S := S) (by kernel_rfl) ?_ (fun hH => ?_)
      · exact (HSp.out _ bN : S (World.drew W2))
      clear hH
      generalize hX : World.drew W2 = V0
      replace bN : Bk V0 (g) #[.iface et evv, .int .i64 (k1 : Int), .bool d1, .int .i64 l1, .int .i64 h1] 148 := by rw [← hX]; exact bN
      replace bR : Bk V0 (w.heap.size + 1 + 1 + 1) #[.int .i64 0, .bool false, .int .i64 0, .int .i64 0] 61 := by rw [← hX]; exact bR
      have hb : Below W2.heap.size W2 V0 := by rw [← hX]; exact (Below.refl _ _).drew
      clear hX
      replace HB := Lib.hid (bel_end HB.out hb)
      clear hb
      have hS := HSp.out _ bN
      refine wpAnyH_take (i := 0) (oi := { dst := some 36, op := Go.Op.fieldAddr 148 (Go.Operand.tmp 13) 1, type := 0, pos := "l07_rays.go:73", after := #[], guard := none }) (v := ?_) rfl (by kernel_rfl) (by kernel_rfl) (by kernel_rfl) (fun _ _ _ h => h) (Or.inl ⟨by rfl, ?_⟩) hS ?_
      rotate_left
      · (intro w hSw; have hSw := (HSd.out w).1 hSw; go_split_ands; go_simp) <;> with_reducible rfl
      clear hS
      try simp only [Act.put, List.setIfInBounds_toArray, List.set_cons_zero, List.set_cons_succ]
      have hS := HSp.out _ bN
      refine wpAnyH_take (i := 1) (oi := { dst := some 37, op := Go.Op.load 61 (Go.Operand.tmp 36), type := 61, pos := "l07_rays.go:73", after := #[{ on := 0, ground := Go.Ground.data }], guard := none }) (v := ?_) rfl (by kernel_rfl) (by kernel_rfl) (by kernel_rfl) (fun _ _ _ h => h) (Or.inl ⟨by rfl, ?_⟩) hS ?_
      rotate_left
      · (intro w hSw; have hSw := (HSd.out w).1 hSw; go_split_ands; go_simp) <;> with_reducible rfl
      clear hS
      try simp only [Act.put, List.setIfInBounds_toArray, List.set_cons_zero, List.set_cons_succ]
      have hS := HSp.out _ bN
      refine wpAnyH_take (i := 2) (oi := { dst := some 38, op := Go.Op.fieldAddr 148 (Go.Operand.tmp 13) 0, type := 0, pos := "l07_rays.go:73", after := #[], guard := none }) (v := ?_) rfl (by kernel_rfl) (by kernel_rfl) (by kernel_rfl) (fun _ _ _ h => h) (Or.inl ⟨by rfl, ?_⟩) hS ?_
      rotate_left
      · (intro w hSw; have hSw := (HSd.out w).1 hSw; go_split_ands; go_simp) <;> with_reducible rfl
      clear hS
      try simp only [Act.put, List.setIfInBounds_toArray, List.set_cons_zero, List.set_cons_succ]
      have hS := HSp.out _ bN
      refine wpAnyH_take (i := 3) (oi := { dst := some 39, op := Go.Op.load 146 (Go.Operand.tmp 38), type := 146, pos := "l07_rays.go:73", after := #[{ on := 2, ground := Go.Ground.data }], guard := none }) (v := ?_) rfl (by kernel_rfl) (by kernel_rfl) (by kernel_rfl) (fun _ _ _ h => h) (Or.inl ⟨by rfl, ?_⟩) hS ?_
      rotate_left
      · (intro w hSw; have hSw := (HSd.out w).1 hSw; go_split_ands; go_simp) <;> with_reducible rfl
      clear hS
      try simp only [Act.put, List.setIfInBounds_toArray, List.set_cons_zero, List.set_cons_succ]
      refine wpAnyH_ready (rs := [4]) (by kernel_rfl) (by simp) ?_
      refine AllReadyH.cons (o := { dst := some 40, op := Go.Op.call { callee := Go.Callee.value (Go.Operand.func 103), args := #[Go.Operand.tmp 39], argTypes := #[146] }, type := 2, pos := "l07_rays.go:73", after := #[{ on := 3, ground := Go.Ground.data }], guard := none }) rfl (fun Kn hK => ?_) AllReadyH.nil
      first | go_at_call 103 | (go_simp; go_at_call 103)
      (with_reducible refine Calls.mono (KK.out _) ?_)
      rintro e V1 ⟨rfl, hb⟩
      try dsimp only
      try simp only [Act.put, List.setIfInBounds_toArray, List.set_cons_zero, List.set_cons_succ]
      replace bN := bN.on hb
      replace bR := bR.on hb
      replace HB := Lib.hid (bel_end HB.out hb)
      clear hb
      refine hK.out _ _ (HSp.out _ bN) (fun _ => ?_)
      clear hK Kn
      refine wpAnyH_ready (rs := [5]) (by kernel_rfl) (by simp) ?_
      refine AllReadyH.cons (o := { dst := none, op := Go.Op.store 61 (Go.Operand.tmp 8) (Go.Operand.tmp 37), type := 0, pos := "l07_rays.go:73", after := #[{ on := 1, ground := Go.Ground.data }, { on := 4, ground := Go.Ground.chain }, { on := 0, ground := Go.Ground.phase }, { on := 1, ground := Go.Ground.phase }, { on := 2, ground := Go.Ground.textOnly Go.Departure.lateStores }, { on := 3, ground := Go.Ground.textOnly Go.Departure.lateStores }, { on := 4, ground := Go.Ground.textOnly Go.Departure.lateStoresUnsure }], guard := none }) rfl (fun Kn hK => ?_) AllReadyH.nil
      have bR_0 := bR.cell 0 rfl
      have bR_1 := bR.cell 1 rfl
      have bR_2 := bR.cell 2 rfl
      have bR_3 := bR.cell 3 rfl
      have bR_f0 := bR.frozen 0
      have bR_f1 := bR.frozen 1
      have bR_f2 := bR.frozen 2
      have bR_f3 := bR.frozen 3
      have bR_l := bR.lt
      go_simp
      clear bR_0 bR_f0 bR_1 bR_f1 bR_2 bR_f2 bR_3 bR_f3 bR_l
      generalize hX : World.setCell _ _ _ = V2
      have hb : Below w.heap.size w V2 := by rw [← hX]; exact ((((HB.out.setCell (p := ⟨w.heap.size + 1 + 1 + 1, 0, none⟩) (by first | omega | (dsimp only; omega)) _).setCell (p := ⟨w.heap.size + 1 + 1 + 1, 1, none⟩) (by first | omega | (dsimp only; omega)) _).setCell (p := ⟨w.heap.size + 1 + 1 + 1, 2, none⟩) (by first | omega | (dsimp only; omega)) _).setCell (p := ⟨w.heap.size + 1 + 1 + 1, 3, none⟩) (by first | omega | (dsimp only; omega)) _)
      replace bN : Bk V2 (g) #[.iface et evv, .int .i64 (k1 : Int), .bool d1, .int .i64 l1, .int .i64 h1] 148 := by rw [← hX]; exact (Bk.other (Bk.other (Bk.other (Bk.other bN (by omega) 0 _) (by omega) 1 _) (by omega) 2 _) (by omega) 3 _)
      replace bR : Bk V2 (w.heap.size + 1 + 1 + 1) #[.int .i64 (k1 : Int), .bool d1, .int .i64 l1, .int .i64 h1] 61 := by rw [← hX]; exact (Bk.set (Bk.set (Bk.set (Bk.set bR 0 _ rfl) 1 _ rfl) 2 _ rfl) 3 _ rfl)
      clear hX
      replace HB := Lib.hid hb
      clear hb
      refine hK.out _ _ (HSp.out _ bN) (fun _ => ?_)
      clear hK Kn
      have hS := HSp.out _ bN
      refine wpAnyH_take (i := 6) (oi := { dst := some 9, op := Go.Op.assign (Go.Operand.tmp 40), type := 2, pos := "l07_rays.go:73", after := #[{ on := 4, ground := Go.Ground.data }, { on := 5, ground := Go.Ground.chain }, { on := 0, ground := Go.Ground.phase }, { on := 1, ground := Go.Ground.phase }, { on := 2, ground := Go.Ground.phase }, { on := 3, ground := Go.Ground.phase }, { on := 4, ground := Go.Ground.phase }, { on := 5, ground := Go.Ground.phase }], guard := none }) (v := ?_) rfl (by kernel_rfl) (by kernel_rfl) (by kernel_rfl) (fun _ _ _ h => h) (Or.inl ⟨by rfl, ?_⟩) hS ?_
      rotate_left
      · (intro w hSw; have hSw := (HSd.out w).1 hSw; go_split_ands; go_simp) <;> with_reducible rfl
      clear hS
      try simp only [Act.put, List.setIfInBounds_toArray, List.set_cons_zero, List.set_cons_succ]
      have hS := HSp.out _ bN
      refine wpAnyH_take (i := 7) (oi := { dst := some 10, op := Go.Op.assign (Go.Operand.const (Go.Value.int Go.IntKind.i64 0)), type := 2, pos := "l07_rays.go:73", after := #[{ on := 6, ground := Go.Ground.chain }, { on := 0, ground := Go.Ground.phase }, { on := 1, ground := Go.Ground.phase }, { on := 2, ground := Go.Ground.phase }, { on := 3, ground := Go.Ground.phase }, { on := 4, ground := Go.Ground.phase }, { on := 5, ground := Go.Ground.phase }, { on := 6, ground := Go.Ground.phase }], guard := none }) (v := ?_) rfl (by kernel_rfl) (by kernel_rfl) (by kernel_rfl) (fun _ _ _ h => h) (Or.inl ⟨by rfl, ?_⟩) hS ?_
      rotate_left
      · (intro w hSw; have hSw := (HSd.out w).1 hSw; go_split_ands; go_simp) <;> with_reducible rfl
      clear hS
      try simp only [Act.put, List.setIfInBounds_toArray, List.set_cons_zero, List.set_cons_succ]
      refine wpAnyH_done (by kernel_rfl) ?_ _
      have c0 := bR.cell 0 rfl
      have c1 := bR.cell 1 rfl
      have c2 := bR.cell 2 rfl
      have c3 := bR.cell 3 rfl
      go_wp2
      exact bodyPost_ret (v := .tuple #[.agg #[.int .i64 (k1 : Int), .bool d1, .int .i64 l1, .int .i64 h1], .int .i64 ev, .int .i64 0]) (by simp [results, Try.results48, go_sem, c0, c1, c2, c3]) rfl ⟨resR HT.out, HB.out⟩
end Go.Proofs.Ytaaklnabomhleaa
