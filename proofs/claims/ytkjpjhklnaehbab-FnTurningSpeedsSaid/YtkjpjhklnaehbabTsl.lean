/- The walk of the law of turning speeds. -/
import Derived.Test.YtkjpjhklnaehbabDry
import Derived.Test.YtkjpjhklnaehbabLop
import Derived.Test.YtkjpjhklnaehbabLLop
import Derived.Test.YtkjpjhklnaehbabLys
import Derived.Deep.RegionHeld3
import Derived.Deep.DeepCutAuto
namespace Go.Proofs.Ytkjpjhklnaehbab
open Go.ChangeShapes Go.WideShapes Go.ChangeAt Go.RowKit Go.Shelf Num
set_option linter.unusedVariables false
attribute [local go_sem ↓] Go.wp_at_zero Go.wp_at_succ

theorem ts_code {zs ys : List Int} {src c s h : Int} (h0 : rcod zs ys src c s h src = 0) {k : Nat} (hk : k < zs.length) : rcod zs ys src c s h (k : Int) = 0 := by
  obtain ⟨h1, h2, h3, h4⟩ := rcT_0 h0
  unfold rcod rcT
  rw [h1, h2, h3, show hkB zs (k : Int) = true by unfold hkB; simp; omega]; rfl
theorem mul_lt_iff {a b k : Int} (hk : 0 < k) : a * k < b * k ↔ a < b := by
  constructor
  · intro h; exact Int.lt_of_mul_lt_mul_right h (by omega)
  · intro h; exact Int.mul_lt_mul_of_pos_right h hk
/-- the turning speed is greater than the speed at a knot exactly if the ray crosses it -/
theorem ts_fact {zs ys : List Int} {src c s h N D : Int} (h0 : rcod zs ys src c s h src = 0) (hT : tsT zs ys src c s h = (N, D, 0)) : 1 ≤ D ∧ D ≤ 1000000000 ∧ ∀ k : Nat, crB ys src c h (k : Int) = decide (ys.getD k 0 * D < N) := by
  obtain ⟨hv, od, -, -⟩ := rcod_0 h0
  unfold tsT at hT
  rw [if_pos h0] at hT
  by_cases hm : (mkT (rA ys src h) c).2.2 = 0
  · rw [if_pos hm] at hT
    have hr := (mkT_0 hm).1
    have hvl := mkT_val hm
    rw [hT] at hr hvl
    obtain ⟨-, -, d1, d2, -⟩ := ratB_t hr
    replace d1 : 1 ≤ D := d1
    replace d2 : D ≤ 1000000000 := d2
    refine ⟨d1, d2, fun k => ?_⟩
    have hc := od.c1
    unfold crB
    rw [Bool.eq_iff_iff, decide_eq_true_eq, decide_eq_true_eq]
    rw [← mul_lt_iff (a := ys.getD k 0 * D) (b := N) (k := c) (by omega)]
    show rB ys (k : Int) c < rA ys src h ↔ _
    rw [rB_nat, ← mul_lt_iff (a := c * ys.getD k 0) (b := rA ys src h) (k := D) (by omega)]
    have e1 : ys.getD k 0 * D * c = c * ys.getD k 0 * D := by rw [Int.mul_right_comm, Int.mul_comm (ys.getD k 0) c]
    rw [e1]
    have e2 : N * c = rA ys src h * D := hvl
    rw [e2]
  · rw [if_neg hm] at hT
    simp at hT
theorem op_mem {ys : List Int} {src c h : Int} {n k : Nat} (hk : k < n) : decide ((k : Int) ∈ opL ys src c h n) = opP ys src c h k := by
  rw [Bool.eq_iff_iff, decide_eq_true_eq]
  unfold opL
  rw [List.mem_map]
  constructor
  · rintro ⟨j, hj, e⟩
    obtain rfl : j = k := by omega
    exact (List.mem_filter.1 hj).2
  · intro e
    exact ⟨k, List.mem_filter.2 ⟨List.mem_range.2 hk, e⟩, rfl⟩

set_option maxRecDepth 100000 in
set_option maxHeartbeats 4000000 in
theorem ltsl (a0 : Option Addr) (len0 cap0 : Nat) (z0 : List Int) (w : World) (w0 : IsRow .u8 w a0 len0 cap0 z0) :
    Calls Try.prog 4 #[.slice a0 len0 cap0] w fun e w' => e = .returned (.bool true) ∧ Below w.heap.size w w' := by
  obtain ⟨hln, hc⟩ := Code8.of_row w0
  clear w0
  obtain ⟨cs, hcs⟩ : ∃ cs, z0.take len0 = cs := ⟨_, rfl⟩
  rw [hcs] at hln hc
  subst hln
  clear hcs
  have HC := Lib.hid hc
  clear hc
  by_cases hbig : 4096 < (cs.length : Int)
  · have HB0 : Hid (decide (4096 < (cs.length : Int)) = true) := Lib.hid (decide_eq_true hbig)
    clear hbig
    go_enter Try.func4, Try.ntmps4
    go_wp2_with fail
    refine (big_any _ _ _ _).mono ?_
    rw [HB0.out]
    rintro e w1 ⟨rfl, rfl⟩
    go_wp2
    go_ret
    exact ⟨rfl, Below.refl _ _⟩
  have HB0 : Hid (decide (4096 < (cs.length : Int)) = false) := Lib.hid (decide_eq_false hbig)
  clear hbig
  go_enter Try.func4, Try.ntmps4
  go_wp2_with fail
  refine (big_any _ _ _ _).mono ?_
  rw [HB0.out]
  rintro e w1 ⟨rfl, hw1⟩
  subst hw1
  go_wp2_with fail
  refine (dts_any _ _ _ cs HC.out).mono ?_
  rintro e w1 ⟨a1, b1, c1, d1, zs, ys, sr, c, s, h, rfl, hp, hb⟩
  have HB := Lib.hid hb
  have HP := Lib.hid hp
  clear hp
  obtain ⟨⟨N, D, e1⟩, hU⟩ : ∃ U, tsT zs ys sr c s h = U := ⟨_, rfl⟩
  have l12 := loL_len zs ys sr c s h
  obtain ⟨LL, hL⟩ : ∃ x, loL zs ys sr c s h = x := ⟨_, rfl⟩
  obtain ⟨e2, hq2⟩ : ∃ x, rcod zs ys sr c s h sr = x := ⟨_, rfl⟩
  rw [hL] at l12
  have KA : Hid (∀ (w : World) (a b : Option Addr) (c_ d_ : Nat), Prof w w.heap.size a b zs ys → Calls Try.prog 10 #[.agg #[.slice a zs.length c_, .slice b ys.length d_], .int .i64 sr, .agg #[.int .i64 c, .int .i64 s, .int .i64 h]] w fun e w' => e = .returned (.tuple #[.agg #[.int .i64 N, .int .i64 D], .int .i64 e1]) ∧ Below w.heap.size w w') := Lib.hid (fun w a b c_ d_ hp => by have := its_any w a b c_ d_ zs ys sr c s h hp; rwa [hU] at this)
  have KB : Hid (∀ (w : World) (a b : Option Addr) (c_ d_ : Nat), Prof w w.heap.size a b zs ys → Calls Try.prog 7 #[.agg #[.slice a zs.length c_, .slice b ys.length d_], .int .i64 sr, .agg #[.int .i64 c, .int .i64 s, .int .i64 h]] w fun e w' => e = .returned (.tuple #[.agg #[.int .i64 N, .int .i64 D], .int .i64 e1]) ∧ Below w.heap.size w w') := Lib.hid (fun w a b c_ d_ hp => by have := sts_any w a b c_ d_ zs ys sr c s h hp; rwa [hU] at this)
  have KC : Hid (∀ (w : World) (a b : Option Addr) (c_ d_ : Nat), Prof w w.heap.size a b zs ys → Calls Try.prog 15 #[.agg #[.slice a zs.length c_, .slice b ys.length d_], .int .i64 sr, .agg #[.int .i64 c, .int .i64 s, .int .i64 h]] w fun e w' => ∃ a' c', e = .returned (.tuple #[.slice a' LL.length c', .int .i64 e2]) ∧ OwnA w' w.heap.size w'.heap.size a' c' LL ∧ Below w.heap.size w w') := Lib.hid (fun w a b c_ d_ hp => by have := ilo_any w a b c_ d_ zs ys sr c s h hp; rwa [hL, hq2] at this)
  have KD : Hid (∀ (w : World) (a b : Option Addr) (c_ d_ : Nat), Prof w w.heap.size a b zs ys → Calls Try.prog 16 #[.agg #[.slice a zs.length c_, .slice b ys.length d_], .int .i64 sr, .agg #[.int .i64 c, .int .i64 s, .int .i64 h]] w fun e w' => ∃ a' c', e = .returned (.tuple #[.slice a' LL.length c', .int .i64 e2]) ∧ OwnA w' w.heap.size w'.heap.size a' c' LL ∧ Below w.heap.size w w') := Lib.hid (fun w a b c_ d_ hp => by have := slo_any w a b c_ d_ zs ys sr c s h hp; rwa [hL, hq2] at this)
  have F0 : Hid (e2 = 0 → rcod zs ys sr c s h sr = 0) := Lib.hid (fun h => hq2.trans h)
  have FT : Hid (e2 = 0 → e1 = 0 → 1 ≤ D ∧ D ≤ 1000000000 ∧ ∀ k : Nat, crB ys sr c h (k : Int) = decide (ys.getD k 0 * D < N)) := Lib.hid (fun h2 h1 => ts_fact (hq2.trans h2) (by rw [hU, h1]))
  have FL : Hid (e2 = 0 → ∀ k : Nat, k + 1 < zs.length → decide ((k : Int) ∈ LL) = (crB ys sr c h (k : Int) && crB ys sr c h ((k + 1 : Nat) : Int))) := Lib.hid (fun h2 k hk => by rw [← hL]; unfold loL; rw [if_pos (hq2.trans h2)]; exact op_mem (by omega))
  clear hU hL hq2
  clear hb
  go_wp2_with fail
  obtain ⟨W2, hW⟩ : ∃ W, W = ((w1.alloc (.cells #[.slice a1 zs.length c1, .slice b1 ys.length d1] 32)).alloc (.cells #[.int .i64 c, .int .i64 s, .int .i64 h] 34)) := ⟨_, rfl⟩
  have hb : Below w1.heap.size w1 W2 := by rw [hW]; exact (by repeat (first | exact Below.refl _ _ | (refine Below.alloc ?_ (by simp <;> omega) _) | (refine Below.setCell ?_ (by simp <;> omega) _) | (refine Below.drew ?_) | (refine bel_drewN ?_ _)))
  have bA : Bk W2 (w1.heap.size) #[.slice a1 zs.length c1, .slice b1 ys.length d1] 32 := by rw [hW]; exact ((Bk.new' (by simp)).alloc _)
  have bD : Bk W2 (w1.heap.size + 1) #[.int .i64 c, .int .i64 s, .int .i64 h] 34 := by rw [hW]; exact (Bk.new' (by simp))
  replace HP := Lib.hid (HP.out.on hb)
  replace HB := Lib.hid (bel_end HB.out hb)
  rw [← hW]
  clear hW hb
  have bA_0 := bA.cell 0 rfl
  have bA_1 := bA.cell 1 rfl
  have bA_l := bA.lt
  have bD_0 := bD.cell 0 rfl
  have bD_1 := bD.cell 1 rfl
  have bD_2 := bD.cell 2 rfl
  have bD_l := bD.lt
  refine (KA.out _ _ _ _ _ HP.out.at_).mono ?_
  rintro e w3 ⟨rfl, hb⟩
  replace bA := bA.on hb
  replace bD := bD.on hb
  replace HP := Lib.hid (HP.out.on hb)
  replace HB := Lib.hid (bel_end HB.out hb)
  clear hb
  clear bA_0 bA_1 bA_l bD_0 bD_1 bD_2 bD_l
  have bA_0 := bA.cell 0 rfl
  have bA_1 := bA.cell 1 rfl
  have bA_l := bA.lt
  have bD_0 := bD.cell 0 rfl
  have bD_1 := bD.cell 1 rfl
  have bD_2 := bD.cell 2 rfl
  have bD_l := bD.lt
  go_wp2_with fail
  obtain ⟨W4, hW⟩ : ∃ W, W = (w3.alloc (.cells #[.int .i64 N, .int .i64 D] 29)) := ⟨_, rfl⟩
  have hb : Below w3.heap.size w3 W4 := by rw [hW]; exact (by repeat (first | exact Below.refl _ _ | (refine Below.alloc ?_ (by simp <;> omega) _) | (refine Below.setCell ?_ (by simp <;> omega) _) | (refine Below.drew ?_) | (refine bel_drewN ?_ _)))
  have bX : Bk W4 (w3.heap.size) #[.int .i64 N, .int .i64 D] 29 := by rw [hW]; exact (Bk.new' (by simp))
  replace bA := bA.on hb
  replace bD := bD.on hb
  replace HP := Lib.hid (HP.out.on hb)
  replace HB := Lib.hid (bel_end HB.out hb)
  rw [← hW]
  clear bA_0 bA_1 bA_l bD_0 bD_1 bD_2 bD_l
  clear hW hb
  have bA_0 := bA.cell 0 rfl
  have bA_1 := bA.cell 1 rfl
  have bA_l := bA.lt
  have bD_0 := bD.cell 0 rfl
  have bD_1 := bD.cell 1 rfl
  have bD_2 := bD.cell 2 rfl
  have bD_l := bD.lt
  have bX_0 := bX.cell 0 rfl
  have bX_1 := bX.cell 1 rfl
  have bX_l := bX.lt
  refine (KB.out _ _ _ _ _ HP.out.at_).mono ?_
  rintro e w5 ⟨rfl, hb⟩
  replace bA := bA.on hb
  replace bD := bD.on hb
  replace bX := bX.on hb
  replace HP := Lib.hid (HP.out.on hb)
  replace HB := Lib.hid (bel_end HB.out hb)
  clear hb
  clear bA_0 bA_1 bA_l bD_0 bD_1 bD_2 bD_l bX_0 bX_1 bX_l
  have bA_0 := bA.cell 0 rfl
  have bA_1 := bA.cell 1 rfl
  have bA_l := bA.lt
  have bD_0 := bD.cell 0 rfl
  have bD_1 := bD.cell 1 rfl
  have bD_2 := bD.cell 2 rfl
  have bD_l := bD.lt
  have bX_0 := bX.cell 0 rfl
  have bX_1 := bX.cell 1 rfl
  have bX_l := bX.lt
  go_wp2_with fail
  obtain ⟨W6, hW⟩ : ∃ W, W = (w5.alloc (.cells #[.int .i64 N, .int .i64 D] 29)) := ⟨_, rfl⟩
  have hb : Below w5.heap.size w5 W6 := by rw [hW]; exact (by repeat (first | exact Below.refl _ _ | (refine Below.alloc ?_ (by simp <;> omega) _) | (refine Below.setCell ?_ (by simp <;> omega) _) | (refine Below.drew ?_) | (refine bel_drewN ?_ _)))
  have bY : Bk W6 (w5.heap.size) #[.int .i64 N, .int .i64 D] 29 := by rw [hW]; exact (Bk.new' (by simp))
  replace bA := bA.on hb
  replace bD := bD.on hb
  replace bX := bX.on hb
  replace HP := Lib.hid (HP.out.on hb)
  replace HB := Lib.hid (bel_end HB.out hb)
  rw [← hW]
  clear bA_0 bA_1 bA_l bD_0 bD_1 bD_2 bD_l bX_0 bX_1 bX_l
  clear hW hb
  have bA_0 := bA.cell 0 rfl
  have bA_1 := bA.cell 1 rfl
  have bA_l := bA.lt
  have bD_0 := bD.cell 0 rfl
  have bD_1 := bD.cell 1 rfl
  have bD_2 := bD.cell 2 rfl
  have bD_l := bD.lt
  have bX_0 := bX.cell 0 rfl
  have bX_1 := bX.cell 1 rfl
  have bX_l := bX.lt
  have bY_0 := bY.cell 0 rfl
  have bY_1 := bY.cell 1 rfl
  have bY_l := bY.lt
  refine (KC.out _ _ _ _ _ HP.out.at_).mono ?_
  rintro e w7 ⟨la, lc, rfl, hs, hb⟩
  replace bA := bA.on hb
  replace bD := bD.on hb
  replace bX := bX.on hb
  replace bY := bY.on hb
  replace HP := Lib.hid (HP.out.on hb)
  replace HB := Lib.hid (bel_end HB.out hb)
  have HL := Lib.hid (IntL.of hs.ints)
  clear hs
  clear hb
  clear bA_0 bA_1 bA_l bD_0 bD_1 bD_2 bD_l bX_0 bX_1 bX_l bY_0 bY_1 bY_l
  have bA_0 := bA.cell 0 rfl
  have bA_1 := bA.cell 1 rfl
  have bA_l := bA.lt
  have bD_0 := bD.cell 0 rfl
  have bD_1 := bD.cell 1 rfl
  have bD_2 := bD.cell 2 rfl
  have bD_l := bD.lt
  have bX_0 := bX.cell 0 rfl
  have bX_1 := bX.cell 1 rfl
  have bX_l := bX.lt
  have bY_0 := bY.cell 0 rfl
  have bY_1 := bY.cell 1 rfl
  have bY_l := bY.lt
  go_wp2_with fail
  refine (KD.out _ _ _ _ _ HP.out.at_).mono ?_
  rintro e w8 ⟨ma, mc, rfl, hs, hb⟩
  replace bA := bA.on hb
  replace bD := bD.on hb
  replace bX := bX.on hb
  replace bY := bY.on hb
  replace HP := Lib.hid (HP.out.on hb)
  replace HL := Lib.hid (HL.out.on hb)
  replace HB := Lib.hid (bel_end HB.out hb)
  have HM := Lib.hid (IntL.of hs.ints)
  clear hs
  clear KA KB KC KD
  clear hb
  clear bA_0 bA_1 bA_l bD_0 bD_1 bD_2 bD_l bX_0 bX_1 bX_l bY_0 bY_1 bY_l
  have bA_0 := bA.cell 0 rfl
  have bA_1 := bA.cell 1 rfl
  have bA_l := bA.lt
  have bD_0 := bD.cell 0 rfl
  have bD_1 := bD.cell 1 rfl
  have bD_2 := bD.cell 2 rfl
  have bD_l := bD.lt
  have bX_0 := bX.cell 0 rfl
  have bX_1 := bX.cell 1 rfl
  have bX_l := bX.lt
  have bY_0 := bY.cell 0 rfl
  have bY_1 := bY.cell 1 rfl
  have bY_l := bY.lt
  go_wp2_with fail
  refine (lki_any _ _ _ _ _ _ LL (by omega) HL.out.ints HM.out.ints).mono ?_
  rintro e w9 ⟨rfl, nn, hnn⟩
  have hb : Below w8.heap.size w8 w9 := by rw [hnn]; exact bel_drewN (Below.refl _ _) _
  clear hnn nn
  replace bA := bA.on hb
  replace bD := bD.on hb
  replace bX := bX.on hb
  replace bY := bY.on hb
  replace HP := Lib.hid (HP.out.on hb)
  replace HL := Lib.hid (HL.out.on hb)
  replace HM := Lib.hid (HM.out.on hb)
  replace HB := Lib.hid (bel_end HB.out hb)
  clear hb HM
  clear bA_0 bA_1 bA_l bD_0 bD_1 bD_2 bD_l bX_0 bX_1 bX_l bY_0 bY_1 bY_l
  clear bY
  by_cases h2 : e2 = 0
  case neg =>
    have h2b : (e2 != 0) = true := by simpa using h2
    clear F0 FT FL
    have bA_0 := bA.cell 0 rfl
    have bA_1 := bA.cell 1 rfl
    have bA_l := bA.lt
    have bD_0 := bD.cell 0 rfl
    have bD_1 := bD.cell 1 rfl
    have bD_2 := bD.cell 2 rfl
    have bD_l := bD.lt
    have bX_0 := bX.cell 0 rfl
    have bX_1 := bX.cell 1 rfl
    have bX_l := bX.lt
    go_wp2
    go_ret
    exact ⟨rfl, HB.out⟩
  case pos =>
    have FL2 := Lib.hid (FL.out h2)
    have FT2 := Lib.hid (FT.out h2)
    have hq := F0.out h2
    subst h2
    clear FL FT F0
    obtain ⟨hv, od, -, -⟩ := rcod_0 hq
    have ho := Okp.of hv
    have CC : Hid (∀ (w : World) (a b : Option Addr) (c_ d_ : Nat) (k : Nat) (x : Int), x = (k : Int) → k < zs.length → Prof w w.heap.size a b zs ys → Calls Try.prog 18 #[.agg #[.slice a zs.length c_, .slice b ys.length d_], .int .i64 sr, .agg #[.int .i64 c, .int .i64 s, .int .i64 h], .int .i64 x] w fun e w' => e = .returned (.tuple #[.bool (crB ys sr c h (k : Int)), .int .i64 0]) ∧ Below w.heap.size w w') := Lib.hid (fun w a b c_ d_ k x hx hk hp => by subst hx; have := icc_any w a b c_ d_ zs ys sr (k : Int) c s h hp; rwa [show ccT zs ys sr c s h (k : Int) = (crB ys sr c h (k : Int), 0) by unfold ccT; rw [if_pos (ts_code hq hk)]] at this)
    have SB : Hid (∀ j : Nat, 0 ≤ ys.getD j 0 ∧ ys.getD j 0 ≤ 1700000) := Lib.hid (fun j => ⟨ho.sge j, ho.shi j⟩)
    have YL : Hid (zs.length = ys.length) := Lib.hid ho.len.symm
    have n2 := ho.n2
    have n12 := ho.n12
    clear hq hv od ho
    have bA_0 := bA.cell 0 rfl
    have bA_1 := bA.cell 1 rfl
    have bA_l := bA.lt
    have bD_0 := bD.cell 0 rfl
    have bD_1 := bD.cell 1 rfl
    have bD_2 := bD.cell 2 rfl
    have bD_l := bD.lt
    have bX_0 := bX.cell 0 rfl
    have bX_1 := bX.cell 1 rfl
    have bX_l := bX.lt
    go_wp2_with fail
    clear bA_0 bA_1 bA_l bD_0 bD_1 bD_2 bD_l bX_0 bX_1 bX_l
    go_loopw [14] (fun i wr => ∃ k : Nat, k ≤ zs.length ∧ i = .int .i64 (k : Int) ∧ Below w9.heap.size w9 wr) (fun i _ => zs.length - (intOf i).toNat)
    case atStart => exact ⟨0, by omega, rfl, Below.refl _ _⟩
    case round =>
      obtain ⟨k, hk, rfl, hb⟩ := hrel
      replace bA := bA.on hb
      replace bD := bD.on hb
      replace bX := bX.on hb
      replace HP := Lib.hid (HP.out.on hb)
      replace HL := Lib.hid (HL.out.on hb)
      replace HB := Lib.hid (bel_end HB.out hb)
      have HW := Lib.hid hb
      clear hb
      by_cases hlt : k < zs.length
      case neg =>
        have bA_0 := bA.cell 0 rfl
        have bA_1 := bA.cell 1 rfl
        have bA_l := bA.lt
        have bD_0 := bD.cell 0 rfl
        have bD_1 := bD.cell 1 rfl
        have bD_2 := bD.cell 2 rfl
        have bD_l := bD.lt
        have bX_0 := bX.cell 0 rfl
        have bX_1 := bX.cell 1 rfl
        have bX_l := bX.lt
        go_wp2
        go_ret
        exact ⟨rfl, HB.out⟩
      case pos =>
        have bA_0 := bA.cell 0 rfl
        have bA_1 := bA.cell 1 rfl
        have bA_l := bA.lt
        have bD_0 := bD.cell 0 rfl
        have bD_1 := bD.cell 1 rfl
        have bD_2 := bD.cell 2 rfl
        have bD_l := bD.lt
        have bX_0 := bX.cell 0 rfl
        have bX_1 := bX.cell 1 rfl
        have bX_l := bX.lt
        go_wp2_with fail
        refine (CC.out _ _ _ _ _ k _ rfl hlt HP.out.at_).mono ?_
        rintro e w10 ⟨rfl, hb⟩
        replace bA := bA.on hb
        replace bD := bD.on hb
        replace bX := bX.on hb
        replace HP := Lib.hid (HP.out.on hb)
        replace HL := Lib.hid (HL.out.on hb)
        replace HB := Lib.hid (bel_end HB.out hb)
        replace HW := Lib.hid (bel_end HW.out hb)
        clear hb
        clear bA_0 bA_1 bA_l bD_0 bD_1 bD_2 bD_l bX_0 bX_1 bX_l
        by_cases h1 : e1 = 0
        case neg =>
          have h1b : (e1 == 0) = false := by simpa using h1
          cases hB : crB ys sr c h (k : Int)
          · have H1 := Lib.hid hB
            clear hB
            by_cases hk0 : k = 0
            case pos =>
              have hkb : ((k : Int) == 0) = true := by simpa using hk0
              clear hk0
              have bA_0 := bA.cell 0 rfl
              have bA_1 := bA.cell 1 rfl
              have bA_l := bA.lt
              have bD_0 := bD.cell 0 rfl
              have bD_1 := bD.cell 1 rfl
              have bD_2 := bD.cell 2 rfl
              have bD_l := bD.lt
              have bX_0 := bX.cell 0 rfl
              have bX_1 := bX.cell 1 rfl
              have bX_l := bX.lt
              go_upto_region 16 with fail
              go_quiet (fail)
              go_wp2
              go_roundw
              (case rel => exact ⟨k + 1, by omega, by go_num, bel_drewN HW.out _⟩)
              (case measure => simp [intOf]; omega)
            case neg =>
              have hkb : ((k : Int) == 0) = false := by simpa using hk0
              have bA_0 := bA.cell 0 rfl
              have bA_1 := bA.cell 1 rfl
              have bA_l := bA.lt
              have bD_0 := bD.cell 0 rfl
              have bD_1 := bD.cell 1 rfl
              have bD_2 := bD.cell 2 rfl
              have bD_l := bD.lt
              have bX_0 := bX.cell 0 rfl
              have bX_1 := bX.cell 1 rfl
              have bX_l := bX.lt
              go_upto_region 16 with fail
              go_quiet (fail)
              go_wp2_with fail
              clear bA_0 bA_1 bA_l bD_0 bD_1 bD_2 bD_l bX_0 bX_1 bX_l
              generalize hW : World.drewN _ _ = WQ
              have hb : Below w10.heap.size w10 WQ := by rw [← hW]; exact bel_drewN (Below.refl _ _) _
              clear hW 
              replace bA := bA.on hb
              replace bD := bD.on hb
              replace bX := bX.on hb
              replace HP := Lib.hid (HP.out.on hb)
              replace HL := Lib.hid (HL.out.on hb)
              replace HB := Lib.hid (bel_end HB.out hb)
              replace HW := Lib.hid (bel_end HW.out hb)
              clear hb
              refine (CC.out _ _ _ _ _ (k - 1) ((k : Int) - 1) (by omega) (by omega) HP.out.at_).mono ?_
              rintro e w11 ⟨rfl, hb⟩
              replace bA := bA.on hb
              replace bD := bD.on hb
              replace bX := bX.on hb
              replace HP := Lib.hid (HP.out.on hb)
              replace HL := Lib.hid (HL.out.on hb)
              replace HB := Lib.hid (bel_end HB.out hb)
              replace HW := Lib.hid (bel_end HW.out hb)
              clear hb
              have hm := FL2.out (k - 1) (by omega)
              rw [show ((k - 1 + 1 : Nat) : Int) = (k : Int) by omega, show ((k - 1 : Nat) : Int) = (k : Int) - 1 by omega, H1.out] at hm
              rw [show ((k - 1 : Nat) : Int) = (k : Int) - 1 by omega]
              cases h3 : crB ys sr c h ((k : Int) - 1)
              · rw [h3] at hm
                have HH := Lib.hid hm
                clear hm h3
                have bA_0 := bA.cell 0 rfl
                have bA_1 := bA.cell 1 rfl
                have bA_l := bA.lt
                have bD_0 := bD.cell 0 rfl
                have bD_1 := bD.cell 1 rfl
                have bD_2 := bD.cell 2 rfl
                have bD_l := bD.lt
                have bX_0 := bX.cell 0 rfl
                have bX_1 := bX.cell 1 rfl
                have bX_l := bX.lt
                go_wp2_with fail
                refine (hsi_any _ _ _ _ LL _ (by omega) HL.out.ints).mono ?_
                rw [HH.out]
                rintro e w_ ⟨rfl, rfl⟩
                go_wp2
                go_roundw
                (case rel => exact ⟨k + 1, by omega, by go_num, HW.out⟩)
                (case measure => simp [intOf]; omega)
              · rw [h3] at hm
                have HH := Lib.hid hm
                clear hm h3
                have bA_0 := bA.cell 0 rfl
                have bA_1 := bA.cell 1 rfl
                have bA_l := bA.lt
                have bD_0 := bD.cell 0 rfl
                have bD_1 := bD.cell 1 rfl
                have bD_2 := bD.cell 2 rfl
                have bD_l := bD.lt
                have bX_0 := bX.cell 0 rfl
                have bX_1 := bX.cell 1 rfl
                have bX_l := bX.lt
                go_wp2_with fail
                refine (hsi_any _ _ _ _ LL _ (by omega) HL.out.ints).mono ?_
                rw [HH.out]
                rintro e w_ ⟨rfl, rfl⟩
                go_wp2
                go_roundw
                (case rel => exact ⟨k + 1, by omega, by go_num, HW.out⟩)
                (case measure => simp [intOf]; omega)
          · have H1 := Lib.hid hB
            clear hB
            by_cases hk0 : k = 0
            case pos =>
              have hkb : ((k : Int) == 0) = true := by simpa using hk0
              clear hk0
              have bA_0 := bA.cell 0 rfl
              have bA_1 := bA.cell 1 rfl
              have bA_l := bA.lt
              have bD_0 := bD.cell 0 rfl
              have bD_1 := bD.cell 1 rfl
              have bD_2 := bD.cell 2 rfl
              have bD_l := bD.lt
              have bX_0 := bX.cell 0 rfl
              have bX_1 := bX.cell 1 rfl
              have bX_l := bX.lt
              go_upto_region 16 with fail
              go_quiet (fail)
              go_wp2
              go_roundw
              (case rel => exact ⟨k + 1, by omega, by go_num, bel_drewN HW.out _⟩)
              (case measure => simp [intOf]; omega)
            case neg =>
              have hkb : ((k : Int) == 0) = false := by simpa using hk0
              have bA_0 := bA.cell 0 rfl
              have bA_1 := bA.cell 1 rfl
              have bA_l := bA.lt
              have bD_0 := bD.cell 0 rfl
              have bD_1 := bD.cell 1 rfl
              have bD_2 := bD.cell 2 rfl
              have bD_l := bD.lt
              have bX_0 := bX.cell 0 rfl
              have bX_1 := bX.cell 1 rfl
              have bX_l := bX.lt
              go_upto_region 16 with fail
              go_quiet (fail)
              go_wp2_with fail
              clear bA_0 bA_1 bA_l bD_0 bD_1 bD_2 bD_l bX_0 bX_1 bX_l
              generalize hW : World.drewN _ _ = WQ
              have hb : Below w10.heap.size w10 WQ := by rw [← hW]; exact bel_drewN (Below.refl _ _) _
              clear hW 
              replace bA := bA.on hb
              replace bD := bD.on hb
              replace bX := bX.on hb
              replace HP := Lib.hid (HP.out.on hb)
              replace HL := Lib.hid (HL.out.on hb)
              replace HB := Lib.hid (bel_end HB.out hb)
              replace HW := Lib.hid (bel_end HW.out hb)
              clear hb
              refine (CC.out _ _ _ _ _ (k - 1) ((k : Int) - 1) (by omega) (by omega) HP.out.at_).mono ?_
              rintro e w11 ⟨rfl, hb⟩
              replace bA := bA.on hb
              replace bD := bD.on hb
              replace bX := bX.on hb
              replace HP := Lib.hid (HP.out.on hb)
              replace HL := Lib.hid (HL.out.on hb)
              replace HB := Lib.hid (bel_end HB.out hb)
              replace HW := Lib.hid (bel_end HW.out hb)
              clear hb
              have hm := FL2.out (k - 1) (by omega)
              rw [show ((k - 1 + 1 : Nat) : Int) = (k : Int) by omega, show ((k - 1 : Nat) : Int) = (k : Int) - 1 by omega, H1.out] at hm
              rw [show ((k - 1 : Nat) : Int) = (k : Int) - 1 by omega]
              cases h3 : crB ys sr c h ((k : Int) - 1)
              · rw [h3] at hm
                have HH := Lib.hid hm
                clear hm h3
                have bA_0 := bA.cell 0 rfl
                have bA_1 := bA.cell 1 rfl
                have bA_l := bA.lt
                have bD_0 := bD.cell 0 rfl
                have bD_1 := bD.cell 1 rfl
                have bD_2 := bD.cell 2 rfl
                have bD_l := bD.lt
                have bX_0 := bX.cell 0 rfl
                have bX_1 := bX.cell 1 rfl
                have bX_l := bX.lt
                go_wp2_with fail
                refine (hsi_any _ _ _ _ LL _ (by omega) HL.out.ints).mono ?_
                rw [HH.out]
                rintro e w_ ⟨rfl, rfl⟩
                go_wp2
                go_roundw
                (case rel => exact ⟨k + 1, by omega, by go_num, HW.out⟩)
                (case measure => simp [intOf]; omega)
              · rw [h3] at hm
                have HH := Lib.hid hm
                clear hm h3
                have bA_0 := bA.cell 0 rfl
                have bA_1 := bA.cell 1 rfl
                have bA_l := bA.lt
                have bD_0 := bD.cell 0 rfl
                have bD_1 := bD.cell 1 rfl
                have bD_2 := bD.cell 2 rfl
                have bD_l := bD.lt
                have bX_0 := bX.cell 0 rfl
                have bX_1 := bX.cell 1 rfl
                have bX_l := bX.lt
                go_wp2_with fail
                refine (hsi_any _ _ _ _ LL _ (by omega) HL.out.ints).mono ?_
                rw [HH.out]
                rintro e w_ ⟨rfl, rfl⟩
                go_wp2
                go_roundw
                (case rel => exact ⟨k + 1, by omega, by go_num, HW.out⟩)
                (case measure => simp [intOf]; omega)
        case pos =>
          obtain ⟨hD1, hD2, hF⟩ := FT2.out h1
          have hFk := hF k
          have sb := SB.out k
          subst h1
          clear hF
          obtain ⟨by_, oy, rfl, hBy, hcy⟩ := HP.out.at_.sy (show 0 < ys.length by have := YL.out; omega)
          have z1 := hcy k (by have := YL.out; omega)
          have q0 : (k : Int) < (ys.length : Int) := by have := YL.out; omega
          clear hcy hBy
          obtain ⟨v, hv⟩ : ∃ v, ys.getD k 0 = v := ⟨_, rfl⟩
          rw [hv] at z1 sb hFk
          clear hv
          obtain ⟨sb1, sb2⟩ := sb
          have m1 := mul_in (a := v) (b := D) (A := 1700000) (B := 1000000000) (by omega) (by omega) (by omega) (by omega)
          have t1 : IntKind.wrap .i64 (v * D) = v * D := IntWalk.i64_in _ (by omega)
          obtain ⟨P, hP⟩ : ∃ P, v * D = P := ⟨_, rfl⟩
          replace t1 : IntKind.wrap .i64 (v * D) = P := by rw [t1, hP]
          rw [hP] at hFk
          clear hP m1
          cases hB : crB ys sr c h (k : Int)
          · rw [hB] at hFk
            have hPN : ¬ P < N := of_decide_eq_false hFk.symm
            have H1 := Lib.hid hB
            clear hB hFk
            by_cases hk0 : k = 0
            case pos =>
              have hkb : ((k : Int) == 0) = true := by simpa using hk0
              clear hk0
              have bA_0 := bA.cell 0 rfl
              have bA_1 := bA.cell 1 rfl
              have bA_l := bA.lt
              have bD_0 := bD.cell 0 rfl
              have bD_1 := bD.cell 1 rfl
              have bD_2 := bD.cell 2 rfl
              have bD_l := bD.lt
              have bX_0 := bX.cell 0 rfl
              have bX_1 := bX.cell 1 rfl
              have bX_l := bX.lt
              go_upto_region 16 with fail
              go_quiet (fail)
              go_wp2
              go_roundw
              (case rel => exact ⟨k + 1, by omega, by go_num, bel_drewN HW.out _⟩)
              (case measure => simp [intOf]; omega)
            case neg =>
              have hkb : ((k : Int) == 0) = false := by simpa using hk0
              have bA_0 := bA.cell 0 rfl
              have bA_1 := bA.cell 1 rfl
              have bA_l := bA.lt
              have bD_0 := bD.cell 0 rfl
              have bD_1 := bD.cell 1 rfl
              have bD_2 := bD.cell 2 rfl
              have bD_l := bD.lt
              have bX_0 := bX.cell 0 rfl
              have bX_1 := bX.cell 1 rfl
              have bX_l := bX.lt
              go_upto_region 16 with fail
              go_quiet (fail)
              go_wp2_with fail
              clear bA_0 bA_1 bA_l bD_0 bD_1 bD_2 bD_l bX_0 bX_1 bX_l
              generalize hW : World.drewN _ _ = WQ
              have hb : Below w10.heap.size w10 WQ := by rw [← hW]; exact bel_drewN (Below.refl _ _) _
              clear hW z1 t1 hPN
              replace bA := bA.on hb
              replace bD := bD.on hb
              replace bX := bX.on hb
              replace HP := Lib.hid (HP.out.on hb)
              replace HL := Lib.hid (HL.out.on hb)
              replace HB := Lib.hid (bel_end HB.out hb)
              replace HW := Lib.hid (bel_end HW.out hb)
              clear hb
              refine (CC.out _ _ _ _ _ (k - 1) ((k : Int) - 1) (by omega) (by omega) HP.out.at_).mono ?_
              rintro e w11 ⟨rfl, hb⟩
              replace bA := bA.on hb
              replace bD := bD.on hb
              replace bX := bX.on hb
              replace HP := Lib.hid (HP.out.on hb)
              replace HL := Lib.hid (HL.out.on hb)
              replace HB := Lib.hid (bel_end HB.out hb)
              replace HW := Lib.hid (bel_end HW.out hb)
              clear hb
              have hm := FL2.out (k - 1) (by omega)
              rw [show ((k - 1 + 1 : Nat) : Int) = (k : Int) by omega, show ((k - 1 : Nat) : Int) = (k : Int) - 1 by omega, H1.out] at hm
              rw [show ((k - 1 : Nat) : Int) = (k : Int) - 1 by omega]
              cases h3 : crB ys sr c h ((k : Int) - 1)
              · rw [h3] at hm
                have HH := Lib.hid hm
                clear hm h3
                have bA_0 := bA.cell 0 rfl
                have bA_1 := bA.cell 1 rfl
                have bA_l := bA.lt
                have bD_0 := bD.cell 0 rfl
                have bD_1 := bD.cell 1 rfl
                have bD_2 := bD.cell 2 rfl
                have bD_l := bD.lt
                have bX_0 := bX.cell 0 rfl
                have bX_1 := bX.cell 1 rfl
                have bX_l := bX.lt
                go_wp2_with fail
                refine (hsi_any _ _ _ _ LL _ (by omega) HL.out.ints).mono ?_
                rw [HH.out]
                rintro e w_ ⟨rfl, rfl⟩
                go_wp2
                go_roundw
                (case rel => exact ⟨k + 1, by omega, by go_num, HW.out⟩)
                (case measure => simp [intOf]; omega)
              · rw [h3] at hm
                have HH := Lib.hid hm
                clear hm h3
                have bA_0 := bA.cell 0 rfl
                have bA_1 := bA.cell 1 rfl
                have bA_l := bA.lt
                have bD_0 := bD.cell 0 rfl
                have bD_1 := bD.cell 1 rfl
                have bD_2 := bD.cell 2 rfl
                have bD_l := bD.lt
                have bX_0 := bX.cell 0 rfl
                have bX_1 := bX.cell 1 rfl
                have bX_l := bX.lt
                go_wp2_with fail
                refine (hsi_any _ _ _ _ LL _ (by omega) HL.out.ints).mono ?_
                rw [HH.out]
                rintro e w_ ⟨rfl, rfl⟩
                go_wp2
                go_roundw
                (case rel => exact ⟨k + 1, by omega, by go_num, HW.out⟩)
                (case measure => simp [intOf]; omega)
          · rw [hB] at hFk
            have hPN : P < N := of_decide_eq_true hFk.symm
            have H1 := Lib.hid hB
            clear hB hFk
            by_cases hk0 : k = 0
            case pos =>
              have hkb : ((k : Int) == 0) = true := by simpa using hk0
              clear hk0
              have bA_0 := bA.cell 0 rfl
              have bA_1 := bA.cell 1 rfl
              have bA_l := bA.lt
              have bD_0 := bD.cell 0 rfl
              have bD_1 := bD.cell 1 rfl
              have bD_2 := bD.cell 2 rfl
              have bD_l := bD.lt
              have bX_0 := bX.cell 0 rfl
              have bX_1 := bX.cell 1 rfl
              have bX_l := bX.lt
              go_upto_region 16 with fail
              go_quiet (fail)
              go_wp2
              go_roundw
              (case rel => exact ⟨k + 1, by omega, by go_num, bel_drewN HW.out _⟩)
              (case measure => simp [intOf]; omega)
            case neg =>
              have hkb : ((k : Int) == 0) = false := by simpa using hk0
              have bA_0 := bA.cell 0 rfl
              have bA_1 := bA.cell 1 rfl
              have bA_l := bA.lt
              have bD_0 := bD.cell 0 rfl
              have bD_1 := bD.cell 1 rfl
              have bD_2 := bD.cell 2 rfl
              have bD_l := bD.lt
              have bX_0 := bX.cell 0 rfl
              have bX_1 := bX.cell 1 rfl
              have bX_l := bX.lt
              go_upto_region 16 with fail
              go_quiet (fail)
              go_wp2_with fail
              clear bA_0 bA_1 bA_l bD_0 bD_1 bD_2 bD_l bX_0 bX_1 bX_l
              generalize hW : World.drewN _ _ = WQ
              have hb : Below w10.heap.size w10 WQ := by rw [← hW]; exact bel_drewN (Below.refl _ _) _
              clear hW z1 t1 hPN
              replace bA := bA.on hb
              replace bD := bD.on hb
              replace bX := bX.on hb
              replace HP := Lib.hid (HP.out.on hb)
              replace HL := Lib.hid (HL.out.on hb)
              replace HB := Lib.hid (bel_end HB.out hb)
              replace HW := Lib.hid (bel_end HW.out hb)
              clear hb
              refine (CC.out _ _ _ _ _ (k - 1) ((k : Int) - 1) (by omega) (by omega) HP.out.at_).mono ?_
              rintro e w11 ⟨rfl, hb⟩
              replace bA := bA.on hb
              replace bD := bD.on hb
              replace bX := bX.on hb
              replace HP := Lib.hid (HP.out.on hb)
              replace HL := Lib.hid (HL.out.on hb)
              replace HB := Lib.hid (bel_end HB.out hb)
              replace HW := Lib.hid (bel_end HW.out hb)
              clear hb
              have hm := FL2.out (k - 1) (by omega)
              rw [show ((k - 1 + 1 : Nat) : Int) = (k : Int) by omega, show ((k - 1 : Nat) : Int) = (k : Int) - 1 by omega, H1.out] at hm
              rw [show ((k - 1 : Nat) : Int) = (k : Int) - 1 by omega]
              cases h3 : crB ys sr c h ((k : Int) - 1)
              · rw [h3] at hm
                have HH := Lib.hid hm
                clear hm h3
                have bA_0 := bA.cell 0 rfl
                have bA_1 := bA.cell 1 rfl
                have bA_l := bA.lt
                have bD_0 := bD.cell 0 rfl
                have bD_1 := bD.cell 1 rfl
                have bD_2 := bD.cell 2 rfl
                have bD_l := bD.lt
                have bX_0 := bX.cell 0 rfl
                have bX_1 := bX.cell 1 rfl
                have bX_l := bX.lt
                go_wp2_with fail
                refine (hsi_any _ _ _ _ LL _ (by omega) HL.out.ints).mono ?_
                rw [HH.out]
                rintro e w_ ⟨rfl, rfl⟩
                go_wp2
                go_roundw
                (case rel => exact ⟨k + 1, by omega, by go_num, HW.out⟩)
                (case measure => simp [intOf]; omega)
              · rw [h3] at hm
                have HH := Lib.hid hm
                clear hm h3
                have bA_0 := bA.cell 0 rfl
                have bA_1 := bA.cell 1 rfl
                have bA_l := bA.lt
                have bD_0 := bD.cell 0 rfl
                have bD_1 := bD.cell 1 rfl
                have bD_2 := bD.cell 2 rfl
                have bD_l := bD.lt
                have bX_0 := bX.cell 0 rfl
                have bX_1 := bX.cell 1 rfl
                have bX_l := bX.lt
                go_wp2_with fail
                refine (hsi_any _ _ _ _ LL _ (by omega) HL.out.ints).mono ?_
                rw [HH.out]
                rintro e w_ ⟨rfl, rfl⟩
                go_wp2
                go_roundw
                (case rel => exact ⟨k + 1, by omega, by go_num, HW.out⟩)
                (case measure => simp [intOf]; omega)
end Go.Proofs.Ytkjpjhklnaehbab
