/- The walks of the exact laws of BestPairs, GreedyPairs, FreeContacts: each returns true and writes nothing that was there. -/
import Derived.Test.YtlahgdhofakinaaPrI
import Derived.Test.YtlahgdhofakinaaPrZ
namespace Go.Proofs.Ytlahgdhofakinaa
open Go.ChangeShapes Go.WideShapes Go.ChangeAt Go.RowKit Go.Shelf Num
set_option linter.unusedVariables false
set_option linter.unusedSimpArgs false
theorem bsV_len (zss : List (List Int)) (miss : Int) : (bsV zss miss).length ≤ 6 := by
  unfold bsV
  split
  · rename_i h
    have h1 := (prB_t (bst_facts zss miss).1).1
    have h2 := (coC_0 h).1.1
    omega
  · simp
theorem grW_len (zss : List (List Int)) (miss : Int) : (grW zss miss).length ≤ 6 := by
  unfold grW
  split
  · rename_i h
    have h1 := (prB_t (grV_facts zss miss).1).1
    have h2 := (coC_0 h).1.1
    omega
  · simp
theorem fcV_len (zss : List (List Int)) (ps : List Int) : (fcV zss ps).length ≤ 6 := by
  unfold fcV
  split
  · rename_i h
    split
    · have h1 := fcL_len ps (gR zss 0).length
      have ha : AcP zss := by
        unfold fcC at h
        split at h
        · rename_i g; exact acB_t g
        · cases h
      have h2 := acP_rows ha 0
      omega
    · simp
  · simp

set_option maxRecDepth 100000 in
set_option maxHeartbeats 8000000 in
theorem lpbp (a0 : Option Addr) (len0 cap0 : Nat) (z0 : List (List Int)) (miss : Int) (w : World) (w0 : IsRows w a0 len0 cap0 z0) (w1 : (Lit.int .i64 miss).wf = true) :
    Calls Try.prog 10 #[.slice a0 len0 cap0, .int .i64 miss] w fun e w' => e = .returned (.bool true) ∧ Below w.heap.size w w' := by
  obtain ⟨hm, hlen, hz, hrl⟩ := RwL.of_rows w0
  obtain ⟨zss, hzs⟩ : ∃ zss, z0.take len0 = zss := ⟨_, rfl⟩
  rw [hzs] at hz hlen hrl
  subst hlen
  clear hzs w0
  clear w1
  have HX := Lib.hid (RwX.of hz)
  have K := Lib.hid (szs_any w _ a0 cap0 zss 1048576 hm hrl (by omega) (by omega) hz)
  clear hz
  obtain ⟨q, hq⟩ : ∃ q, szR zss 1048576 = q := ⟨_, rfl⟩
  rw [hq] at K
  by_cases hneg : q < 0
  · go_enter Try.func10, Try.ntmps10
    go_wp2_with (go_at_call 50; refine K.out.mono ?_; rintro e w' ⟨rfl, rfl⟩)
    go_ret
    exact ⟨rfl, Below.refl _ _⟩
  have hfit := szR_fit (zss := zss) (by omega)
  have HL : Hid (∀ j, j < zss.length → (gR zss j).length ≤ 1048576) := Lib.hid (fun j hj => by have := totR_row zss hj; omega)
  have HR : Hid (∀ j, j < zss.length → (gR zss j).length ≤ 9223372036854775807) := Lib.hid (fun j hj => Nat.le_trans (HL.out j hj) (by omega))
  have h2 : zss.length ≤ 1048576 := by omega
  have ht2 : totR zss zss.length ≤ 1048576 := by omega
  clear hq hm hfit hrl
  have HB := Lib.hid (Below.refl w.heap.size w)
  have l12 := bsV_len zss miss
  obtain ⟨LL, hL⟩ : ∃ x, bsV zss miss = x := ⟨_, rfl⟩
  rw [hL] at l12
  obtain ⟨qq, hqq⟩ : ∃ x, coC zss miss = x := ⟨_, rfl⟩
  have S1 : Hid (∀ (W : World) (a : Option Addr) (c : Nat), RwL W W.heap.size a zss → Calls Try.prog 31 #[.slice a zss.length c, .int .i64 miss] W fun e w' => ∃ (g : Option Addr) (k : Nat), e = .returned (.tuple #[.slice g LL.length k, .int .i64 qq]) ∧ OwnA w' W.heap.size w'.heap.size g k LL ∧ Below W.heap.size W w') := Lib.hid (fun W a c h1 => by have := sbp_any W a c _ zss rfl (by omega) HR.out h1 miss; rwa [hL, hqq] at this)
  have S2 : Hid (∀ (W : World) (a : Option Addr) (c : Nat), RwL W W.heap.size a zss → Calls Try.prog 30 #[.slice a zss.length c, .int .i64 miss] W fun e w' => ∃ (g : Option Addr) (k : Nat), e = .returned (.tuple #[.slice g LL.length k, .int .i64 qq]) ∧ OwnA w' W.heap.size w'.heap.size g k LL ∧ Below W.heap.size W w') := Lib.hid (fun W a c h1 => by have := ibp_any W a c _ zss rfl (by omega) HR.out h1 miss; rwa [hL, hqq] at this)
  clear hqq hL
  go_enter Try.func10, Try.ntmps10
  go_wp2_with (go_at_call 50; refine K.out.mono ?_; rintro e w' ⟨rfl, rfl⟩)
  clear K
  go_wp2_with fail
  refine (tos_any _ _ _ zss h2 HL.out HX.out.rows).mono ?_
  rintro e w1 ⟨GSX, QSX, rfl, ho, hb⟩
  replace HX := Lib.hid (HX.out.on hb)
  replace HB := Lib.hid (bel_end HB.out hb)
  have q1 := hb.size
  have SX := Lib.hid ho
  clear ho hb
  go_wp2_with fail
  refine (S1.out _ _ _ SX.out.rows).mono ?_
  rintro e w2 ⟨RSa, RSc, rfl, ho, hb⟩
  replace HX := Lib.hid (HX.out.on hb)
  replace SX := Lib.hid (SX.out.on hb)
  replace HB := Lib.hid (bel_end HB.out hb)
  have q2 := hb.size
  have RS := Lib.hid ho
  clear ho hb
  clear SX
  go_wp2_with fail
  refine (tos_any _ _ _ zss h2 HL.out HX.out.rows).mono ?_
  rintro e w3 ⟨GYX, QYX, rfl, ho, hb⟩
  replace HX := Lib.hid (HX.out.on hb)
  replace RS := Lib.hid (RS.out.on hb)
  replace HB := Lib.hid (bel_end HB.out hb)
  have q3 := hb.size
  have YX := Lib.hid ho
  clear ho hb
  go_wp2_with fail
  refine (S2.out _ _ _ YX.out.rows).mono ?_
  rintro e w4 ⟨RGa, RGc, rfl, ho, hb⟩
  replace HX := Lib.hid (HX.out.on hb)
  replace RS := Lib.hid (RS.out.on hb)
  replace YX := Lib.hid (YX.out.on hb)
  replace HB := Lib.hid (bel_end HB.out hb)
  have q4 := hb.size
  have RG := Lib.hid ho
  clear ho hb
  go_wp2_with fail
  refine (eql_any _ _ _ _ _ LL (by omega) RG.out.ints RS.out.ints).mono ?_
  rintro e w5 ⟨rfl, hb⟩
  replace HX := Lib.hid (HX.out.on hb)
  replace RS := Lib.hid (RS.out.on hb)
  replace YX := Lib.hid (YX.out.on hb)
  replace RG := Lib.hid (RG.out.on hb)
  replace HB := Lib.hid (bel_end HB.out hb)
  have q5 := hb.size
  clear hb
  go_wp2_with fail
  refine (tos_any _ _ _ zss h2 HL.out HX.out.rows).mono ?_
  rintro e w6 ⟨GC, QC, rfl, ho, hb⟩
  replace HX := Lib.hid (HX.out.on hb)
  replace RS := Lib.hid (RS.out.on hb)
  replace YX := Lib.hid (YX.out.on hb)
  replace RG := Lib.hid (RG.out.on hb)
  replace HB := Lib.hid (bel_end HB.out hb)
  have q6 := hb.size
  have C := Lib.hid ho
  clear ho hb
  go_wp2_with fail
  refine (eqS2_any _ _ _ _ _ zss h2 HL.out YX.out.rows C.out.rows).mono ?_
  rintro e w7 ⟨rfl, hb⟩
  replace HX := Lib.hid (HX.out.on hb)
  replace RS := Lib.hid (RS.out.on hb)
  replace YX := Lib.hid (YX.out.on hb)
  replace RG := Lib.hid (RG.out.on hb)
  replace C := Lib.hid (C.out.on hb)
  replace HB := Lib.hid (bel_end HB.out hb)
  have q7 := hb.size
  clear hb
  clear C
  go_wp2_with fail
  refine (mks_any _ _ _ _ _ _ zss 1 YX.out (by omega) (by omega) (by omega) (by omega)).mono ?_
  rintro e w8 ⟨rfl, ho, hk⟩
  replace HX := Lib.hid (HX.out.kept hk (by omega) (by omega))
  replace RS := Lib.hid (RS.out.kept hk (by omega))
  replace RG := Lib.hid (RG.out.kept hk (by omega))
  replace HB := Lib.hid (HB.out.trans ((hk.below (by omega)).mono (by omega)))
  clear ho
  have q8 := hk.size
  clear hk
  clear YX
  go_wp2_with fail
  refine (eql_any _ _ _ _ _ LL (by omega) RG.out.ints RS.out.ints).mono ?_
  rintro e w9 ⟨rfl, hb⟩
  replace HX := Lib.hid (HX.out.on hb)
  replace RS := Lib.hid (RS.out.on hb)
  replace RG := Lib.hid (RG.out.on hb)
  replace HB := Lib.hid (bel_end HB.out hb)
  have q9 := hb.size
  clear hb
  go_wp2_with fail
  refine (mka_any _ _ _ _ _ LL 1 RG.out (by omega) (by omega) (by omega)).mono ?_
  rintro e w10 ⟨rfl, ho, hk⟩
  replace HX := Lib.hid (HX.out.kept hk (by omega) (by omega))
  replace RS := Lib.hid (RS.out.kept hk (by omega))
  replace HB := Lib.hid (HB.out.trans ((hk.below (by omega)).mono (by omega)))
  replace RG := Lib.hid ho
  have q10 := hk.size
  clear ho hk
  go_wp2_with fail
  refine (hdi_any _ _ _ _ LL.length 1 RG.out.ints (by omega) (by omega) (by omega)).mono ?_
  rintro e w_ ⟨rfl, rfl⟩
  go_wp2_with fail
  refine (tos_any _ _ _ zss h2 HL.out HX.out.rows).mono ?_
  rintro e w11 ⟨GZX, QZX, rfl, ho, hb⟩
  replace HX := Lib.hid (HX.out.on hb)
  replace RS := Lib.hid (RS.out.on hb)
  replace RG := Lib.hid (RG.out.on hb)
  replace HB := Lib.hid (bel_end HB.out hb)
  have q11 := hb.size
  have ZX := Lib.hid ho
  clear ho hb
  go_wp2_with fail
  refine (S2.out _ _ _ ZX.out.rows).mono ?_
  rintro e w12 ⟨RHa, RHc, rfl, ho, hb⟩
  replace HX := Lib.hid (HX.out.on hb)
  replace RS := Lib.hid (RS.out.on hb)
  replace RG := Lib.hid (RG.out.on hb)
  replace ZX := Lib.hid (ZX.out.on hb)
  replace HB := Lib.hid (bel_end HB.out hb)
  have q12 := hb.size
  have RH := Lib.hid ho
  clear ho hb
  clear ZX
  go_wp2_with fail
  refine (eql_any _ _ _ _ _ LL (by omega) RH.out.ints RS.out.ints).mono ?_
  rintro e w13 ⟨rfl, hb⟩
  replace HX := Lib.hid (HX.out.on hb)
  replace RS := Lib.hid (RS.out.on hb)
  replace RG := Lib.hid (RG.out.on hb)
  replace RH := Lib.hid (RH.out.on hb)
  replace HB := Lib.hid (bel_end HB.out hb)
  have q13 := hb.size
  clear hb
  clear RH
  go_wp2_with fail
  refine (hdi_any _ _ _ _ LL.length 1 RG.out.ints (by omega) (by omega) (by omega)).mono ?_
  rintro e w_ ⟨rfl, rfl⟩
  go_wp2
  go_ret
  exact ⟨rfl, HB.out⟩

set_option maxRecDepth 100000 in
set_option maxHeartbeats 8000000 in
theorem lpgr (a0 : Option Addr) (len0 cap0 : Nat) (z0 : List (List Int)) (miss : Int) (w : World) (w0 : IsRows w a0 len0 cap0 z0) (w1 : (Lit.int .i64 miss).wf = true) :
    Calls Try.prog 12 #[.slice a0 len0 cap0, .int .i64 miss] w fun e w' => e = .returned (.bool true) ∧ Below w.heap.size w w' := by
  obtain ⟨hm, hlen, hz, hrl⟩ := RwL.of_rows w0
  obtain ⟨zss, hzs⟩ : ∃ zss, z0.take len0 = zss := ⟨_, rfl⟩
  rw [hzs] at hz hlen hrl
  subst hlen
  clear hzs w0
  clear w1
  have HX := Lib.hid (RwX.of hz)
  have K := Lib.hid (szs_any w _ a0 cap0 zss 1048576 hm hrl (by omega) (by omega) hz)
  clear hz
  obtain ⟨q, hq⟩ : ∃ q, szR zss 1048576 = q := ⟨_, rfl⟩
  rw [hq] at K
  by_cases hneg : q < 0
  · go_enter Try.func12, Try.ntmps12
    go_wp2_with (go_at_call 50; refine K.out.mono ?_; rintro e w' ⟨rfl, rfl⟩)
    go_ret
    exact ⟨rfl, Below.refl _ _⟩
  have hfit := szR_fit (zss := zss) (by omega)
  have HL : Hid (∀ j, j < zss.length → (gR zss j).length ≤ 1048576) := Lib.hid (fun j hj => by have := totR_row zss hj; omega)
  have HR : Hid (∀ j, j < zss.length → (gR zss j).length ≤ 9223372036854775807) := Lib.hid (fun j hj => Nat.le_trans (HL.out j hj) (by omega))
  have h2 : zss.length ≤ 1048576 := by omega
  have ht2 : totR zss zss.length ≤ 1048576 := by omega
  clear hq hm hfit hrl
  have HB := Lib.hid (Below.refl w.heap.size w)
  have l12 := grW_len zss miss
  obtain ⟨LL, hL⟩ : ∃ x, grW zss miss = x := ⟨_, rfl⟩
  rw [hL] at l12
  obtain ⟨qq, hqq⟩ : ∃ x, coC zss miss = x := ⟨_, rfl⟩
  have S1 : Hid (∀ (W : World) (a : Option Addr) (c : Nat), RwL W W.heap.size a zss → Calls Try.prog 40 #[.slice a zss.length c, .int .i64 miss] W fun e w' => ∃ (g : Option Addr) (k : Nat), e = .returned (.tuple #[.slice g LL.length k, .int .i64 qq]) ∧ OwnA w' W.heap.size w'.heap.size g k LL ∧ Below W.heap.size W w') := Lib.hid (fun W a c h1 => by have := sgr_any W a c _ zss rfl (by omega) HR.out h1 miss; rwa [hL, hqq] at this)
  have S2 : Hid (∀ (W : World) (a : Option Addr) (c : Nat), RwL W W.heap.size a zss → Calls Try.prog 39 #[.slice a zss.length c, .int .i64 miss] W fun e w' => ∃ (g : Option Addr) (k : Nat), e = .returned (.tuple #[.slice g LL.length k, .int .i64 qq]) ∧ OwnA w' W.heap.size w'.heap.size g k LL ∧ Below W.heap.size W w') := Lib.hid (fun W a c h1 => by have := igr_any W a c _ zss rfl (by omega) HR.out h1 miss; rwa [hL, hqq] at this)
  clear hqq hL
  go_enter Try.func12, Try.ntmps12
  go_wp2_with (go_at_call 50; refine K.out.mono ?_; rintro e w' ⟨rfl, rfl⟩)
  clear K
  go_wp2_with fail
  refine (tos_any _ _ _ zss h2 HL.out HX.out.rows).mono ?_
  rintro e w1 ⟨GSX, QSX, rfl, ho, hb⟩
  replace HX := Lib.hid (HX.out.on hb)
  replace HB := Lib.hid (bel_end HB.out hb)
  have q1 := hb.size
  have SX := Lib.hid ho
  clear ho hb
  go_wp2_with fail
  refine (S1.out _ _ _ SX.out.rows).mono ?_
  rintro e w2 ⟨RSa, RSc, rfl, ho, hb⟩
  replace HX := Lib.hid (HX.out.on hb)
  replace SX := Lib.hid (SX.out.on hb)
  replace HB := Lib.hid (bel_end HB.out hb)
  have q2 := hb.size
  have RS := Lib.hid ho
  clear ho hb
  clear SX
  go_wp2_with fail
  refine (tos_any _ _ _ zss h2 HL.out HX.out.rows).mono ?_
  rintro e w3 ⟨GYX, QYX, rfl, ho, hb⟩
  replace HX := Lib.hid (HX.out.on hb)
  replace RS := Lib.hid (RS.out.on hb)
  replace HB := Lib.hid (bel_end HB.out hb)
  have q3 := hb.size
  have YX := Lib.hid ho
  clear ho hb
  go_wp2_with fail
  refine (S2.out _ _ _ YX.out.rows).mono ?_
  rintro e w4 ⟨RGa, RGc, rfl, ho, hb⟩
  replace HX := Lib.hid (HX.out.on hb)
  replace RS := Lib.hid (RS.out.on hb)
  replace YX := Lib.hid (YX.out.on hb)
  replace HB := Lib.hid (bel_end HB.out hb)
  have q4 := hb.size
  have RG := Lib.hid ho
  clear ho hb
  go_wp2_with fail
  refine (eql_any _ _ _ _ _ LL (by omega) RG.out.ints RS.out.ints).mono ?_
  rintro e w5 ⟨rfl, hb⟩
  replace HX := Lib.hid (HX.out.on hb)
  replace RS := Lib.hid (RS.out.on hb)
  replace YX := Lib.hid (YX.out.on hb)
  replace RG := Lib.hid (RG.out.on hb)
  replace HB := Lib.hid (bel_end HB.out hb)
  have q5 := hb.size
  clear hb
  go_wp2_with fail
  refine (tos_any _ _ _ zss h2 HL.out HX.out.rows).mono ?_
  rintro e w6 ⟨GC, QC, rfl, ho, hb⟩
  replace HX := Lib.hid (HX.out.on hb)
  replace RS := Lib.hid (RS.out.on hb)
  replace YX := Lib.hid (YX.out.on hb)
  replace RG := Lib.hid (RG.out.on hb)
  replace HB := Lib.hid (bel_end HB.out hb)
  have q6 := hb.size
  have C := Lib.hid ho
  clear ho hb
  go_wp2_with fail
  refine (eqS2_any _ _ _ _ _ zss h2 HL.out YX.out.rows C.out.rows).mono ?_
  rintro e w7 ⟨rfl, hb⟩
  replace HX := Lib.hid (HX.out.on hb)
  replace RS := Lib.hid (RS.out.on hb)
  replace YX := Lib.hid (YX.out.on hb)
  replace RG := Lib.hid (RG.out.on hb)
  replace C := Lib.hid (C.out.on hb)
  replace HB := Lib.hid (bel_end HB.out hb)
  have q7 := hb.size
  clear hb
  clear C
  go_wp2_with fail
  refine (mks_any _ _ _ _ _ _ zss 1 YX.out (by omega) (by omega) (by omega) (by omega)).mono ?_
  rintro e w8 ⟨rfl, ho, hk⟩
  replace HX := Lib.hid (HX.out.kept hk (by omega) (by omega))
  replace RS := Lib.hid (RS.out.kept hk (by omega))
  replace RG := Lib.hid (RG.out.kept hk (by omega))
  replace HB := Lib.hid (HB.out.trans ((hk.below (by omega)).mono (by omega)))
  clear ho
  have q8 := hk.size
  clear hk
  clear YX
  go_wp2_with fail
  refine (eql_any _ _ _ _ _ LL (by omega) RG.out.ints RS.out.ints).mono ?_
  rintro e w9 ⟨rfl, hb⟩
  replace HX := Lib.hid (HX.out.on hb)
  replace RS := Lib.hid (RS.out.on hb)
  replace RG := Lib.hid (RG.out.on hb)
  replace HB := Lib.hid (bel_end HB.out hb)
  have q9 := hb.size
  clear hb
  go_wp2_with fail
  refine (mka_any _ _ _ _ _ LL 1 RG.out (by omega) (by omega) (by omega)).mono ?_
  rintro e w10 ⟨rfl, ho, hk⟩
  replace HX := Lib.hid (HX.out.kept hk (by omega) (by omega))
  replace RS := Lib.hid (RS.out.kept hk (by omega))
  replace HB := Lib.hid (HB.out.trans ((hk.below (by omega)).mono (by omega)))
  replace RG := Lib.hid ho
  have q10 := hk.size
  clear ho hk
  go_wp2_with fail
  refine (hdi_any _ _ _ _ LL.length 1 RG.out.ints (by omega) (by omega) (by omega)).mono ?_
  rintro e w_ ⟨rfl, rfl⟩
  go_wp2_with fail
  refine (tos_any _ _ _ zss h2 HL.out HX.out.rows).mono ?_
  rintro e w11 ⟨GZX, QZX, rfl, ho, hb⟩
  replace HX := Lib.hid (HX.out.on hb)
  replace RS := Lib.hid (RS.out.on hb)
  replace RG := Lib.hid (RG.out.on hb)
  replace HB := Lib.hid (bel_end HB.out hb)
  have q11 := hb.size
  have ZX := Lib.hid ho
  clear ho hb
  go_wp2_with fail
  refine (S2.out _ _ _ ZX.out.rows).mono ?_
  rintro e w12 ⟨RHa, RHc, rfl, ho, hb⟩
  replace HX := Lib.hid (HX.out.on hb)
  replace RS := Lib.hid (RS.out.on hb)
  replace RG := Lib.hid (RG.out.on hb)
  replace ZX := Lib.hid (ZX.out.on hb)
  replace HB := Lib.hid (bel_end HB.out hb)
  have q12 := hb.size
  have RH := Lib.hid ho
  clear ho hb
  clear ZX
  go_wp2_with fail
  refine (eql_any _ _ _ _ _ LL (by omega) RH.out.ints RS.out.ints).mono ?_
  rintro e w13 ⟨rfl, hb⟩
  replace HX := Lib.hid (HX.out.on hb)
  replace RS := Lib.hid (RS.out.on hb)
  replace RG := Lib.hid (RG.out.on hb)
  replace RH := Lib.hid (RH.out.on hb)
  replace HB := Lib.hid (bel_end HB.out hb)
  have q13 := hb.size
  clear hb
  clear RH
  go_wp2_with fail
  refine (hdi_any _ _ _ _ LL.length 1 RG.out.ints (by omega) (by omega) (by omega)).mono ?_
  rintro e w_ ⟨rfl, rfl⟩
  go_wp2
  go_ret
  exact ⟨rfl, HB.out⟩

set_option maxRecDepth 100000 in
set_option maxHeartbeats 8000000 in
theorem lpfc (a0 : Option Addr) (len0 cap0 : Nat) (z0 : List (List Int)) (a2 : Option Addr) (len2 cap2 : Nat) (z2 : List Int) (w : World) (w0 : IsRows w a0 len0 cap0 z0) (w2 : IsRow .i64 w a2 len2 cap2 z2) :
    Calls Try.prog 15 #[.slice a0 len0 cap0, .slice a2 len2 cap2] w fun e w' => e = .returned (.bool true) ∧ Below w.heap.size w w' := by
  obtain ⟨hm, hlen, hz, hrl⟩ := RwL.of_rows w0
  obtain ⟨zss, hzs⟩ : ∃ zss, z0.take len0 = zss := ⟨_, rfl⟩
  rw [hzs] at hz hlen hrl
  subst hlen
  clear hzs w0
  obtain ⟨hm2, hlen, hy, -⟩ := Ints.of_row w2
  obtain ⟨ps, hzs⟩ : ∃ zs, z2.take len2 = zs := ⟨_, rfl⟩
  rw [hzs] at hy hlen
  subst hlen
  clear hzs w2
  have HP := Lib.hid (IntL.of hy)
  clear hy
  by_cases hbp : 1048576 < ps.length
  · go_enter Try.func15, Try.ntmps15
    go_wp2
    go_ret
    exact ⟨rfl, Below.refl _ _⟩
  have HX := Lib.hid (RwX.of hz)
  have K := Lib.hid (szs_any w _ a0 cap0 zss 1048576 hm hrl (by omega) (by omega) hz)
  clear hz
  obtain ⟨q, hq⟩ : ∃ q, szR zss 1048576 = q := ⟨_, rfl⟩
  rw [hq] at K
  by_cases hneg : q < 0
  · go_enter Try.func15, Try.ntmps15
    go_wp2_with (go_at_call 50; refine K.out.mono ?_; rintro e w' ⟨rfl, rfl⟩)
    go_ret
    exact ⟨rfl, Below.refl _ _⟩
  have hfit := szR_fit (zss := zss) (by omega)
  have HL : Hid (∀ j, j < zss.length → (gR zss j).length ≤ 1048576) := Lib.hid (fun j hj => by have := totR_row zss hj; omega)
  have HR : Hid (∀ j, j < zss.length → (gR zss j).length ≤ 9223372036854775807) := Lib.hid (fun j hj => Nat.le_trans (HL.out j hj) (by omega))
  have h2 : zss.length ≤ 1048576 := by omega
  have ht2 : totR zss zss.length ≤ 1048576 := by omega
  clear hq hm hfit hrl
  have HB := Lib.hid (Below.refl w.heap.size w)
  have l12 := fcV_len zss ps
  obtain ⟨LL, hL⟩ : ∃ x, fcV zss ps = x := ⟨_, rfl⟩
  rw [hL] at l12
  obtain ⟨qq, hqq⟩ : ∃ x, fcC zss ps = x := ⟨_, rfl⟩
  have S1 : Hid (∀ (W : World) (a b : Option Addr) (c d : Nat), RwL W W.heap.size a zss → ps.length ≤ d → Ints .i64 W W.heap.size b ps → Calls Try.prog 43 #[.slice a zss.length c, .slice b ps.length d] W fun e w' => ∃ (g : Option Addr) (k : Nat), e = .returned (.tuple #[.slice g LL.length k, .int .i64 qq]) ∧ OwnA w' W.heap.size w'.heap.size g k LL ∧ Below W.heap.size W w') := Lib.hid (fun W a b c d h1 hd h3 => by have := sfc_any W a c _ zss rfl (by omega) HR.out h1 b d _ ps rfl (by omega) hd h3; rwa [hL, hqq] at this)
  have S2 : Hid (∀ (W : World) (a b : Option Addr) (c d : Nat), RwL W W.heap.size a zss → ps.length ≤ d → Ints .i64 W W.heap.size b ps → Calls Try.prog 42 #[.slice a zss.length c, .slice b ps.length d] W fun e w' => ∃ (g : Option Addr) (k : Nat), e = .returned (.tuple #[.slice g LL.length k, .int .i64 qq]) ∧ OwnA w' W.heap.size w'.heap.size g k LL ∧ Below W.heap.size W w') := Lib.hid (fun W a b c d h1 hd h3 => by have := ifc_any W a c _ zss rfl (by omega) HR.out h1 b d _ ps rfl (by omega) h3; rwa [hL, hqq] at this)
  clear hqq hL
  go_enter Try.func15, Try.ntmps15
  go_wp2_with (go_at_call 50; refine K.out.mono ?_; rintro e w' ⟨rfl, rfl⟩)
  clear K
  go_wp2_with fail
  refine (tos_any _ _ _ zss h2 HL.out HX.out.rows).mono ?_
  rintro e w1 ⟨GSX, QSX, rfl, ho, hb⟩
  replace HX := Lib.hid (HX.out.on hb)
  replace HP := Lib.hid (HP.out.on hb)
  replace HB := Lib.hid (bel_end HB.out hb)
  have q1 := hb.size
  have SX := Lib.hid ho
  clear ho hb
  go_wp2_with fail
  refine (to_any _ _ _ ps (by omega) HP.out.ints).mono ?_
  rintro e w2 ⟨g2, rfl, hg, hr, hb⟩
  replace HX := Lib.hid (HX.out.on hb)
  replace HP := Lib.hid (HP.out.on hb)
  replace SX := Lib.hid (SX.out.on hb)
  replace HB := Lib.hid (bel_end HB.out hb)
  have q2 := hb.size
  have SP := Lib.hid (ownA_new hr hg (by omega))
  clear hb hg hr
  go_wp2_with fail
  refine (S1.out _ _ _ _ _ SX.out.rows (ownA_cap SP.out) SP.out.ints).mono ?_
  rintro e w3 ⟨RSa, RSc, rfl, ho, hb⟩
  replace HX := Lib.hid (HX.out.on hb)
  replace HP := Lib.hid (HP.out.on hb)
  replace SX := Lib.hid (SX.out.on hb)
  replace SP := Lib.hid (SP.out.on hb)
  replace HB := Lib.hid (bel_end HB.out hb)
  have q3 := hb.size
  have RS := Lib.hid ho
  clear ho hb
  clear SX SP
  go_wp2_with fail
  refine (tos_any _ _ _ zss h2 HL.out HX.out.rows).mono ?_
  rintro e w4 ⟨GYX, QYX, rfl, ho, hb⟩
  replace HX := Lib.hid (HX.out.on hb)
  replace HP := Lib.hid (HP.out.on hb)
  replace RS := Lib.hid (RS.out.on hb)
  replace HB := Lib.hid (bel_end HB.out hb)
  have q4 := hb.size
  have YX := Lib.hid ho
  clear ho hb
  go_wp2_with fail
  refine (to_any _ _ _ ps (by omega) HP.out.ints).mono ?_
  rintro e w5 ⟨g5, rfl, hg, hr, hb⟩
  replace HX := Lib.hid (HX.out.on hb)
  replace HP := Lib.hid (HP.out.on hb)
  replace RS := Lib.hid (RS.out.on hb)
  replace YX := Lib.hid (YX.out.on hb)
  replace HB := Lib.hid (bel_end HB.out hb)
  have q5 := hb.size
  have YP := Lib.hid (ownA_new hr hg (by omega))
  clear hb hg hr
  go_wp2_with fail
  refine (S2.out _ _ _ _ _ YX.out.rows (ownA_cap YP.out) YP.out.ints).mono ?_
  rintro e w6 ⟨RGa, RGc, rfl, ho, hb⟩
  replace HX := Lib.hid (HX.out.on hb)
  replace HP := Lib.hid (HP.out.on hb)
  replace RS := Lib.hid (RS.out.on hb)
  replace YX := Lib.hid (YX.out.on hb)
  replace YP := Lib.hid (YP.out.on hb)
  replace HB := Lib.hid (bel_end HB.out hb)
  have q6 := hb.size
  have RG := Lib.hid ho
  clear ho hb
  go_wp2_with fail
  refine (eql_any _ _ _ _ _ LL (by omega) RG.out.ints RS.out.ints).mono ?_
  rintro e w7 ⟨rfl, hb⟩
  replace HX := Lib.hid (HX.out.on hb)
  replace HP := Lib.hid (HP.out.on hb)
  replace RS := Lib.hid (RS.out.on hb)
  replace YX := Lib.hid (YX.out.on hb)
  replace YP := Lib.hid (YP.out.on hb)
  replace RG := Lib.hid (RG.out.on hb)
  replace HB := Lib.hid (bel_end HB.out hb)
  have q7 := hb.size
  clear hb
  go_wp2_with fail
  refine (tos_any _ _ _ zss h2 HL.out HX.out.rows).mono ?_
  rintro e w8 ⟨GC, QC, rfl, ho, hb⟩
  replace HX := Lib.hid (HX.out.on hb)
  replace HP := Lib.hid (HP.out.on hb)
  replace RS := Lib.hid (RS.out.on hb)
  replace YX := Lib.hid (YX.out.on hb)
  replace YP := Lib.hid (YP.out.on hb)
  replace RG := Lib.hid (RG.out.on hb)
  replace HB := Lib.hid (bel_end HB.out hb)
  have q8 := hb.size
  have C := Lib.hid ho
  clear ho hb
  go_wp2_with fail
  refine (eqS2_any _ _ _ _ _ zss h2 HL.out YX.out.rows C.out.rows).mono ?_
  rintro e w9 ⟨rfl, hb⟩
  replace HX := Lib.hid (HX.out.on hb)
  replace HP := Lib.hid (HP.out.on hb)
  replace RS := Lib.hid (RS.out.on hb)
  replace YX := Lib.hid (YX.out.on hb)
  replace YP := Lib.hid (YP.out.on hb)
  replace RG := Lib.hid (RG.out.on hb)
  replace C := Lib.hid (C.out.on hb)
  replace HB := Lib.hid (bel_end HB.out hb)
  have q9 := hb.size
  clear hb
  clear C
  go_wp2_with fail
  refine (to_any _ _ _ ps (by omega) HP.out.ints).mono ?_
  rintro e w10 ⟨g10, rfl, hg, hr, hb⟩
  replace HX := Lib.hid (HX.out.on hb)
  replace HP := Lib.hid (HP.out.on hb)
  replace RS := Lib.hid (RS.out.on hb)
  replace YX := Lib.hid (YX.out.on hb)
  replace YP := Lib.hid (YP.out.on hb)
  replace RG := Lib.hid (RG.out.on hb)
  replace HB := Lib.hid (bel_end HB.out hb)
  have q10 := hb.size
  have C := Lib.hid (ownA_new hr hg (by omega))
  clear hb hg hr
  go_wp2_with fail
  refine (eql_any _ _ _ _ _ ps (by omega) YP.out.ints C.out.ints).mono ?_
  rintro e w11 ⟨rfl, hb⟩
  replace HX := Lib.hid (HX.out.on hb)
  replace HP := Lib.hid (HP.out.on hb)
  replace RS := Lib.hid (RS.out.on hb)
  replace YX := Lib.hid (YX.out.on hb)
  replace YP := Lib.hid (YP.out.on hb)
  replace RG := Lib.hid (RG.out.on hb)
  replace C := Lib.hid (C.out.on hb)
  replace HB := Lib.hid (bel_end HB.out hb)
  have q11 := hb.size
  clear hb
  clear C
  go_wp2_with fail
  refine (mks_any _ _ _ _ _ _ zss 1 YX.out (by omega) (by omega) (by omega) (by omega)).mono ?_
  rintro e w12 ⟨rfl, ho, hk⟩
  replace HX := Lib.hid (HX.out.kept hk (by omega) (by omega))
  replace HP := Lib.hid (HP.out.kept hk (by omega) (by omega))
  replace RS := Lib.hid (RS.out.kept hk (by omega))
  replace YP := Lib.hid (YP.out.kept hk (by omega))
  replace RG := Lib.hid (RG.out.kept hk (by omega))
  replace HB := Lib.hid (HB.out.trans ((hk.below (by omega)).mono (by omega)))
  clear ho
  have q12 := hk.size
  clear hk
  clear YX
  go_wp2_with fail
  refine (mka_any _ _ _ _ _ ps (1 + (totR zss zss.length : Int)) YP.out (by omega) (by omega) (by omega)).mono ?_
  rintro e w13 ⟨rfl, ho, hk⟩
  replace HX := Lib.hid (HX.out.kept hk (by omega) (by omega))
  replace HP := Lib.hid (HP.out.kept hk (by omega) (by omega))
  replace RS := Lib.hid (RS.out.kept hk (by omega))
  replace RG := Lib.hid (RG.out.kept hk (by omega))
  replace HB := Lib.hid (HB.out.trans ((hk.below (by omega)).mono (by omega)))
  replace YP := Lib.hid ho
  have q13 := hk.size
  clear ho hk
  clear YP
  go_wp2_with fail
  refine (eql_any _ _ _ _ _ LL (by omega) RG.out.ints RS.out.ints).mono ?_
  rintro e w14 ⟨rfl, hb⟩
  replace HX := Lib.hid (HX.out.on hb)
  replace HP := Lib.hid (HP.out.on hb)
  replace RS := Lib.hid (RS.out.on hb)
  replace RG := Lib.hid (RG.out.on hb)
  replace HB := Lib.hid (bel_end HB.out hb)
  have q14 := hb.size
  clear hb
  go_wp2_with fail
  refine (mka_any _ _ _ _ _ LL 1 RG.out (by omega) (by omega) (by omega)).mono ?_
  rintro e w15 ⟨rfl, ho, hk⟩
  replace HX := Lib.hid (HX.out.kept hk (by omega) (by omega))
  replace HP := Lib.hid (HP.out.kept hk (by omega) (by omega))
  replace RS := Lib.hid (RS.out.kept hk (by omega))
  replace HB := Lib.hid (HB.out.trans ((hk.below (by omega)).mono (by omega)))
  replace RG := Lib.hid ho
  have q15 := hk.size
  clear ho hk
  go_wp2_with fail
  refine (hdi_any _ _ _ _ LL.length 1 RG.out.ints (by omega) (by omega) (by omega)).mono ?_
  rintro e w_ ⟨rfl, rfl⟩
  go_wp2_with fail
  refine (tos_any _ _ _ zss h2 HL.out HX.out.rows).mono ?_
  rintro e w16 ⟨GZX, QZX, rfl, ho, hb⟩
  replace HX := Lib.hid (HX.out.on hb)
  replace HP := Lib.hid (HP.out.on hb)
  replace RS := Lib.hid (RS.out.on hb)
  replace RG := Lib.hid (RG.out.on hb)
  replace HB := Lib.hid (bel_end HB.out hb)
  have q16 := hb.size
  have ZX := Lib.hid ho
  clear ho hb
  go_wp2_with fail
  refine (to_any _ _ _ ps (by omega) HP.out.ints).mono ?_
  rintro e w17 ⟨g17, rfl, hg, hr, hb⟩
  replace HX := Lib.hid (HX.out.on hb)
  replace HP := Lib.hid (HP.out.on hb)
  replace RS := Lib.hid (RS.out.on hb)
  replace RG := Lib.hid (RG.out.on hb)
  replace ZX := Lib.hid (ZX.out.on hb)
  replace HB := Lib.hid (bel_end HB.out hb)
  have q17 := hb.size
  have ZP := Lib.hid (ownA_new hr hg (by omega))
  clear hb hg hr
  go_wp2_with fail
  refine (S2.out _ _ _ _ _ ZX.out.rows (ownA_cap ZP.out) ZP.out.ints).mono ?_
  rintro e w18 ⟨RHa, RHc, rfl, ho, hb⟩
  replace HX := Lib.hid (HX.out.on hb)
  replace HP := Lib.hid (HP.out.on hb)
  replace RS := Lib.hid (RS.out.on hb)
  replace RG := Lib.hid (RG.out.on hb)
  replace ZX := Lib.hid (ZX.out.on hb)
  replace ZP := Lib.hid (ZP.out.on hb)
  replace HB := Lib.hid (bel_end HB.out hb)
  have q18 := hb.size
  have RH := Lib.hid ho
  clear ho hb
  clear ZX ZP
  go_wp2_with fail
  refine (eql_any _ _ _ _ _ LL (by omega) RH.out.ints RS.out.ints).mono ?_
  rintro e w19 ⟨rfl, hb⟩
  replace HX := Lib.hid (HX.out.on hb)
  replace HP := Lib.hid (HP.out.on hb)
  replace RS := Lib.hid (RS.out.on hb)
  replace RG := Lib.hid (RG.out.on hb)
  replace RH := Lib.hid (RH.out.on hb)
  replace HB := Lib.hid (bel_end HB.out hb)
  have q19 := hb.size
  clear hb
  clear RH
  go_wp2_with fail
  refine (hdi_any _ _ _ _ LL.length 1 RG.out.ints (by omega) (by omega) (by omega)).mono ?_
  rintro e w_ ⟨rfl, rfl⟩
  go_wp2
  go_ret
  exact ⟨rfl, HB.out⟩
end Go.Proofs.Ytlahgdhofakinaa
