/- The walk of the law FnGreedyPairs over drawn data: it returns true and writes nothing that was there. -/
import Derived.Test.YtlahgdhofakinaaPrLa
namespace Go.Proofs.Ytlahgdhofakinaa
open Go.ChangeShapes Go.WideShapes Go.ChangeAt Go.RowKit Go.Shelf Num
set_option linter.unusedVariables false
set_option linter.unusedSimpArgs false

set_option maxRecDepth 100000 in
set_option maxHeartbeats 16000000 in
theorem lgps (a0 : Option Addr) (len0 cap0 : Nat) (z0 : List Int) (w : World) (w0 : IsRow .u8 w a0 len0 cap0 z0) :
    Calls Try.prog 5 #[.slice a0 len0 cap0] w fun e w' => e = .returned (.bool true) ∧ Below w.heap.size w w' := by
  obtain ⟨hlen, hcode⟩ := Code8.of_row w0
  obtain ⟨zs, hzs⟩ : ∃ zs, z0.take len0 = zs := ⟨_, rfl⟩
  rw [hzs] at hlen hcode
  subst hlen
  clear hzs w0
  have HC := Lib.hid hcode
  clear hcode
  have HB := Lib.hid (Below.refl w.heap.size w)
  by_cases hbig : 4096 < zs.length
  · have hd : decide ((4096 : Int) < (zs.length : Int)) = true := by simp; omega
    go_enter Try.func5, Try.ntmps5
    go_wp2_with (go_at_call 16; refine (big_any _ _ _ _).mono ?_; rw [hd]; rintro e w' ⟨rfl, rfl⟩)
    go_ret
    exact ⟨rfl, Below.refl _ _⟩
  have hd : decide ((4096 : Int) < (zs.length : Int)) = false := by simp; omega
  go_enter Try.func5, Try.ntmps5
  go_wp2_with (go_at_call 16; refine (big_any _ _ _ _).mono ?_; rw [hd]; rintro e w' ⟨rfl, rfl⟩)
  clear hd
  go_wp2_with fail
  refine (dgp_any _ _ _ zs ((HC.out.below HB.out (Nat.le_refl _)).more HB.out.size)).mono ?_
  rintro e w1 ⟨G, c, L, m, rfl, h8, hr8, hx, hb⟩
  replace HB := Lib.hid (bel_end HB.out hb)
  have q1 := hb.size
  have HX := Lib.hid (RwX.of hx)
  have HR : Hid (∀ j, j < L.length → (gR L j).length ≤ 9223372036854775807) := Lib.hid (fun j hj => Nat.le_trans (hr8 j hj) (by omega))
  clear hx hr8 hb
  obtain ⟨Q, hQ⟩ : ∃ u, coC L m = u := ⟨_, rfl⟩
  obtain ⟨LS, hLS⟩ : ∃ u, lsV L m = u := ⟨_, rfl⟩
  have hln := grW_len L m
  obtain ⟨LL, hLL⟩ : ∃ u, grW L m = u := ⟨_, rfl⟩
  rw [hLL] at hln
  have hfn := fcV_len L LL
  obtain ⟨FL, hFL⟩ : ∃ u, fcV L LL = u := ⟨_, rfl⟩
  rw [hFL] at hfn
  obtain ⟨SV, hSV⟩ : ∃ u, spV L m LL = u := ⟨_, rfl⟩
  have HLW := Lib.hid (fun (h : Q = 0) => law_gre (L := L) (m := m) (by rw [hQ]; exact h))
  rw [hLL, hLS, hFL, hSV] at HLW
  have KB : Hid (∀ (W : World) (a : Option Addr) (c : Nat), RwL W W.heap.size a L → Calls Try.prog 39 #[.slice a L.length c, .int .i64 m] W fun e w' => ∃ (g : Option Addr) (k : Nat), e = .returned (.tuple #[.slice g LL.length k, .int .i64 Q]) ∧ OwnA w' W.heap.size w'.heap.size g k LL ∧ Below W.heap.size W w') := Lib.hid (fun W a c h1 => by have := igr_any W a c _ L rfl (by omega) HR.out h1 m; rwa [hLL, hQ] at this)
  have KC : Hid (∀ (W : World) (a : Option Addr) (c : Nat), RwL W W.heap.size a L → Calls Try.prog 40 #[.slice a L.length c, .int .i64 m] W fun e w' => ∃ (g : Option Addr) (k : Nat), e = .returned (.tuple #[.slice g LL.length k, .int .i64 Q]) ∧ OwnA w' W.heap.size w'.heap.size g k LL ∧ Below W.heap.size W w') := Lib.hid (fun W a c h1 => by have := sgr_any W a c _ L rfl (by omega) HR.out h1 m; rwa [hLL, hQ] at this)
  have KL : Hid (∀ (W : World) (a : Option Addr) (c : Nat), RwL W W.heap.size a L → Calls Try.prog 32 #[.slice a L.length c, .int .i64 m] W fun e w' => e = .returned (.tuple #[.int .i64 LS, .int .i64 Q]) ∧ Below W.heap.size W w') := Lib.hid (fun W a c h1 => by have := ilm_any W a c _ L rfl (by omega) HR.out h1 m; rwa [hLS, hQ] at this)
  have KF : Hid (Q = 0 → ∀ (W : World) (a b : Option Addr) (c d : Nat), RwL W W.heap.size a L → Ints .i64 W W.heap.size b LL → Calls Try.prog 42 #[.slice a L.length c, .slice b LL.length d] W fun e w' => ∃ (g : Option Addr) (k : Nat), e = .returned (.tuple #[.slice g FL.length k, .int .i64 0]) ∧ OwnA w' W.heap.size w'.heap.size g k FL ∧ Below W.heap.size W w') := Lib.hid (fun h0 W a b c d h1 h3 => by have := ifc_any W a c _ L rfl (by omega) HR.out h1 b d _ LL rfl (by omega) h3; rwa [hFL, (HLW.out h0).1] at this)
  have KO : Hid (Q = 0 → ∀ (W : World) (a b : Option Addr) (c d : Nat), RwL W W.heap.size a L → Ints .i64 W W.heap.size b LL → Calls Try.prog 28 #[.slice a L.length c, .int .i64 m, .slice b LL.length d] W fun e w' => e = .returned (.tuple #[.int .i64 SV, .int .i64 0]) ∧ Below W.heap.size W w') := Lib.hid (fun h0 W a b c d h1 h3 => by have := isp_any W a c _ L rfl (by omega) HR.out h1 b d _ LL rfl (by omega) h3 m; rwa [(HLW.out h0).2.1, hSV] at this)
  clear hQ hLS hLL hFL hSV
  go_wp2_with fail
  refine (KB.out _ _ _ HX.out.rows).mono ?_
  rintro e w2 ⟨RGa, RGc, rfl, ho, hb⟩
  replace HX := Lib.hid (HX.out.on hb)
  replace HB := Lib.hid (bel_end HB.out hb)
  have q2 := hb.size
  have RG := Lib.hid ho
  clear ho hb
  go_wp2_with fail
  refine (KC.out _ _ _ HX.out.rows).mono ?_
  rintro e w3 ⟨RSa, RSc, rfl, ho, hb⟩
  replace HX := Lib.hid (HX.out.on hb)
  replace RG := Lib.hid (RG.out.on hb)
  replace HB := Lib.hid (bel_end HB.out hb)
  have q3 := hb.size
  have RS := Lib.hid ho
  clear ho hb
  go_wp2_with fail
  refine (dfc_any _ _ _ zs ((HC.out.below HB.out (Nat.le_refl _)).more HB.out.size)).mono ?_
  rintro e w4 ⟨G2, c2, L2, g2, d2, Z2, rfl, h82, hr8, hz92, hzd2, hx, hz, hb⟩
  replace HX := Lib.hid (HX.out.on hb)
  replace RG := Lib.hid (RG.out.on hb)
  replace RS := Lib.hid (RS.out.on hb)
  replace HB := Lib.hid (bel_end HB.out hb)
  have q4 := hb.size
  have HX2 := Lib.hid (RwX.of hx)
  have HP2 := Lib.hid (IntL.of hz)
  have HR2 : Hid (∀ j, j < L2.length → (gR L2 j).length ≤ 9223372036854775807) := Lib.hid (fun j hj => Nat.le_trans (hr8 j hj) (by omega))
  clear hx hr8 hb hz
  have hfn2 := fcV_len L2 Z2
  obtain ⟨F2, hF2⟩ : ∃ u, fcV L2 Z2 = u := ⟨_, rfl⟩
  rw [hF2] at hfn2
  obtain ⟨C2, hC2⟩ : ∃ u, fcC L2 Z2 = u := ⟨_, rfl⟩
  obtain ⟨P2, hP2⟩ : ∃ u, (acB L2 && prB L2 Z2) = u := ⟨_, rfl⟩
  have KG : Hid (∀ (W : World) (a b : Option Addr) (c d : Nat), RwL W W.heap.size a L2 → Z2.length ≤ d → Ints .i64 W W.heap.size b Z2 → Calls Try.prog 42 #[.slice a L2.length c, .slice b Z2.length d] W fun e w' => ∃ (g : Option Addr) (k : Nat), e = .returned (.tuple #[.slice g F2.length k, .int .i64 C2]) ∧ OwnA w' W.heap.size w'.heap.size g k F2 ∧ Below W.heap.size W w') := Lib.hid (fun W a b c d h1 hd h3 => by have := ifc_any W a c _ L2 rfl (by omega) HR2.out h1 b d _ Z2 rfl (by omega) h3; rwa [hF2, hC2] at this)
  have KH : Hid (∀ (W : World) (a b : Option Addr) (c d : Nat), RwL W W.heap.size a L2 → Z2.length ≤ d → Ints .i64 W W.heap.size b Z2 → Calls Try.prog 43 #[.slice a L2.length c, .slice b Z2.length d] W fun e w' => ∃ (g : Option Addr) (k : Nat), e = .returned (.tuple #[.slice g F2.length k, .int .i64 C2]) ∧ OwnA w' W.heap.size w'.heap.size g k F2 ∧ Below W.heap.size W w') := Lib.hid (fun W a b c d h1 hd h3 => by have := sfc_any W a c _ L2 rfl (by omega) HR2.out h1 b d _ Z2 rfl (by omega) hd h3; rwa [hF2, hC2] at this)
  have KI : Hid (∀ (W : World) (a b : Option Addr) (c d : Nat), RwL W W.heap.size a L2 → Z2.length ≤ d → Ints .i64 W W.heap.size b Z2 → Calls Try.prog 37 #[.slice a L2.length c, .slice b Z2.length d] W fun e w' => e = .returned (.bool P2) ∧ Below W.heap.size W w') := Lib.hid (fun W a b c d h1 hd h3 => by have := ipg_any W a c _ L2 rfl (by omega) HR2.out h1 b d _ Z2 rfl (by omega) h3; rwa [hP2] at this)
  have KJ : Hid (∀ (W : World) (a b : Option Addr) (c d : Nat), RwL W W.heap.size a L2 → Z2.length ≤ d → Ints .i64 W W.heap.size b Z2 → Calls Try.prog 44 #[.slice a L2.length c, .slice b Z2.length d] W fun e w' => e = .returned (.bool P2) ∧ Below W.heap.size W w') := Lib.hid (fun W a b c d h1 hd h3 => by have := sip_any W a c _ L2 rfl (by omega) HR2.out h1 b d _ Z2 rfl (by omega) hd h3; rwa [hP2] at this)
  clear hF2 hC2 hP2
  go_wp2_with fail
  refine (KG.out _ _ _ _ _ HX2.out.rows hzd2 HP2.out.ints).mono ?_
  rintro e w5 ⟨FGa, FGc, rfl, ho, hb⟩
  replace HX := Lib.hid (HX.out.on hb)
  replace RG := Lib.hid (RG.out.on hb)
  replace RS := Lib.hid (RS.out.on hb)
  replace HX2 := Lib.hid (HX2.out.on hb)
  replace HP2 := Lib.hid (HP2.out.on hb)
  replace HB := Lib.hid (bel_end HB.out hb)
  have q5 := hb.size
  have FG := Lib.hid ho
  clear ho hb
  go_wp2_with fail
  refine (KH.out _ _ _ _ _ HX2.out.rows hzd2 HP2.out.ints).mono ?_
  rintro e w6 ⟨FSa, FSc, rfl, ho, hb⟩
  replace HX := Lib.hid (HX.out.on hb)
  replace RG := Lib.hid (RG.out.on hb)
  replace RS := Lib.hid (RS.out.on hb)
  replace HX2 := Lib.hid (HX2.out.on hb)
  replace HP2 := Lib.hid (HP2.out.on hb)
  replace FG := Lib.hid (FG.out.on hb)
  replace HB := Lib.hid (bel_end HB.out hb)
  have q6 := hb.size
  have FS := Lib.hid ho
  clear ho hb
  go_wp2_with fail
  refine (lkP_any _ _ _ _ _ LL (by omega) RG.out.ints RS.out.ints).mono ?_
  rintro e w7 ⟨rfl, hb⟩
  replace HX := Lib.hid (HX.out.on hb)
  replace RG := Lib.hid (RG.out.on hb)
  replace RS := Lib.hid (RS.out.on hb)
  replace HX2 := Lib.hid (HX2.out.on hb)
  replace HP2 := Lib.hid (HP2.out.on hb)
  replace FG := Lib.hid (FG.out.on hb)
  replace FS := Lib.hid (FS.out.on hb)
  replace HB := Lib.hid (bel_end HB.out hb)
  have q7 := hb.size
  clear hb
  go_wp2_with fail
  refine (lkP_any _ _ _ _ _ F2 (by omega) FG.out.ints FS.out.ints).mono ?_
  rintro e w8 ⟨rfl, hb⟩
  replace HX := Lib.hid (HX.out.on hb)
  replace RG := Lib.hid (RG.out.on hb)
  replace RS := Lib.hid (RS.out.on hb)
  replace HX2 := Lib.hid (HX2.out.on hb)
  replace HP2 := Lib.hid (HP2.out.on hb)
  replace FG := Lib.hid (FG.out.on hb)
  replace FS := Lib.hid (FS.out.on hb)
  replace HB := Lib.hid (bel_end HB.out hb)
  have q8 := hb.size
  clear hb
  go_wp2_with fail
  refine (KI.out _ _ _ _ _ HX2.out.rows hzd2 HP2.out.ints).mono ?_
  rintro e w9 ⟨rfl, hb⟩
  replace HX := Lib.hid (HX.out.on hb)
  replace RG := Lib.hid (RG.out.on hb)
  replace RS := Lib.hid (RS.out.on hb)
  replace HX2 := Lib.hid (HX2.out.on hb)
  replace HP2 := Lib.hid (HP2.out.on hb)
  replace FG := Lib.hid (FG.out.on hb)
  replace FS := Lib.hid (FS.out.on hb)
  replace HB := Lib.hid (bel_end HB.out hb)
  have q9 := hb.size
  clear hb
  go_wp2_with fail
  refine (KJ.out _ _ _ _ _ HX2.out.rows hzd2 HP2.out.ints).mono ?_
  rintro e w10 ⟨rfl, hb⟩
  replace HX := Lib.hid (HX.out.on hb)
  replace RG := Lib.hid (RG.out.on hb)
  replace RS := Lib.hid (RS.out.on hb)
  replace HX2 := Lib.hid (HX2.out.on hb)
  replace HP2 := Lib.hid (HP2.out.on hb)
  replace FG := Lib.hid (FG.out.on hb)
  replace FS := Lib.hid (FS.out.on hb)
  replace HB := Lib.hid (bel_end HB.out hb)
  have q10 := hb.size
  clear hb
  clear HX2 HP2 FG FS KG KH KI KJ KB KC
  have hpp : (P2 != P2) = false := by simp
  by_cases h0 : Q = 0
  rotate_left
  · have hd : (Q != 0) = true := by simpa using h0
    go_wp2
    go_ret
    exact ⟨rfl, HB.out⟩
  subst h0
  obtain ⟨-, -, hle, hlen, hno⟩ := HLW.out (by trivial)
  have HLEN := Lib.hid hlen
  have HNO := Lib.hid hno
  clear hlen hno HLW
  go_wp2_with fail
  refine (KF.out (by trivial) _ _ _ _ _ HX.out.rows RG.out.ints).mono ?_
  rintro e w11 ⟨RFa, RFc, rfl, ho, hb⟩
  replace HX := Lib.hid (HX.out.on hb)
  replace RG := Lib.hid (RG.out.on hb)
  replace RS := Lib.hid (RS.out.on hb)
  replace HB := Lib.hid (bel_end HB.out hb)
  have q11 := hb.size
  have RF := Lib.hid ho
  clear ho hb
  go_wp2_with fail
  refine (KL.out _ _ _ HX.out.rows).mono ?_
  rintro e w12 ⟨rfl, hb⟩
  replace HX := Lib.hid (HX.out.on hb)
  replace RG := Lib.hid (RG.out.on hb)
  replace RS := Lib.hid (RS.out.on hb)
  replace RF := Lib.hid (RF.out.on hb)
  replace HB := Lib.hid (bel_end HB.out hb)
  have q12 := hb.size
  clear hb
  go_wp2_with fail
  refine (KO.out (by trivial) _ _ _ _ _ HX.out.rows RG.out.ints).mono ?_
  rintro e w13 ⟨rfl, hb⟩
  replace HX := Lib.hid (HX.out.on hb)
  replace RG := Lib.hid (RG.out.on hb)
  replace RS := Lib.hid (RS.out.on hb)
  replace RF := Lib.hid (RF.out.on hb)
  replace HB := Lib.hid (bel_end HB.out hb)
  have q13 := hb.size
  clear hb
  clear RG KF KL KO
  go_wp2_with fail
  obtain ⟨WL, hWL⟩ : ∃ u, u = w13 := ⟨w13, rfl⟩
  rw [← hWL]
  rw [← hWL] at HX RS RF HB
  clear hWL
  go_loopw [21] (fun i wr => ∃ k : Nat, k ≤ LL.length ∧ i = .int .i64 k ∧ ∃ q, wr = WL.drewN q) (fun i _ => LL.length - (intOf i).toNat)
  case atStart => exact ⟨0, by omega, rfl, 0, rfl⟩
  case round =>
    obtain ⟨i, hi, rfl, hm⟩ := hrel
    have HM := Lib.hid hm
    have hbm : Below WL.heap.size WL wr := by obtain ⟨q, rfl⟩ := hm; exact bel_drewN (Below.refl _ _) _
    have HXR := Lib.hid (HX.out.on hbm)
    have HBR : Hid (Below w.heap.size w wr) := Lib.hid (bel_end HB.out hbm)
    clear hm hbm
    obtain ⟨wo, rfl⟩ : ∃ u, u = wr := ⟨wr, rfl⟩
    by_cases hlt : i < LL.length
    rotate_left
    · obtain rfl : i = LL.length := by omega
      go_wp2_with fail
      go_ret
      exact ⟨rfl, HBR.out⟩
    have hil : i < L.length := by rw [← HLEN.out]; exact hlt
    have HBW0 : Hid (Below WL.heap.size WL wo) := Lib.hid (by obtain ⟨q, hq⟩ := HM.out; rw [hq]; exact bel_drewN (Below.refl _ _) _)
    obtain ⟨b, off, p, cc, heq, -, hc, hcc, -⟩ := HXR.out.rows.at_ hil
    simp only [Option.some.injEq, Addr.mk.injEq, and_true] at heq
    obtain ⟨e1, e2⟩ := heq
    subst e1 e2
    rw [Nat.zero_add] at hc
    obtain ⟨K, hK⟩ : ∃ K, (gR L i).length = K := ⟨_, rfl⟩
    have HK := Lib.hid hK
    have hKb := HR.out i hil
    rw [hK] at hc hcc hKb
    clear hK
    have HNI : Hid (∀ k : Nat, k < K → ¬ (LL.getD i 0 < 0 ∧ ((k : Int) ∈ FL) ∧ 0 ≤ (gR L i).getD k 0 ∧ (gR L i).getD k 0 < m)) := Lib.hid (fun k hk => HNO.out i k hil (by rw [HK.out]; exact hk))
    obtain ⟨b2, off2, rfl, -, -⟩ := (RS.out.on HBW0.out).ints.at_ (j := i) hlt
    have hil2 : (i : Int) < (LL.length : Int) := by omega
    have hil3 : (i : Int) < (L.length : Int) := by omega
    go_wp2_with fail
    clear hc
    go_loopw [22] (fun j wx => ∃ k : Nat, k ≤ K ∧ j = .int .i64 k ∧ ∃ q, wx = wo.drewN q) (fun j _ => K - (intOf j).toNat)
    case atStart => exact ⟨0, by omega, rfl, 0, rfl⟩
    case round =>
      obtain ⟨k, hk, rfl, hm2⟩ := hrel
      have HM2 := Lib.hid hm2
      have hbm : Below wo.heap.size wo wr := by obtain ⟨q, rfl⟩ := hm2; exact bel_drewN (Below.refl _ _) _
      obtain ⟨b', off', p', cc', heq, -, hc', hcc', hp'⟩ := (HXR.out.on hbm).rows.at_ hil
      simp only [Option.some.injEq, Addr.mk.injEq, and_true] at heq
      obtain ⟨e1, e2⟩ := heq
      subst e1 e2
      rw [HK.out] at hc' hcc'
      rw [Nat.zero_add] at hc'
      have hbw := bel_end HBW0.out hbm
      obtain ⟨b2'', off2'', heq2, -, hx⟩ := (RS.out.on hbw).ints.at_ (j := i) hlt
      simp only [Option.some.injEq, Addr.mk.injEq, and_true] at heq2
      obtain ⟨e3, e4⟩ := heq2
      subst e3 e4
      have KHI := Lib.hid (hsi_any wr _ RFa RFc FL (k : Int) (by omega) (RF.out.on hbw).ints)
      clear hbw hbm hm2
      obtain ⟨x, hxe⟩ : ∃ x, LL.getD i 0 = x := ⟨_, rfl⟩
      rw [hxe] at hx HNI
      clear hxe
      by_cases hkK : k < K
      rotate_left
      · obtain rfl : k = K := by omega
        go_wp2_with fail
        go_roundw
        case rel => exact ⟨i + 1, by omega, by go_num, by obtain ⟨q, hq⟩ := HM.out; obtain ⟨q2, hq2⟩ := HM2.out; exact ⟨_, by rw [hq2, hq]; exact World.drewN_drewN _ _ _⟩⟩
        case measure => simp [intOf] <;> omega
      have hkK2 : (k : Int) < (K : Int) := by omega
      have HNK := Lib.hid (HNI.out k hkK)
      obtain ⟨b4, off4, hpa, -, hy⟩ := hp'.at_ (j := k) (by rw [HK.out]; exact hkK)
      subst hpa
      obtain ⟨y, hye⟩ : ∃ y, (gR L i).getD k 0 = y := ⟨_, rfl⟩
      rw [hye] at hy HNK
      clear hye hp'
      clear HNI
      by_cases hx0 : x < 0
      rotate_left
      · have hdx : decide (x < 0) = false := decide_eq_false hx0
        go_wp2_with fail
        go_roundw
        case rel => exact ⟨k + 1, by omega, by go_num, HM2.out⟩
        case measure => simp [intOf] <;> omega
      have hdx : decide (x < 0) = true := decide_eq_true hx0
      obtain ⟨bb, hbb⟩ : ∃ bb, decide ((k : Int) ∈ FL) = bb := ⟨_, rfl⟩
      have HBB := Lib.hid hbb
      rw [hbb] at KHI
      clear hbb
      cases bb
      · skip
        go_wp2_with (go_at_call 25; (with_reducible refine Calls.mono KHI.out ?_); rintro e w' ⟨rfl, rfl⟩)
        go_roundw
        case rel => exact ⟨k + 1, by omega, by go_num, HM2.out⟩
        case measure => simp [intOf] <;> omega
      · have hmem : (k : Int) ∈ FL := of_decide_eq_true HBB.out
        by_cases hy0 : 0 ≤ y
        rotate_left
        · have hdy : decide (0 ≤ y) = false := decide_eq_false hy0
          go_wp2_with (go_at_call 25; (with_reducible refine Calls.mono KHI.out ?_); rintro e w' ⟨rfl, rfl⟩)
          go_roundw
          case rel => exact ⟨k + 1, by omega, by go_num, HM2.out⟩
          case measure => simp [intOf] <;> omega
        have hym : ¬ y < m := fun h => HNK.out ⟨hx0, hmem, hy0, h⟩
        have hdm : decide (y < m) = false := decide_eq_false hym
        have hdy : decide (0 ≤ y) = true := decide_eq_true hy0
        clear hmem
        go_wp2_with (go_at_call 25; (with_reducible refine Calls.mono KHI.out ?_); rintro e w' ⟨rfl, rfl⟩)
        go_roundw
        case rel => exact ⟨k + 1, by omega, by go_num, HM2.out⟩
        case measure => simp [intOf] <;> omega
end Go.Proofs.Ytlahgdhofakinaa
