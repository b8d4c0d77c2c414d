/- The walk of the law FnPairingCounts over drawn data: it returns true and writes nothing that was there. -/
import Derived.Test.YtlahgdhofakinaaPrLb
namespace Go.Proofs.Ytlahgdhofakinaa
open Go.ChangeShapes Go.WideShapes Go.ChangeAt Go.RowKit Go.Shelf Num
set_option linter.unusedVariables false
set_option linter.unusedSimpArgs false

set_option maxRecDepth 100000 in
set_option maxHeartbeats 16000000 in
theorem lpct (a0 : Option Addr) (len0 cap0 : Nat) (z0 : List Int) (w : World) (w0 : IsRow .u8 w a0 len0 cap0 z0) :
    Calls Try.prog 6 #[.slice a0 len0 cap0] w fun e w' => e = .returned (.bool true) ∧ Below w.heap.size w w' := by
  obtain ⟨hlen, hcode⟩ := Code8.of_row w0
  obtain ⟨zs, hzs⟩ : ∃ zs, z0.take len0 = zs := ⟨_, rfl⟩
  rw [hzs] at hlen hcode
  subst hlen
  clear hzs w0
  have HC := Lib.hid hcode
  clear hcode
  have HB := Lib.hid (Below.refl w.heap.size w)
  by_cases hbig : 4096 < zs.length
  · have hd : decide ((4096 : Int) < (zs.length : Int)) = true := by simp; omega
    go_enter Try.func6, Try.ntmps6
    go_wp2_with (go_at_call 16; refine (big_any _ _ _ _).mono ?_; rw [hd]; rintro e w' ⟨rfl, rfl⟩)
    go_ret
    exact ⟨rfl, Below.refl _ _⟩
  have hd : decide ((4096 : Int) < (zs.length : Int)) = false := by simp; omega
  go_enter Try.func6, Try.ntmps6
  go_wp2_with (go_at_call 16; refine (big_any _ _ _ _).mono ?_; rw [hd]; rintro e w' ⟨rfl, rfl⟩)
  clear hd
  go_wp2_with fail
  refine (dcp_any _ _ _ zs ((HC.out.below HB.out (Nat.le_refl _)).more HB.out.size)).mono ?_
  rintro e w1 ⟨G, c, L, rfl, h8, hr8, hcap, hx, hb⟩
  replace HB := Lib.hid (bel_end HB.out hb)
  have q1 := hb.size
  have HX := Lib.hid (RwX.of hx)
  have HR8 := Lib.hid hr8
  have HR : Hid (∀ j, j < L.length → (gR L j).length ≤ 9223372036854775807) := Lib.hid (fun j hj => Nat.le_trans (hr8 j hj) (by omega))
  clear hx hr8 hb
  obtain ⟨V, hV⟩ : ∃ u, cnV L = u := ⟨_, rfl⟩
  obtain ⟨Q, hQ⟩ : ∃ u, cnC L = u := ⟨_, rfl⟩
  have KN : Hid (∀ (W : World) (a : Option Addr) (c : Nat), RwL W W.heap.size a L → Calls Try.prog 46 #[.slice a L.length c] W fun e w' => e = .returned (.tuple #[.int .i64 V, .int .i64 Q]) ∧ Below W.heap.size W w') := Lib.hid (fun W a c h1 => by have := icn_any W a c _ L rfl (by omega) HR.out h1; rwa [hV, hQ] at this)
  have KM : Hid (∀ (W : World) (a : Option Addr) (c : Nat), RwL W W.heap.size a L → Calls Try.prog 47 #[.slice a L.length c] W fun e w' => e = .returned (.tuple #[.int .i64 V, .int .i64 Q]) ∧ Below W.heap.size W w') := Lib.hid (fun W a c h1 => by have := scn_any W a c _ L rfl (by omega) HR.out h1; rwa [hV, hQ] at this)
  have HQE : Hid (Q = if acB L = true then 0 else 1) := Lib.hid (by rw [← hQ]; rfl)
  have HV := Lib.hid hV
  clear hV hQ
  go_wp2_with fail
  refine (KN.out _ _ _ HX.out.rows).mono ?_
  rintro e w2 ⟨rfl, hb⟩
  replace HX := Lib.hid (HX.out.on hb)
  replace HB := Lib.hid (bel_end HB.out hb)
  have q2 := hb.size
  clear hb
  go_wp2_with fail
  refine (KM.out _ _ _ HX.out.rows).mono ?_
  rintro e w3 ⟨rfl, hb⟩
  replace HX := Lib.hid (HX.out.on hb)
  replace HB := Lib.hid (bel_end HB.out hb)
  have q3 := hb.size
  clear hb
  go_wp2_with fail
  refine (dac_any _ _ _ zs ((HC.out.below HB.out (Nat.le_refl _)).more HB.out.size)).mono ?_
  rintro e w4 ⟨G2, c2, L2, rfl, h82, hr8, hcap2, hx, hb⟩
  replace HX := Lib.hid (HX.out.on hb)
  replace HB := Lib.hid (bel_end HB.out hb)
  have q4 := hb.size
  have HX2 := Lib.hid (RwX.of hx)
  have HR2 : Hid (∀ j, j < L2.length → (gR L2 j).length ≤ 9223372036854775807) := Lib.hid (fun j hj => Nat.le_trans (hr8 j hj) (by omega))
  clear hx hr8 hb
  obtain ⟨P2, hP2⟩ : ∃ u, acB L2 = u := ⟨_, rfl⟩
  have KI : Hid (∀ (W : World) (a : Option Addr) (c : Nat), RwL W W.heap.size a L2 → Calls Try.prog 26 #[.slice a L2.length c] W fun e w' => e = .returned (.bool P2) ∧ Below W.heap.size W w') := Lib.hid (fun W a c h1 => by have := iac_any W a c _ L2 rfl (by omega) HR2.out h1; rwa [hP2] at this)
  have KJ : Hid (∀ (W : World) (a : Option Addr) (c : Nat), RwL W W.heap.size a L2 → Calls Try.prog 49 #[.slice a L2.length c] W fun e w' => e = .returned (.bool P2) ∧ Below W.heap.size W w') := Lib.hid (fun W a c h1 => by have := sacB_any W a c L2 (by omega) HR2.out h1; rwa [hP2] at this)
  clear hP2
  go_wp2_with fail
  refine (KI.out _ _ _ HX2.out.rows).mono ?_
  rintro e w5 ⟨rfl, hb⟩
  replace HX := Lib.hid (HX.out.on hb)
  replace HX2 := Lib.hid (HX2.out.on hb)
  replace HB := Lib.hid (bel_end HB.out hb)
  have q5 := hb.size
  clear hb
  go_wp2_with fail
  refine (KJ.out _ _ _ HX2.out.rows).mono ?_
  rintro e w6 ⟨rfl, hb⟩
  replace HX := Lib.hid (HX.out.on hb)
  replace HX2 := Lib.hid (HX2.out.on hb)
  replace HB := Lib.hid (bel_end HB.out hb)
  have q6 := hb.size
  clear hb
  clear HX2 HR2 KI KJ KN KM
  have hpp : (P2 != P2) = false := by simp
  cases hA : acB L
  · rw [hA, if_neg (by decide)] at HQE
    obtain rfl : Q = 1 := HQE.out
    go_wp2
    go_ret
    exact ⟨rfl, HB.out⟩
  rw [hA, if_pos rfl] at HQE
  obtain rfl : Q = 0 := HQE.out
  by_cases h0 : 0 < L.length
  rotate_left
  · obtain rfl : L = [] := List.eq_nil_of_length_eq_zero (by omega)
    obtain rfl : V = 1 := by rw [← HV.out]; rfl
    go_wp2
    go_ret
    exact ⟨rfl, HB.out⟩
  have hAL := acB_t hA
  have hr6 := hAL.1
  have hc6 := acP_rows hAL 0
  obtain ⟨f1, f2, f3, f4, f5⟩ := law_cnt hA h0
  rw [HV.out] at f2 f4
  have HF1 := Lib.hid f1
  have HF3 := Lib.hid f3
  clear hAL f1 f3 HV
  have hR : Hid (∀ j, j < L.tail.length → (gR L.tail j).length ≤ 9223372036854775807) := Lib.hid (fun j hj => by
    obtain ⟨z, tl, rfl⟩ : ∃ z tl, L = z :: tl := by
      match L, h0 with
      | z :: tl, _ => exact ⟨z, tl, rfl⟩
    exact HR.out (j + 1) (by simp at hj ⊢; omega))
  have HTL : Hid (∀ (W : World), RwL W W.heap.size (some ⟨G, 0, none⟩) L → RwL W W.heap.size (some ⟨G, 1, none⟩) L.tail) := Lib.hid (fun W h => by
    obtain ⟨z, tl, rfl⟩ : ∃ z tl, L = z :: tl := by
      match L, h0 with
      | z :: tl, _ => exact ⟨z, tl, rfl⟩
    exact RwL.tl h)
  have hdl : ((L.length : Int) == 0) = false := by rw [beq_eq_false_iff_ne]; omega
  obtain ⟨V1, hV1⟩ : ∃ u, cnV L.tail = u := ⟨_, rfl⟩
  rw [hV1] at f2
  have KT : Hid (∀ (W : World) (a : Option Addr) (c n : Nat), L.tail.length = n → RwL W W.heap.size a L.tail → Calls Try.prog 46 #[.slice a n c] W fun e w' => e = .returned (.tuple #[.int .i64 V1, .int .i64 0]) ∧ Below W.heap.size W w') := Lib.hid (fun W a c n hn h1 => by have := icn_any W a c n L.tail hn (by rw [← hn, List.length_tail]; omega) hR.out h1; rwa [hV1, HF1.out] at this)
  clear hV1
  obtain ⟨V2, hV2⟩ : ∃ u, cnV (zrL L L.length) = u := ⟨_, rfl⟩
  rw [hV2] at f4 f5
  have HF5 := Lib.hid f5
  clear f5
  have KZ : Hid (∀ (W : World) (a : Option Addr) (c : Nat), RwL W W.heap.size a (zrL L L.length) → Calls Try.prog 46 #[.slice a L.length c] W fun e w' => e = .returned (.tuple #[.int .i64 V2, .int .i64 0]) ∧ Below W.heap.size W w') := Lib.hid (fun W a c h1 => by have := icn_any W a c L.length (zrL L L.length) (zrL_len _ _) (by omega) (fun j hj => by rw [zrL_len] at hj; rw [zrL_rl]; exact HR.out j hj) h1; rwa [hV2, HF3.out] at this)
  clear hV2
  have HL1 : Hid (L.tail.length = L.length - 1) := Lib.hid List.length_tail
  have HXT := Lib.hid (HTL.out _ HX.out.rows)
  go_upto_region 11 with fail
  have HZ0 := Lib.hid (Below.refl w6.heap.size w6)
  go_cut [9, 10] (fun u v wx => u = .int .i64 V1 ∧ v = .int .i64 0 ∧ Below w6.heap.size w6 wx)
  case first =>
    by_cases hc1 : c = 1
    · subst hc1
      go_wp2_with fail
      have KT1 := Lib.hid (KT.out w6 (some ⟨G, 0, none⟩) 0 0 (by rw [HL1.out]; omega) (fun hp => absurd hp (by rw [List.length_tail]; omega)))
      (with_reducible refine Calls.mono KT1.out ?_)
      rintro e wq ⟨rfl, hb⟩
      have HQ := Lib.hid hb
      clear hb
      go_wp2_with fail
      go_meet
      exact ⟨rfl, rfl, HQ.out⟩
    · have hc2 : ¬ c = 1 := hc1
      go_wp2_with fail
      generalize hn1 : L.length - 1 = n1
      generalize hcc1 : c - 1 = c1
      have KT1 := Lib.hid (KT.out w6 (some ⟨G, 1, none⟩) c1 n1 (by rw [HL1.out]; exact hn1) HXT.out)
      (with_reducible refine Calls.mono KT1.out ?_)
      rintro e wq ⟨rfl, hb⟩
      have HQ := Lib.hid hb
      clear hb hn1 hcc1
      go_wp2_with fail
      go_meet
      exact ⟨rfl, rfl, HQ.out⟩
  case rest =>
    obtain ⟨rfl, rfl, hb⟩ := hcut
    replace HX := Lib.hid (HX.out.on hb)
    replace HB := Lib.hid (bel_end HB.out hb)
    clear hb HXT HZ0
    clear KT HTL HL1 hR
    obtain ⟨i0, hi, hz0, hz1, hz2⟩ := info_parts info_i64
    obtain ⟨j0, hj, hy0, hy1, hy2⟩ := info_parts info_sl
    go_wp2_with fail
    obtain ⟨WL, hWL⟩ : ∃ u, u = wc := ⟨wc, rfl⟩
    rw [← hWL]
    rw [← hWL] at HX HB
    clear hWL
    have HR0 := Lib.hid (RwG.lit (W1 := WL) (G := WL.heap.size) (W := WL.alloc (.cells #[] 38)) (Bk.new WL _ _) (Nat.le_refl _) ((Below.refl _ _).alloc (Nat.le_refl _) _))
    go_loopw [11, 12] (fun o i wr => ∃ (k g cc : Nat) (vs : List Value), k ≤ L.length ∧ o = .slice (some ⟨g, 0, none⟩) k cc ∧ i = .int .i64 k ∧ RwG WL g cc vs (zrL L k) wr) (fun _ i _ => L.length - (intOf i).toNat)
    case atStart => exact ⟨0, WL.heap.size, 0, [], by omega, rfl, rfl, HR0.out⟩
    case round =>
      obtain ⟨k, g, cc, vs, hk, rfl, rfl, hR⟩ := hrel
      have HRG := Lib.hid hR
      have HXR := Lib.hid (HX.out.on hR.bel)
      have HBR : Hid (Below w.heap.size w wr) := Lib.hid (bel_end HB.out hR.bel)
      clear hR HR0
      have hzl := zrL_len L k
      have HZL := Lib.hid hzl
      clear hzl
      by_cases hlt : k < L.length
      · obtain ⟨b, off, p, c4, heq, -, hc, hcc, -⟩ := HXR.out.rows.at_ hlt
        simp only [Option.some.injEq, Addr.mk.injEq, and_true] at heq
        obtain ⟨e1, e2⟩ := heq
        subst e1 e2
        rw [Nat.zero_add] at hc
        have hr8k := HR.out k hlt
        have HZS : Hid (zrL L (k + 1) = zrL L k ++ [List.replicate (gR L k).length 0]) := Lib.hid (zrL_succ L k)
        have hl8 : (gR L k).length ≤ 8 := HR8.out k hlt
        obtain ⟨n, hn⟩ : ∃ n, (gR L k).length = n := ⟨_, rfl⟩
        rw [hn] at hc hcc HZS hl8 hr8k
        clear hn
        have hmk : ∀ w, (Instr.makeSlice 38 (.int .i64 (n : Int)) (.int .i64 (n : Int))).run Try.prog w = .ok (.slice (some ⟨w.heap.size, 0, none⟩) n n) (w.alloc (.cells (madeCells #[.int .i64 0] n) 2)) := fun w => run_make_row' (P := Try.prog) 38 2 (.int .i64 0) 8 Try.underlying38 info_i64 rfl .i64 .i64 n (by omega) (by omega) w
        obtain ⟨W7, hW7⟩ : ∃ u, wr.alloc (.cells (madeCells #[.int .i64 0] n) 2) = u := ⟨_, rfl⟩
        have hb7 : Below wr.heap.size wr W7 := by rw [← hW7]; exact (Below.refl _ _).alloc (Nat.le_refl _) _
        have HR7 := Lib.hid (HRG.out.on hb7)
        have HO7 : Hid (OwnA W7 WL.heap.size W7.heap.size (some ⟨wr.heap.size, 0, none⟩) n (List.replicate n 0)) := Lib.hid (by
          have h := rowG_zeros wr n (by unfold maxLen; omega)
          rw [hW7] at h
          exact ownA_row (L := List.replicate n 0) h (by simp) HRG.out.bel.size)
        have e7 : wr.heap.size + 1 = W7.heap.size := by rw [← hW7]; simp
        have HRL : Hid ((List.replicate n (0 : Int)).length = n) := Lib.hid (by simp)
        obtain ⟨Z, hZ⟩ : ∃ Z, List.replicate n (0 : Int) = Z := ⟨_, rfl⟩
        rw [hZ] at HO7 HRL HZS
        clear hZ hb7
        go_wp2_with (at_builtin; refine wpList_append_lies _ rfl _ _ 28 rfl WL.heap.size 38 j0 (.slice none 0 0) 1 24 Try.underlying28 hj hy0 hy1 hy2 rfl (by decide) (.slice (some ⟨g, 0, none⟩) k cc) k vs rfl (by have h := HR7.out.row.own.alloc (.cells #[.slice (some ⟨wr.heap.size, 0, none⟩) n n] 38); rwa [HZL.out] at h) ⟨W7.heap.size, 0, none⟩ 1 1 [.slice (some ⟨wr.heap.size, 0, none⟩) n n] rfl rfl (World.news_of_block (cs := #[.slice (some ⟨wr.heap.size, 0, none⟩) n n]) (t := 38) (fr := (0, 0)) (heap_alloc_new W7 _)) (by simp [Value.oneCell']) (by decide) (by unfold maxLen; omega) (by omega) (by have := HR7.out.bel.size; simp; omega) (W7.heap.size + 1) (by simp) ?_; intro g2 cp2 w9 hown hgrow hat hlt9; have HP9 := Lib.hid ((HR7.out.on ((Below.refl _ _).alloc (Nat.le_refl _) _)).snoc (zs := Z) (ownA_top (HO7.out.on ((Below.refl _ _).alloc (Nat.le_refl _) _))) (by rw [HRL.out, HZL.out]; exact hown) hgrow); clear hown hgrow hat hlt9)
        go_roundw
        case rel => exact ⟨k + 1, g2, cp2, _, by omega, rfl, by go_num, by rw [HZS.out]; exact HP9.out⟩
        case measure => simp [intOf] <;> omega
      · obtain rfl : k = L.length := by omega
        have HZR := Lib.hid HRG.out.rows
        clear HRG
        have HZ2 := Lib.hid (KZ.out _ (some ⟨g, 0, none⟩) cc HZR.out)
        clear KZ HZR
        go_wp2_with fail
        refine HZ2.out.mono ?_
        rintro e w9 ⟨rfl, hb⟩
        have HB9 : Hid (Below w.heap.size w w9) := Lib.hid (bel_end HBR.out hb)
        have hx9 := HXR.out.on hb
        clear hb HZ2
        obtain ⟨b, off, p, c4, heq, -, hc, -, -⟩ := hx9.rows.at_ h0
        simp only [Option.some.injEq, Addr.mk.injEq, and_true] at heq
        obtain ⟨e1, e2⟩ := heq
        subst e1 e2
        rw [Nat.zero_add] at hc
        clear hx9
        obtain ⟨R, hRe⟩ : ∃ R, L.length = R := ⟨_, rfl⟩
        obtain ⟨C, hCe⟩ : ∃ C, (gR L 0).length = C := ⟨_, rfl⟩
        rw [hCe] at hc hc6 HF5
        rw [hRe] at HF5 h0 hr6 ⊢
        clear hCe hRe
        have h01 : (0 : Int) < (R : Int) := by omega
        have HMN : Hid (min (R : Int) (C : Int) = ((min R C : Nat) : Int)) := Lib.hid (by omega)
        have hmr : min R C ≤ R := Nat.min_le_left _ _
        have hmc : min R C ≤ C := Nat.min_le_right _ _
        obtain ⟨M, hM⟩ : ∃ M, min R C = M := ⟨_, rfl⟩
        rw [hM] at HMN hmr hmc HF5
        clear hM
        have HW1 : Hid (∀ k, k < 8 → 0 ≤ (wyT (R : Nat) (C : Nat) k).1 ∧ (wyT (R : Nat) (C : Nat) k).1 ≤ 100000 ∧ 0 ≤ (wyT (R : Nat) (C : Nat) k).2 ∧ (wyT (R : Nat) (C : Nat) k).2 ≤ 100000) := Lib.hid (wy_bd R (by omega) C (by omega))
        have HW2 : Hid (∀ k, k ≤ M → 0 ≤ (wyT (R : Nat) (C : Nat) k).2 * ((R : Int) - (k : Int)) ∧ (wyT (R : Nat) (C : Nat) k).2 * ((R : Int) - (k : Int)) ≤ 1000000 ∧ 0 ≤ (wyT (R : Nat) (C : Nat) k).2 * ((R : Int) - (k : Int)) * ((C : Int) - (k : Int)) ∧ (wyT (R : Nat) (C : Nat) k).2 * ((R : Int) - (k : Int)) * ((C : Int) - (k : Int)) ≤ 10000000) := Lib.hid (fun k hk => (wy_b2 R (by omega) C (by omega) k (by omega)).resolve_left (fun h => h ⟨by omega, by omega⟩))
        go_upto_region 18 with fail
        go_quiet (fail)
        clear hc
        go_wp2_with fail
        go_loopw [17, 18, 19] (fun t y i wx => ∃ k : Nat, k ≤ M + 1 ∧ i = .int .i64 k ∧ t = .int .i64 (wyT (R : Nat) (C : Nat) k).1 ∧ y = .int .i64 (wyT (R : Nat) (C : Nat) k).2 ∧ ∃ q, wx = w9.drewN q) (fun _ _ i _ => M + 1 - (intOf i).toNat)
        case atStart => exact ⟨0, by omega, rfl, rfl, rfl, _, rfl⟩
        case round =>
          obtain ⟨k, hk, rfl, rfl, rfl, hm⟩ := hrel
          have HM := Lib.hid hm
          clear hm
          have hmn := HMN.out
          have hw1 := HW1.out k (by omega)
          have hw1s := HW1.out (k + 1)
          by_cases hkM : k ≤ M
          · have hw2 := HW2.out k hkM
            have HS1 : Hid ((wyT (R : Nat) (C : Nat) (k + 1)).1 = (wyT (R : Nat) (C : Nat) k).1 + (wyT (R : Nat) (C : Nat) k).2) := Lib.hid rfl
            have HS2 : Hid ((wyT (R : Nat) (C : Nat) (k + 1)).2 = Int.tdiv ((wyT (R : Nat) (C : Nat) k).2 * ((R : Int) - (k : Int)) * ((C : Int) - (k : Int))) ((k : Int) + 1)) := Lib.hid rfl
            obtain ⟨ta, hta⟩ : ∃ u, (wyT (R : Nat) (C : Nat) k).1 = u := ⟨_, rfl⟩
            obtain ⟨wa, hwa⟩ : ∃ u, (wyT (R : Nat) (C : Nat) k).2 = u := ⟨_, rfl⟩
            rw [hta] at HS1 hw1 ⊢
            rw [hwa] at HS1 HS2 hw1 hw2 ⊢
            clear hta hwa hw1s
            obtain ⟨A1, hA1⟩ : ∃ u, (R : Int) - (k : Int) = u := ⟨_, rfl⟩
            obtain ⟨A2, hA2⟩ : ∃ u, (C : Int) - (k : Int) = u := ⟨_, rfl⟩
            rw [hA1] at HS2 hw2
            rw [hA2] at HS2 hw2
            obtain ⟨P1, hP1⟩ : ∃ u, wa * A1 = u := ⟨_, rfl⟩
            rw [hP1] at HS2 hw2
            obtain ⟨P2, hP2⟩ : ∃ u, P1 * A2 = u := ⟨_, rfl⟩
            rw [hP2] at HS2 hw2
            have hqd : 0 ≤ P2.tdiv ((k : Int) + 1) ∧ P2.tdiv ((k : Int) + 1) ≤ 10000000 := by
              rw [Int.tdiv_eq_ediv_of_nonneg hw2.2.2.1]
              exact ⟨Int.ediv_nonneg hw2.2.2.1 (by omega), Int.le_trans (Int.ediv_le_self _ hw2.2.2.1) hw2.2.2.2⟩
            have hk1 : ((k : Int) + 1 == 0) = false := by rw [beq_eq_false_iff_ne]; omega
            go_wp2_with fail
            go_roundw
            case rel => exact ⟨k + 1, by omega, by go_num, by rw [HS1.out], by rw [HS2.out], HM.out⟩
            case measure => simp [intOf] <;> omega
          · obtain rfl : k = M + 1 := by omega
            rw [← HF5.out]
            have HBE : Hid (Below w.heap.size w wr) := Lib.hid (by obtain ⟨q, hq⟩ := HM.out; rw [hq]; exact bel_drewN HB9.out _)
            have hnk : ¬ (((M + 1 : Nat) : Int) ≤ (M : Int)) := by omega
            go_wp2_with fail
            all_goals (go_ret; exact ⟨rfl, HBE.out⟩)
end Go.Proofs.Ytlahgdhofakinaa
