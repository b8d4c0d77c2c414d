/- Contracts of the model's EchoesOf. -/
import Derived.Test.YtpnebnjpeiieaaaPuE
namespace Go.Proofs.Ytpnebnjpeiieaaa
open Go.ChangeShapes Go.WideShapes Go.ChangeAt Go.RowKit Go.Shelf Num
set_option linter.unusedVariables false
set_option linter.unusedSimpArgs false

set_option maxRecDepth 100000 in
set_option maxHeartbeats 8000000 in
theorem sec_any (w : World) (a0 a1 a2 : Option Addr) (c0 c1 c2 : Nat) (ps ds gs : List Int) (len : Int) (hl0 : ps.length ≤ 1048576) (hl1 : ds.length ≤ 1048576) (hl2 : gs.length ≤ 1048576) (hz0 : Ints .i64 w w.heap.size a0 ps) (hz1 : Ints .i64 w w.heap.size a1 ds) (hz2 : Ints .i64 w w.heap.size a2 gs) :
    Calls Try.prog 31 #[.slice a0 ps.length c0, .slice a1 ds.length c1, .slice a2 gs.length c2, .int .i64 len] w fun e w' => ∃ (a' : Option Addr) (c' : Nat), e = .returned (.tuple #[.slice a' (ecL ps ds gs len).length c', .int .i64 (ecC ps ds gs len)]) ∧ OwnA w' w.heap.size w'.heap.size a' c' (ecL ps ds gs len) ∧ Below w.heap.size w w' := by
  obtain ⟨i0, hi, hz0_, hz1_, hz2_⟩ := info_parts info_i64
  have HP := Lib.hid hz0
  have HD := Lib.hid hz1
  have HG := Lib.hid hz2
  clear hz0 hz1 hz2
  have K0 := Lib.hid (fun (W : World) (hz : Ints .i64 W W.heap.size a0 ps) => ssg_any W _ a0 c0 ps (by omega) hz)
  obtain ⟨m, hm⟩ : ∃ m, ds.length = m := ⟨_, rfl⟩
  obtain ⟨q, hq⟩ : ∃ q, gs.length = q := ⟨_, rfl⟩
  have K2 : Hid (∀ (W : World), Ints .i64 W W.heap.size a2 gs → Calls Try.prog 54 #[.slice a2 q c2, .int .i64 200, .int .i64 (-1000), .int .i64 1000] W fun e w' => e = .returned (.bool (withB gs 200 (-1000) 1000)) ∧ W = w') := Lib.hid (fun W hz => by have := wth_any W _ a2 c2 gs 200 (-1000) 1000 (by omega) hz; rwa [hq] at this)
  have K3 : Hid (∀ (h : Int) (W : World), Ints .i64 W W.heap.size a1 ds → Calls Try.prog 54 #[.slice a1 m c1, .int .i64 200, .int .i64 0, .int .i64 h] W fun e w' => e = .returned (.bool (withB ds 200 0 h)) ∧ W = w') := Lib.hid (fun h W hz => by have := wth_any W _ a1 c1 ds 200 0 h (by omega) hz; rwa [hm] at this)
  rw [hm] at hl1
  rw [hq] at hl2
  rw [hm, hq]
  have HM := Lib.hid hm
  have HQ := Lib.hid hq
  clear hm hq
  have eL := hasB_inB len 0 400
  cases hs : sigB ps
  case false =>
    have H1 : Hid (ecC ps ds gs len = 1) := Lib.hid (by unfold ecC; rw [hs]; rfl)
    have H2 : Hid (ecL ps ds gs len = []) := Lib.hid (by unfold ecL; rw [H1.out]; rfl)
    clear eL
    go_enter Try.func31, Try.ntmps31
    go_wp2_with fail
    refine (K0.out _ HP.out).mono ?_
    rw [hs]
    rintro e w' ⟨rfl, rfl⟩
    go_wp2
    go_ret2
    exact ⟨none, 0, by rw [H1.out, H2.out]; rfl, by rw [H2.out]; exact ownA_nil _ _ (Nat.le_refl _), Below.refl _ _⟩
  case true =>
    cases hc1 : inB len 0 400
    case false =>
      rw [hc1] at eL
      have H1 : Hid (ecC ps ds gs len = 2) := Lib.hid (by unfold ecC ecOK; rw [hs, eL]; simp)
      have H2 : Hid (ecL ps ds gs len = []) := Lib.hid (by unfold ecL; rw [H1.out]; rfl)
      clear eL
      go_enter Try.func31, Try.ntmps31
      go_wp2_with fail
      refine (K0.out _ HP.out).mono ?_
      rw [hs]
      rintro e w' ⟨rfl, rfl⟩
      go_wp2_with fail
      refine (lin_any _ _ _ _).mono ?_
      rw [hc1]
      rintro e w' ⟨rfl, rfl⟩
      go_wp2
      go_ret2
      exact ⟨none, 0, by rw [H1.out, H2.out]; rfl, by rw [H2.out]; exact ownA_nil _ _ (Nat.le_refl _), Below.refl _ _⟩
    case true =>
      rw [hc1] at eL
      obtain ⟨l0, l4⟩ := inB_t hc1
      obtain ⟨n, rfl⟩ : ∃ n : Nat, len = (n : Int) := ⟨len.toNat, by omega⟩
      by_cases hc2 : m ≤ 200
      case neg =>
        have H1 : Hid (ecC ps ds gs (n : Int) = 2) := Lib.hid (by unfold ecC ecOK; rw [hs, HM.out, decide_eq_false hc2]; simp)
        have H2 : Hid (ecL ps ds gs (n : Int) = []) := Lib.hid (by unfold ecL; rw [H1.out]; rfl)
        clear eL
        go_enter Try.func31, Try.ntmps31
        go_wp2_with fail
        refine (K0.out _ HP.out).mono ?_
        rw [hs]
        rintro e w' ⟨rfl, rfl⟩
        go_wp2_with fail
        refine (lin_any _ _ _ _).mono ?_
        rw [hc1]
        rintro e w' ⟨rfl, rfl⟩
        go_wp2
        go_ret2
        exact ⟨none, 0, by rw [H1.out, H2.out]; rfl, by rw [H2.out]; exact ownA_nil _ _ (Nat.le_refl _), Below.refl _ _⟩
      case pos =>
        by_cases hc3 : q = m
        case neg =>
          have hne : ((q : Int) != (m : Int)) = true := by simp; omega
          have H1 : Hid (ecC ps ds gs (n : Int) = 2) := Lib.hid (by unfold ecC ecOK; rw [hs, HM.out, HQ.out, decide_eq_false hc3]; simp)
          have H2 : Hid (ecL ps ds gs (n : Int) = []) := Lib.hid (by unfold ecL; rw [H1.out]; rfl)
          clear eL
          replace hc3 := Lib.hid hc3
          go_enter Try.func31, Try.ntmps31
          go_wp2_with fail
          refine (K0.out _ HP.out).mono ?_
          rw [hs]
          rintro e w' ⟨rfl, rfl⟩
          go_wp2_with fail
          refine (lin_any _ _ _ _).mono ?_
          rw [hc1]
          rintro e w' ⟨rfl, rfl⟩
          go_wp2
          go_ret2
          exact ⟨none, 0, by rw [H1.out, H2.out]; rfl, by rw [H2.out]; exact ownA_nil _ _ (Nat.le_refl _), Below.refl _ _⟩
        case pos =>
          subst hc3
          have eG : withB gs 200 (-1000) 1000 = !anyLack (-1000) 1000 gs := by unfold withB; rw [HQ.out, decide_eq_true (show (q : Int) ≤ 200 by omega), Bool.and_true]
          have eD : withB ds 200 0 ((n : Int) - (ps.length : Int)) = !anyLack 0 ((n : Int) - (ps.length : Int)) ds := by unfold withB; rw [HM.out, decide_eq_true (show (q : Int) ≤ 200 by omega), Bool.and_true]
          have KD3 := Lib.hid (fun (W : World) hz => K3.out ((n : Int) - (ps.length : Int)) W hz)
          rw [eG] at K2
          rw [eD] at KD3
          clear eG eD K3
          cases hc4 : anyLack (-1000) 1000 gs
          case true =>
            have H1 : Hid (ecC ps ds gs (n : Int) = 2) := Lib.hid (by unfold ecC ecOK; rw [hs, hc4]; simp)
            have H2 : Hid (ecL ps ds gs (n : Int) = []) := Lib.hid (by unfold ecL; rw [H1.out]; rfl)
            clear eL
            go_enter Try.func31, Try.ntmps31
            go_wp2_with fail
            refine (K0.out _ HP.out).mono ?_
            rw [hs]
            rintro e w' ⟨rfl, rfl⟩
            go_wp2_with fail
            refine (lin_any _ _ _ _).mono ?_
            rw [hc1]
            rintro e w' ⟨rfl, rfl⟩
            go_wp2_with fail
            refine (K2.out _ HG.out).mono ?_
            rw [hc4]
            rintro e w' ⟨rfl, rfl⟩
            go_wp2
            go_ret2
            exact ⟨none, 0, by rw [H1.out, H2.out]; rfl, by rw [H2.out]; exact ownA_nil _ _ (Nat.le_refl _), Below.refl _ _⟩
          case false =>
            have gP := (sigB_t hs).1
            cases hc5 : anyLack 0 ((n : Int) - (ps.length : Int)) ds
            case true =>
              have H1 : Hid (ecC ps ds gs (n : Int) = 2) := Lib.hid (by unfold ecC ecOK; rw [hs, hc5]; simp)
              have H2 : Hid (ecL ps ds gs (n : Int) = []) := Lib.hid (by unfold ecL; rw [H1.out]; rfl)
              clear eL
              go_enter Try.func31, Try.ntmps31
              go_wp2_with fail
              refine (K0.out _ HP.out).mono ?_
              rw [hs]
              rintro e w' ⟨rfl, rfl⟩
              go_wp2_with fail
              refine (lin_any _ _ _ _).mono ?_
              rw [hc1]
              rintro e w' ⟨rfl, rfl⟩
              go_wp2_with fail
              refine (K2.out _ HG.out).mono ?_
              rw [hc4]
              rintro e w' ⟨rfl, rfl⟩
              go_wp2_with fail
              refine (KD3.out _ HD.out).mono ?_
              rw [hc5]
              rintro e w' ⟨rfl, rfl⟩
              go_wp2
              go_ret2
              exact ⟨none, 0, by rw [H1.out, H2.out]; rfl, by rw [H2.out]; exact ownA_nil _ _ (Nat.le_refl _), Below.refl _ _⟩
            case false =>
              have HC : ecC ps ds gs (n : Int) = if sigB (ecT n ps ds gs q) then 0 else 3 := by unfold ecC ecOK; rw [hs, eL, HM.out, HQ.out, decide_eq_true hc2, decide_eq_true rfl, hc4, hc5, Int.toNat_natCast]; rfl
              have gS := anyLack_sml (by decide) hc4
              have pS := (sigB_t hs).2
              have HLB := Lib.hid (fun i => ecT_bd n ds gS pS i)
              have HGS := Lib.hid gS
              have HPS := Lib.hid pS
              have HDS : Hid (∀ i, i < q → ∃ d : Nat, ds.getD i 0 = (d : Int) ∧ d + ps.length ≤ n) := Lib.hid (fun i hi => by have := anyLack_all hc5 (k := i) (by rw [HM.out]; exact hi); exact ⟨(ds.getD i 0).toNat, by omega, by omega⟩)
              clear gS pS eL
              go_enter Try.func31, Try.ntmps31
              go_wp2_with fail
              refine (K0.out _ HP.out).mono ?_
              rw [hs]
              rintro e w' ⟨rfl, rfl⟩
              go_wp2_with fail
              refine (lin_any _ _ _ _).mono ?_
              rw [hc1]
              rintro e w' ⟨rfl, rfl⟩
              go_wp2_with fail
              refine (K2.out _ HG.out).mono ?_
              rw [hc4]
              rintro e w' ⟨rfl, rfl⟩
              go_wp2_with fail
              refine (KD3.out _ HD.out).mono ?_
              rw [hc5]
              rintro e w' ⟨rfl, rfl⟩
              have hmk : ∀ w, (Instr.makeSlice 24 (.int .i64 (n : Int)) (.int .i64 (n : Int))).run Try.prog w = .ok (.slice (some ⟨w.heap.size, 0, none⟩) n n) (w.alloc (.cells (madeCells #[.int .i64 0] n) 2)) := fun w => run_make_row' (P := Try.prog) 24 2 (.int .i64 0) 8 Try.underlying24 info_i64 rfl .i64 .i64 n (by omega) (by omega) w
              go_upto_region 6 with fail
              clear hmk
              obtain ⟨G, hG⟩ : ∃ G, w.heap.size = G := ⟨_, rfl⟩
              have HR0 := Lib.hid (rowG_zeros w n (by unfold maxLen; omega))
              rw [hG] at HR0 ⊢
              have HGs := Lib.hid hG
              clear hG
              go_wp2_with fail
              go_loopw [11] (fun x wr => ∃ i : Nat, i ≤ q ∧ x = .int .i64 (i : Int) ∧ RowG w 2 1 G n n ((ecT n ps ds gs i).map iv4) wr) (fun x _ => q - (intOf x).toNat)
              case atStart => exact ⟨0, by omega, rfl, HR0.out⟩
              case round =>
                obtain ⟨i, hi2, rfl, hR⟩ := hrel
                have HR := Lib.hid hR
                clear hR HR0
                by_cases hlt : i < q
                case neg =>
                  obtain rfl : i = q := by omega
                  have HA := Lib.hid (ownA_row HR.out (ecT_len n ps ds gs i) (Nat.le_refl _))
                  have HBX := Lib.hid HR.out.bel
                  have KS : Calls Try.prog 36 #[.slice (some ⟨G, 0, none⟩) n n] wr fun e w' => e = .returned (.bool (sigB (ecT n ps ds gs i))) ∧ wr = w' := by
                    have := ssg_any wr _ (some ⟨G, 0, none⟩) n (ecT n ps ds gs i) (by rw [ecT_len]; omega) HA.out.ints
                    rwa [ecT_len] at this
                  have HKS := Lib.hid KS
                  clear HR KS
                  cases hsg : sigB (ecT n ps ds gs i)
                  case false =>
                    rw [hsg] at HKS HC
                    have H1 : Hid (ecC ps ds gs (n : Int) = 3) := Lib.hid HC
                    have H2 : Hid (ecL ps ds gs (n : Int) = []) := Lib.hid (by unfold ecL; rw [H1.out]; rfl)
                    clear HC
                    go_wp2_with fail
                    refine HKS.out.mono ?_
                    rintro e w' ⟨rfl, rfl⟩
                    go_wp2
                    go_ret2
                    exact ⟨none, 0, by rw [H1.out, H2.out]; rfl, by rw [H2.out]; exact ownA_nil _ _ (Below.size HBX.out), HBX.out⟩
                  case true =>
                    rw [hsg] at HKS HC
                    have H1 : Hid (ecC ps ds gs (n : Int) = 0) := Lib.hid HC
                    have H2 : Hid (ecL ps ds gs (n : Int) = ecT n ps ds gs i) := Lib.hid (by unfold ecL; rw [H1.out, Int.toNat_natCast, HM.out]; rfl)
                    clear HC
                    go_wp2_with fail
                    refine HKS.out.mono ?_
                    rintro e w' ⟨rfl, rfl⟩
                    go_wp2
                    go_ret2
                    exact ⟨some ⟨G, 0, none⟩, n, by rw [H1.out, H2.out, ecT_len]; rfl, by rw [H2.out]; exact HA.out, HBX.out⟩
                case pos =>
                  obtain ⟨d, hd, hdn⟩ := HDS.out i hlt
                  obtain ⟨b1, o1, ra, hB1, hcd⟩ := HD.out.at_ (j := i) (by rw [HM.out]; exact hlt)
                  obtain ⟨b2, o2, rb, hB2, hcg⟩ := HG.out.at_ (j := i) (by rw [HQ.out]; exact hlt)
                  subst ra rb
                  have hgb := HGS.out i
                  have hts := ecT_succ n ps ds gs i
                  obtain ⟨x, hx⟩ : ∃ x, gs.getD i 0 = x := ⟨_, rfl⟩
                  rw [hd] at hcd hts
                  rw [hx] at hcg hgb hts
                  rw [Int.toNat_natCast] at hts
                  have HTS := Lib.hid hts
                  have HBD := Lib.hid (fun k => addE_bd (S := ecT n ps ds gs i) (A := 1000000 * (i : Int)) d hgb HPS.out (HLB.out i) k)
                  have HL := Lib.hid (fun k => (addE_len (ecT n ps ds gs i) d x ps k).trans (ecT_len n ps ds gs i))
                  obtain ⟨g1, g2⟩ := hgb
                  have HCD := Lib.hid hcd
                  have HCG := Lib.hid hcg
                  clear hd hx hts hcd hcg
                  go_wp2_with fail
                  go_loopw [12] (fun x_ wr => ∃ k : Nat, k ≤ ps.length ∧ x_ = .int .i64 (k : Int) ∧ RowG w 2 1 G n n ((addE (ecT n ps ds gs i) d x ps k).map iv4) wr) (fun x_ _ => ps.length - (intOf x_).toNat)
                  case atStart => exact ⟨0, by omega, rfl, HR.out⟩
                  case round =>
                    obtain ⟨k, hk, rfl, hR⟩ := hrel
                    replace HR := Lib.hid hR
                    clear hR
                    by_cases hlk : k < ps.length
                    · obtain ⟨b3, o3, rc, hB3, hcp⟩ := HP.out.at_ hlk
                      subst rc
                      have cD := (HR.out.bel.cell (p := ⟨b1, o1 + i, none⟩) hB1).trans HCD.out
                      have cG := (HR.out.bel.cell (p := ⟨b2, o2 + i, none⟩) hB2).trans HCG.out
                      have cP := (HR.out.bel.cell (p := ⟨b3, o3 + k, none⟩) hB3).trans hcp
                      have hs := addE_succ (ecT n ps ds gs i) d x ps k
                      have hv := (HBD.out k).1 (d + k)
                      have hx2 := HPS.out k
                      have c1 := HR.out.at1 (j := d + k) (by omega) (HL.out k)
                      have f1 := HR.out.own.frozenAt (d + k)
                      obtain ⟨y, hy⟩ : ∃ y, ps.getD k 0 = y := ⟨_, rfl⟩
                      obtain ⟨v, hvv⟩ : ∃ v, (addE (ecT n ps ds gs i) d x ps k).getD (d + k) 0 = v := ⟨_, rfl⟩
                      rw [hy] at cP hs hx2
                      rw [hvv] at c1 hs hv
                      obtain ⟨p1, p2⟩ := prod_bd ⟨g1, g2⟩ hx2
                      have q1 : -2000000000 ≤ v := by omega
                      have q2 : v ≤ 2000000000 := by omega
                      have HS := Lib.hid hs
                      have ej : IntKind.wrap .i64 ((d : Int) + (k : Int)) = (d : Int) + (k : Int) := IntWalk.i64_in _ (by omega)
                      have ejn : ((d : Int) + (k : Int)).toNat = d + k := by omega
                      have ejp : 0 ≤ (d : Int) + (k : Int) := by omega
                      have ejl : (d : Int) + (k : Int) < (n : Int) := by omega
                      have exy : IntKind.wrap .i64 (x * y) = x * y := IntWalk.i64_in _ (by omega)
                      have exs : IntKind.wrap .i64 (v + x * y) = v + x * y := IntWalk.i64_in _ (by omega)
                      have HR2 := Lib.hid (HR.out.drew.set (d + k) (v + x * y))
                      clear hy hvv hs hv hx2 hcp
                      go_wp2_with fail
                      go_region_with (first | fail | fail)
                      all_goals
                        go_wp2_with fail
                        go_roundw
                        (case rel => exact ⟨k + 1, by omega, by go_num, by rw [HS.out]; exact HR2.out⟩)
                        (case measure => simp [intOf]; omega)
                    · obtain rfl : k = ps.length := by omega
                      rw [← HTS.out] at HR
                      go_wp2_with fail
                      go_roundw
                      case rel => exact ⟨i + 1, by omega, by go_num, HR.out⟩
                      case measure => simp [intOf]; omega
end Go.Proofs.Ytpnebnjpeiieaaa
