/- The walk of the law FnPeaks over drawn data: it returns true and writes nothing that was there. -/
import Derived.Test.YtndbpekmjpelaaaPkP
import Derived.Test.YtndbpekmjpelaaaPkS
import Derived.Test.YtndbpekmjpelaaaPkD
import Derived.Test.YtndbpekmjpelaaaPkF
import Derived.Test.YtndbpekmjpelaaaMfQ
import Derived.Test.YtndbpekmjpelaaaLys
import Derived.Deep.RegionWith
namespace Go.Proofs.Ytndbpekmjpelaaa
open Go.ChangeShapes Go.WideShapes Go.ChangeAt Go.RowKit Go.Shelf Num
set_option linter.unusedVariables false
set_option linter.unusedSimpArgs false
/-- the laws' comparison of a list with itself -/
theorem lkp_any (w : World) (a b : Option Addr) (c d : Nat) (xs : List Int) (hl : xs.length ≤ 1048576) (hx : Ints .i64 w w.heap.size a xs) (hy : Ints .i64 w w.heap.size b xs) :
    Calls Try.prog 16 #[.slice a xs.length c, .slice b xs.length d] w fun e w' => e = .returned (.bool true) ∧ Below w.heap.size w w' :=
  (lki_any w w.heap.size a b c d xs hl hx hy).mono (by rintro e w' ⟨rfl, n, rfl⟩; exact ⟨rfl, bel_drewN (Below.refl _ _) _⟩)
theorem ints_cell {W : World} {B g j : Nat} {zs : List Int} (h : Ints .i64 W B (some ⟨g, 0, none⟩) zs) (hj : j < zs.length) : W.cell? ⟨g, j, none⟩ = some (.int .i64 (zs.getD j 0)) := by
  obtain ⟨b, o, e, hB, hc⟩ := h.at_ hj
  cases e
  simpa using hc
theorem pk_facts {zs : List Int} (h : pkC zs = 0) : smlL 1000000000000 zs ∧ 0 < zs.length ∧ pkR zs = ((pkV zs : Nat) : Int) := by
  have h' := h
  unfold pkC at h
  cases ht : trcB zs
  · rw [ht] at h; simp at h
  · rw [ht] at h
    refine ⟨(trcB_t ht).2, ?_, by unfold pkR; rw [if_pos h']⟩
    by_cases h0 : zs.length = 0
    · rw [if_pos rfl, if_pos h0] at h; omega
    · omega
theorem po_facts {zs : List Int} {th g : Int} (h : poC zs th g = 0) : trcB zs = true ∧ smlL 1000000000000 zs ∧ zs.length ≤ 400 ∧ poL zs th g = poS zs th g := by
  have e : poL zs th g = poS zs th g := by unfold poL; rw [if_pos h]
  unfold poC at h
  cases ht : trcB zs
  · rw [ht] at h; simp at h
  · exact ⟨rfl, (trcB_t ht).2, (trcB_t ht).1, e⟩
theorem own_at0 {W : World} {lo hi : Nat} {a : Option Addr} {c : Nat} {L : List Int} (h : OwnA W lo hi a c L) (h0 : 0 < L.length) : ∃ g, a = some ⟨g, 0, none⟩ := by
  rcases h.own.2 with ⟨_, e⟩ | ⟨g, cap, cur, hv, -⟩
  · omega
  · exact ⟨g, by injection hv⟩
theorem run_max_abs {P : Program} (ts : Array TypeId) (t : TypeId) (x : Int) (w : World) : (Builtin.max_ ts t #[.int .i64 x, .int .i64 (-x)]).run P w = .ok (.int .i64 (x.natAbs : Int)) w := by
  have e : (if x < -x then -x else x) = (x.natAbs : Int) := by split <;> omega
  simp [Builtin.max_, Builtin.max2, e]
attribute [local go_sem] run_max_abs

set_option maxRecDepth 100000 in
set_option maxHeartbeats 8000000 in
theorem lpks (a0 : Option Addr) (len0 cap0 : Nat) (z0 : List Int) (w : World) (w0 : IsRow .u8 w a0 len0 cap0 z0) :
    Calls Try.prog 4 #[.slice a0 len0 cap0] w fun e w' => e = .returned (.bool true) ∧ Below w.heap.size w w' := by
  obtain ⟨hlen, hcode⟩ := Code8.of_row w0
  obtain ⟨zs, hzs⟩ : ∃ zs, z0.take len0 = zs := ⟨_, rfl⟩
  rw [hzs] at hlen hcode
  subst hlen
  clear hzs w0
  have HC := Lib.hid hcode
  clear hcode
  have HB := Lib.hid (Below.refl w.heap.size w)
  by_cases hbig : 4096 < zs.length
  · have hd : decide ((4096 : Int) < (zs.length : Int)) = true := by simp; omega
    go_enter Try.func4, Try.ntmps4
    go_wp2_with (go_at_call 11; refine (big_any _ _ _ _).mono ?_; rw [hd]; rintro e w' ⟨rfl, rfl⟩)
    go_ret
    exact ⟨rfl, Below.refl _ _⟩
  · have hd : decide ((4096 : Int) < (zs.length : Int)) = false := by simp; omega
    go_enter Try.func4, Try.ntmps4
    go_wp2_with (go_at_call 11; refine (big_any _ _ _ _).mono ?_; rw [hd]; rintro e w' ⟨rfl, rfl⟩)
    clear hd
    refine (dpk_any _ _ _ zs HC.out).mono ?_
    rintro e w1 ⟨xg, xc, xs, rfl, n0, k0, hp, hb⟩
    replace HB := Lib.hid (HB.out.trans (hb.mono HB.out.size))
    have q1 := hb.size
    have HX := Lib.hid (IntL.of hp)
    clear hp hb
    obtain ⟨k1, hk1⟩ : ∃ x, pkR xs = x := ⟨_, rfl⟩
    obtain ⟨c1, hc1⟩ : ∃ x, pkC xs = x := ⟨_, rfl⟩
    have K1 : Hid (∀ (W : World) (a : Option Addr) (c : Nat), Ints .i64 W W.heap.size a xs → Calls Try.prog 13 #[.slice a xs.length c] W fun e w' => e = .returned (.tuple #[.int .i64 k1, .int .i64 c1]) ∧ Below W.heap.size W w') := Lib.hid (fun W a c h => by have := ipk_any W a c xs (by omega) h; rwa [hk1, hc1] at this)
    have K2 : Hid (∀ (W : World) (a : Option Addr) (c : Nat), Ints .i64 W W.heap.size a xs → Calls Try.prog 14 #[.slice a xs.length c] W fun e w' => e = .returned (.tuple #[.int .i64 k1, .int .i64 c1]) ∧ Below W.heap.size W w') := Lib.hid (fun W a c h => by have := spk_any W a c xs (by omega) h; rwa [hk1, hc1] at this)
    have HK1 := Lib.hid hk1
    have HC1 := Lib.hid hc1
    clear hk1 hc1
    go_wp2_with fail
    refine (K1.out _ _ _ HX.out.ints).mono ?_
    rintro e w2 ⟨rfl, hb⟩
    replace HX := Lib.hid (HX.out.on hb)
    replace HB := Lib.hid (HB.out.trans (hb.mono HB.out.size))
    have q2 := hb.size
    clear hb K1
    go_wp2_with fail
    refine (K2.out _ _ _ HX.out.ints).mono ?_
    rintro e w3 ⟨rfl, hb⟩
    replace HX := Lib.hid (HX.out.on hb)
    replace HB := Lib.hid (HB.out.trans (hb.mono HB.out.size))
    have q3 := hb.size
    clear hb K2
    go_wp2_with fail
    refine (dpo_any _ _ _ zs ((HC.out.below HB.out (Nat.le_refl _)).more HB.out.size)).mono ?_
    rintro e w4 ⟨tg, tc, ts, th, gd, rfl, n2, k2, hp, hb⟩
    replace HX := Lib.hid (HX.out.on hb)
    replace HB := Lib.hid (HB.out.trans (hb.mono HB.out.size))
    have q4 := hb.size
    have HT := Lib.hid (IntL.of hp)
    clear hp hb
    have l12 := poL_len ts th gd
    obtain ⟨LL, hLL⟩ : ∃ x, poL ts th gd = x := ⟨_, rfl⟩
    obtain ⟨c2, hc2⟩ : ∃ x, poC ts th gd = x := ⟨_, rfl⟩
    rw [hLL] at l12
    have P1 : Hid (∀ (W : World) (a : Option Addr) (c : Nat), Ints .i64 W W.heap.size a ts → Calls Try.prog 7 #[.slice a ts.length c, .int .i64 th, .int .i64 gd] W fun e w' => ∃ (a' : Option Addr) (c' : Nat), e = .returned (.tuple #[.slice a' LL.length c', .int .i64 c2]) ∧ OwnA w' W.heap.size w'.heap.size a' c' LL ∧ Below W.heap.size W w') := Lib.hid (fun W a c h => by have := ipko_any W a c ts th gd (by omega) h; rwa [hLL, hc2] at this)
    have P2 : Hid (∀ (W : World) (a : Option Addr) (c : Nat), Ints .i64 W W.heap.size a ts → Calls Try.prog 5 #[.slice a ts.length c, .int .i64 th, .int .i64 gd] W fun e w' => ∃ (a' : Option Addr) (c' : Nat), e = .returned (.tuple #[.slice a' LL.length c', .int .i64 c2]) ∧ OwnA w' W.heap.size w'.heap.size a' c' LL ∧ Below W.heap.size W w') := Lib.hid (fun W a c h => by have := spo_any W a c ts th gd (by omega) h; rwa [hLL, hc2] at this)
    obtain ⟨k3, hk3⟩ : ∃ x, pkR ts = x := ⟨_, rfl⟩
    obtain ⟨c3, hc3⟩ : ∃ x, pkC ts = x := ⟨_, rfl⟩
    have K3 : Hid (∀ (W : World) (a : Option Addr) (c : Nat), Ints .i64 W W.heap.size a ts → Calls Try.prog 13 #[.slice a ts.length c] W fun e w' => e = .returned (.tuple #[.int .i64 k3, .int .i64 c3]) ∧ Below W.heap.size W w') := Lib.hid (fun W a c h => by have := ipk_any W a c ts (by omega) h; rwa [hk3, hc3] at this)
    have HLL := Lib.hid hLL
    have HC2 := Lib.hid hc2
    have HK3 := Lib.hid hk3
    have HC3 := Lib.hid hc3
    clear hLL hc2 hk3 hc3
    go_wp2_with fail
    refine (P1.out _ _ _ HT.out.ints).mono ?_
    rintro e w5 ⟨la, lc, rfl, ho, hb⟩
    replace HX := Lib.hid (HX.out.on hb)
    replace HT := Lib.hid (HT.out.on hb)
    replace HB := Lib.hid (HB.out.trans (hb.mono HB.out.size))
    have q5 := hb.size
    have HL := Lib.hid ho
    clear ho hb P1
    go_wp2_with fail
    refine (P2.out _ _ _ HT.out.ints).mono ?_
    rintro e w6 ⟨ra, rc, rfl, ho, hb⟩
    replace HX := Lib.hid (HX.out.on hb)
    replace HT := Lib.hid (HT.out.on hb)
    replace HL := Lib.hid (HL.out.on hb)
    replace HB := Lib.hid (HB.out.trans (hb.mono HB.out.size))
    have q6 := hb.size
    have HR := Lib.hid ho
    clear ho hb P2
    go_wp2_with fail
    refine (lkp_any _ _ _ _ _ LL (by omega) HL.out.ints HR.out.ints).mono ?_
    rintro e w7 ⟨rfl, hb⟩
    replace HX := Lib.hid (HX.out.on hb)
    replace HT := Lib.hid (HT.out.on hb)
    replace HL := Lib.hid (HL.out.on hb)
    replace HR := Lib.hid (HR.out.on hb)
    replace HB := Lib.hid (HB.out.trans (hb.mono HB.out.size))
    have q7 := hb.size
    clear hb
    clear HR
    by_cases hc1 : c1 = 0
    · obtain ⟨hsx, hx0, hkr⟩ := pk_facts (by rw [HC1.out]; exact hc1)
      obtain ⟨K, hK⟩ : ∃ K, pkV xs = K := ⟨_, rfl⟩
      have hKl : K < xs.length := by rw [← hK]; exact pkV_lt hx0
      have HGE : Hid (∀ j, j < xs.length → ((xs.getD j 0).natAbs : Int) ≤ ((xs.getD K 0).natAbs : Int)) := Lib.hid (fun j hj => by rw [← hK]; exact pkV_ge hj)
      obtain rfl : k1 = (K : Int) := by rw [← HK1.out, hkr, hK]
      have HSX := Lib.hid hsx
      subst hc1
      clear hkr hK hsx
      go_wp2_with fail
      go_loopw [15] (fun i wr => ∃ j : Nat, j ≤ xs.length ∧ i = .int .i64 (j : Int) ∧ Below w7.heap.size w7 wr) (fun i _ => xs.length - (intOf i).toNat)
      case atStart => exact ⟨0, Nat.zero_le _, rfl, Below.refl _ _⟩
      case round =>
        obtain ⟨j, hj, rfl, hbw⟩ := hrel
        have HBW := Lib.hid hbw
        clear hbw
        replace HX := Lib.hid (HX.out.on HBW.out)
        replace HT := Lib.hid (HT.out.on HBW.out)
        replace HL := Lib.hid (HL.out.on HBW.out)
        replace HB := Lib.hid (bel_end HB.out HBW.out)
        by_cases hlt : j < xs.length
        · have d1 := ints_cell HX.out.ints hlt
          have d2 := ints_cell HX.out.ints hKl
          have hle := HGE.out j hlt
          obtain ⟨u1, u2⟩ := HSX.out j
          obtain ⟨v1, v2⟩ := HSX.out K
          obtain ⟨u, hu⟩ : ∃ u, xs.getD j 0 = u := ⟨_, rfl⟩
          obtain ⟨v, hv⟩ : ∃ v, xs.getD K 0 = v := ⟨_, rfl⟩
          rw [hu] at d1 hle u1 u2
          rw [hv] at d2 hle v1 v2
          clear hu hv
          have hcmp : decide ((v.natAbs : Int) < (u.natAbs : Int)) = false := decide_eq_false (by omega)
          go_upto_region 14 with fail
          go_quiet (fail)
          go_wp2_with fail
          go_roundw
          case rel => exact ⟨j + 1, by omega, by go_num, bel_end HBW.out (below_drewN (Below.refl _ _) _)⟩
          case measure => simp [intOf]; omega
        · obtain rfl : j = xs.length := by omega
          by_cases hc2 : c2 = 0
          case neg =>
            have hz : (c2 != 0) = true := by simpa using hc2
            go_wp2
            go_ret
            exact ⟨rfl, HB.out⟩
          case pos =>
            obtain ⟨htb, hst, htl, hpe⟩ := po_facts (by rw [HC2.out]; exact hc2)
            rw [HLL.out] at hpe
            have HGAP : Hid (∀ i, 0 < i → i < LL.length → gd < LL.getD i 0 - LL.getD (i - 1) 0) := Lib.hid (fun i h0 hi => by rw [hpe] at hi ⊢; exact pk_gap h0 hi)
            have HIN : Hid (∀ i, i < LL.length → ∃ j : Nat, LL.getD i 0 = (j : Int) ∧ j < ts.length ∧ th ≤ ((ts.getD j 0).natAbs : Int)) := Lib.hid (fun i hi => by rw [hpe] at hi ⊢; exact pk_in hi)
            have HTOP : Hid (0 < ts.length → th ≤ ((ts.getD (pkV ts) 0).natAbs : Int) → decide (((pkV ts : Nat) : Int) ∈ LL) = true) := Lib.hid (fun h0 h1 => by rw [hpe]; exact decide_eq_true (pk_top h0 h1))
            have HST := Lib.hid hst
            have HTB := Lib.hid htb
            subst hc2
            clear hpe hst htb
            go_wp2_with fail
            go_loopw [16] (fun i wq => ∃ j : Nat, j ≤ LL.length ∧ i = .int .i64 (j : Int) ∧ Below wr.heap.size wr wq) (fun i _ => LL.length - (intOf i).toNat)
            case atStart => exact ⟨0, Nat.zero_le _, rfl, Below.refl _ _⟩
            case round =>
              obtain ⟨i, hi, rfl, hbw⟩ := hrel
              have HBV := Lib.hid hbw
              clear hbw
              replace HT := Lib.hid (HT.out.on HBV.out)
              replace HL := Lib.hid (HL.out.on HBV.out)
              replace HB := Lib.hid (bel_end HB.out HBV.out)
              by_cases hlt : i < LL.length
              case pos =>
                obtain ⟨m, hm, hml, hth⟩ := HIN.out i hlt
                obtain ⟨gl, ra⟩ := own_at0 HL.out (by omega)
                subst ra
                have d1 := ints_cell HL.out.ints hlt
                have d3 := ints_cell HT.out.ints hml
                obtain ⟨u1, u2⟩ := HST.out m
                obtain ⟨u, hu⟩ : ∃ u, ts.getD m 0 = u := ⟨_, rfl⟩
                rw [hu] at d3 hth u1 u2
                rw [hm] at d1
                clear hu
                have hcmp : decide ((u.natAbs : Int) < th) = false := decide_eq_false (by omega)
                by_cases hi0 : i = 0
                case pos =>
                  subst hi0
                  clear hm
                  go_upto_region 21 with fail
                  go_quiet (fail)
                  go_wp2_with fail
                  go_roundw
                  case rel => exact ⟨0 + 1, by omega, by first | rfl | go_num, bel_end HBV.out (below_drewN (Below.refl _ _) _)⟩
                  case measure => simp [intOf]; omega
                case neg =>
                  have hgap := HGAP.out i (by omega) hlt
                  obtain ⟨p, hp, hpl, -⟩ := HIN.out (i - 1) (by omega)
                  have d2 := ints_cell HL.out.ints (show i - 1 < LL.length by omega)
                  rw [hm, hp] at hgap
                  rw [hp] at d2
                  clear hm hp
                  have hip : (0 : Int) < (i : Int) := by omega
                  have hbi : decide (0 < i) = true := decide_eq_true (by omega)
                  have e1 : ((i : Int) - 1).toNat = i - 1 := by omega
                  have e2 : (0 : Int) ≤ (i : Int) - 1 := by omega
                  have e3 : (i : Int) - 1 < (LL.length : Int) := by omega
                  have hg2 : decide ((m : Int) - (p : Int) ≤ gd) = false := decide_eq_false (by omega)
                  go_upto_region 21 with fail
                  go_quiet (fail)
                  go_wp2_with fail
                  go_roundw
                  case rel => exact ⟨i + 1, by omega, by go_num, bel_end HBV.out (below_drewN (Below.refl _ _) _)⟩
                  case measure => simp [intOf]; omega
              case neg =>
                obtain rfl : i = LL.length := by omega
                go_wp2_with fail
                refine (K3.out _ _ _ HT.out.ints).mono ?_
                rintro e wz ⟨rfl, hb⟩
                replace HT := Lib.hid (HT.out.on hb)
                replace HL := Lib.hid (HL.out.on hb)
                replace HB := Lib.hid (bel_end HB.out hb)
                clear hb K3
                by_cases h0 : ts.length = 0
                case pos =>
                  obtain rfl : c3 = 4 := by rw [← HC3.out]; unfold pkC; rw [HTB.out, if_pos rfl, if_pos h0]
                  clear h0
                  go_wp2_with fail
                  go_quiet (fail)
                  go_wp2
                  go_ret
                  exact ⟨rfl, bel_end HB.out (below_drewN (Below.refl _ _) _)⟩
                case neg =>
                  obtain rfl : c3 = 0 := by rw [← HC3.out]; unfold pkC; rw [HTB.out, if_pos rfl, if_neg h0]
                  have hT2 := HTOP.out (by omega)
                  obtain ⟨-, -, hkr⟩ := pk_facts HC3.out
                  have hTl := pkV_lt (show 0 < ts.length by omega)
                  obtain ⟨T, hT⟩ : ∃ T, pkV ts = T := ⟨_, rfl⟩
                  rw [hT] at hT2 hkr hTl
                  obtain rfl : k3 = (T : Int) := by rw [← HK3.out, hkr]
                  have d4 := ints_cell HT.out.ints hTl
                  obtain ⟨u1, u2⟩ := HST.out T
                  obtain ⟨u, hu⟩ : ∃ u, ts.getD T 0 = u := ⟨_, rfl⟩
                  rw [hu] at d4 hT2 u1 u2
                  clear hu hT hkr
                  have hT0 : (0 : Int) ≤ (T : Int) := by omega
                  have hT1 : (T : Int) < (ts.length : Int) := by omega
                  by_cases hth : th ≤ (u.natAbs : Int)
                  case pos =>
                    have hbm : decide (max u (IntKind.i64.wrap (-u)) < th) = false := by
                      have ew : IntKind.i64.wrap (-u) = -u := IntWalk.i64_in _ (by omega)
                      rw [ew]; exact decide_eq_false (by omega)
                    have hmem := hT2 hth
                    have K4 := Lib.hid (fun (n : Nat) => hsi_any (wz.drewN n) _ la lc LL (T : Int) (by omega) (HL.out.ints.drewN n))
                    rw [hmem] at K4
                    clear hT2 hmem
                    go_wp2_with fail
                    go_quiet ((go_at_call 17; exact Calls.quiet_of_same ((K4.out _).mono fun _ _ h => ⟨h.1, h.2.symm⟩)))
                    go_wp2
                    go_ret
                    exact ⟨rfl, bel_end HB.out (below_drewN (Below.refl _ _) _)⟩
                  case neg =>
                    have hbm : decide (max u (IntKind.i64.wrap (-u)) < th) = true := by
                      have ew : IntKind.i64.wrap (-u) = -u := IntWalk.i64_in _ (by omega)
                      rw [ew]; exact decide_eq_true (by omega)
                    clear hT2
                    go_wp2_with fail
                    go_quiet (fail)
                    go_wp2
                    go_ret
                    exact ⟨rfl, bel_end HB.out (below_drewN (Below.refl _ _) _)⟩
    · have hz1 : (c1 == 0) = false := by simpa using hc1
      go_wp2_with fail
      go_loopw [15] (fun i wr => i = .int .i64 0 ∧ Below w7.heap.size w7 wr) (fun _ _ => 0)
      case atStart => exact ⟨rfl, Below.refl _ _⟩
      case round =>
        obtain ⟨rfl, hbw⟩ := hrel
        have HBW := Lib.hid hbw
        clear hbw
        replace HX := Lib.hid (HX.out.on HBW.out)
        replace HT := Lib.hid (HT.out.on HBW.out)
        replace HL := Lib.hid (HL.out.on HBW.out)
        replace HB := Lib.hid (bel_end HB.out HBW.out)
        by_cases hc2 : c2 = 0
        case neg =>
          have hz : (c2 != 0) = true := by simpa using hc2
          go_wp2
          go_ret
          exact ⟨rfl, HB.out⟩
        case pos =>
          obtain ⟨htb, hst, htl, hpe⟩ := po_facts (by rw [HC2.out]; exact hc2)
          rw [HLL.out] at hpe
          have HGAP : Hid (∀ i, 0 < i → i < LL.length → gd < LL.getD i 0 - LL.getD (i - 1) 0) := Lib.hid (fun i h0 hi => by rw [hpe] at hi ⊢; exact pk_gap h0 hi)
          have HIN : Hid (∀ i, i < LL.length → ∃ j : Nat, LL.getD i 0 = (j : Int) ∧ j < ts.length ∧ th ≤ ((ts.getD j 0).natAbs : Int)) := Lib.hid (fun i hi => by rw [hpe] at hi ⊢; exact pk_in hi)
          have HTOP : Hid (0 < ts.length → th ≤ ((ts.getD (pkV ts) 0).natAbs : Int) → decide (((pkV ts : Nat) : Int) ∈ LL) = true) := Lib.hid (fun h0 h1 => by rw [hpe]; exact decide_eq_true (pk_top h0 h1))
          have HST := Lib.hid hst
          have HTB := Lib.hid htb
          subst hc2
          clear hpe hst htb
          go_wp2_with fail
          go_loopw [16] (fun i wq => ∃ j : Nat, j ≤ LL.length ∧ i = .int .i64 (j : Int) ∧ Below wr.heap.size wr wq) (fun i _ => LL.length - (intOf i).toNat)
          case atStart => exact ⟨0, Nat.zero_le _, rfl, Below.refl _ _⟩
          case round =>
            obtain ⟨i, hi, rfl, hbw⟩ := hrel
            have HBV := Lib.hid hbw
            clear hbw
            replace HT := Lib.hid (HT.out.on HBV.out)
            replace HL := Lib.hid (HL.out.on HBV.out)
            replace HB := Lib.hid (bel_end HB.out HBV.out)
            by_cases hlt : i < LL.length
            case pos =>
              obtain ⟨m, hm, hml, hth⟩ := HIN.out i hlt
              obtain ⟨gl, ra⟩ := own_at0 HL.out (by omega)
              subst ra
              have d1 := ints_cell HL.out.ints hlt
              have d3 := ints_cell HT.out.ints hml
              obtain ⟨u1, u2⟩ := HST.out m
              obtain ⟨u, hu⟩ : ∃ u, ts.getD m 0 = u := ⟨_, rfl⟩
              rw [hu] at d3 hth u1 u2
              rw [hm] at d1
              clear hu
              have hcmp : decide ((u.natAbs : Int) < th) = false := decide_eq_false (by omega)
              by_cases hi0 : i = 0
              case pos =>
                subst hi0
                clear hm
                go_upto_region 21 with fail
                go_quiet (fail)
                go_wp2_with fail
                go_roundw
                case rel => exact ⟨0 + 1, by omega, by first | rfl | go_num, bel_end HBV.out (below_drewN (Below.refl _ _) _)⟩
                case measure => simp [intOf]; omega
              case neg =>
                have hgap := HGAP.out i (by omega) hlt
                obtain ⟨p, hp, hpl, -⟩ := HIN.out (i - 1) (by omega)
                have d2 := ints_cell HL.out.ints (show i - 1 < LL.length by omega)
                rw [hm, hp] at hgap
                rw [hp] at d2
                clear hm hp
                have hip : (0 : Int) < (i : Int) := by omega
                have hbi : decide (0 < i) = true := decide_eq_true (by omega)
                have e1 : ((i : Int) - 1).toNat = i - 1 := by omega
                have e2 : (0 : Int) ≤ (i : Int) - 1 := by omega
                have e3 : (i : Int) - 1 < (LL.length : Int) := by omega
                have hg2 : decide ((m : Int) - (p : Int) ≤ gd) = false := decide_eq_false (by omega)
                go_upto_region 21 with fail
                go_quiet (fail)
                go_wp2_with fail
                go_roundw
                case rel => exact ⟨i + 1, by omega, by go_num, bel_end HBV.out (below_drewN (Below.refl _ _) _)⟩
                case measure => simp [intOf]; omega
            case neg =>
              obtain rfl : i = LL.length := by omega
              go_wp2_with fail
              refine (K3.out _ _ _ HT.out.ints).mono ?_
              rintro e wz ⟨rfl, hb⟩
              replace HT := Lib.hid (HT.out.on hb)
              replace HL := Lib.hid (HL.out.on hb)
              replace HB := Lib.hid (bel_end HB.out hb)
              clear hb K3
              by_cases h0 : ts.length = 0
              case pos =>
                obtain rfl : c3 = 4 := by rw [← HC3.out]; unfold pkC; rw [HTB.out, if_pos rfl, if_pos h0]
                clear h0
                go_wp2_with fail
                go_quiet (fail)
                go_wp2
                go_ret
                exact ⟨rfl, bel_end HB.out (below_drewN (Below.refl _ _) _)⟩
              case neg =>
                obtain rfl : c3 = 0 := by rw [← HC3.out]; unfold pkC; rw [HTB.out, if_pos rfl, if_neg h0]
                have hT2 := HTOP.out (by omega)
                obtain ⟨-, -, hkr⟩ := pk_facts HC3.out
                have hTl := pkV_lt (show 0 < ts.length by omega)
                obtain ⟨T, hT⟩ : ∃ T, pkV ts = T := ⟨_, rfl⟩
                rw [hT] at hT2 hkr hTl
                obtain rfl : k3 = (T : Int) := by rw [← HK3.out, hkr]
                have d4 := ints_cell HT.out.ints hTl
                obtain ⟨u1, u2⟩ := HST.out T
                obtain ⟨u, hu⟩ : ∃ u, ts.getD T 0 = u := ⟨_, rfl⟩
                rw [hu] at d4 hT2 u1 u2
                clear hu hT hkr
                have hT0 : (0 : Int) ≤ (T : Int) := by omega
                have hT1 : (T : Int) < (ts.length : Int) := by omega
                by_cases hth : th ≤ (u.natAbs : Int)
                case pos =>
                  have hbm : decide (max u (IntKind.i64.wrap (-u)) < th) = false := by
                    have ew : IntKind.i64.wrap (-u) = -u := IntWalk.i64_in _ (by omega)
                    rw [ew]; exact decide_eq_false (by omega)
                  have hmem := hT2 hth
                  have K4 := Lib.hid (fun (n : Nat) => hsi_any (wz.drewN n) _ la lc LL (T : Int) (by omega) (HL.out.ints.drewN n))
                  rw [hmem] at K4
                  clear hT2 hmem
                  go_wp2_with fail
                  go_quiet ((go_at_call 17; exact Calls.quiet_of_same ((K4.out _).mono fun _ _ h => ⟨h.1, h.2.symm⟩)))
                  go_wp2
                  go_ret
                  exact ⟨rfl, bel_end HB.out (below_drewN (Below.refl _ _) _)⟩
                case neg =>
                  have hbm : decide (max u (IntKind.i64.wrap (-u)) < th) = true := by
                    have ew : IntKind.i64.wrap (-u) = -u := IntWalk.i64_in _ (by omega)
                    rw [ew]; exact decide_eq_true (by omega)
                  clear hT2
                  go_wp2_with fail
                  go_quiet (fail)
                  go_wp2
                  go_ret
                  exact ⟨rfl, bel_end HB.out (below_drewN (Below.refl _ _) _)⟩
end Go.Proofs.Ytndbpekmjpelaaa
