/- The walk of the law FnDelays over drawn data: it returns true and writes nothing that was there. -/
import Derived.Test.YthfaejhiabdkbaaBmX
import Derived.Test.YthfaejhiabdkbaaBmE
import Derived.Test.YthfaejhiabdkbaaLys
namespace Go.Proofs.Ythfaejhiabdkbaa
open Go.ChangeShapes Go.WideShapes Go.ChangeAt Go.RowKit Go.Shelf Num
set_option linter.unusedVariables false
set_option linter.unusedSimpArgs false
/-- the laws' comparison of a list with itself -/
theorem lkl_any (w : World) (a b : Option Addr) (c d : Nat) (xs : List Int) (hl : xs.length ≤ 1048576) (hx : Ints .i64 w w.heap.size a xs) (hy : Ints .i64 w w.heap.size b xs) :
    Calls Try.prog 31 #[.slice a xs.length c, .slice b xs.length d] w fun e w' => e = .returned (.bool true) ∧ Below w.heap.size w w' :=
  (lki_any w w.heap.size a b c d xs hl hx hy).mono (by rintro e w' ⟨rfl, n, rfl⟩; exact ⟨rfl, bel_drewN (Below.refl _ _) _⟩)
theorem dl_facts {ps : List Int} {c s h r v : Int} (e : arC ps c s h r v = 0) :
    (-1000 ≤ s ∧ s ≤ 1000) ∧ arC ps c (-s) h r v = 0 ∧ (dlR ps c (-s) h r v).length = (dlR ps c s h r v).length ∧ (deR ps c s h r v).length = (dlR ps c s h r v).length ∧
    ∀ k, k < (dlR ps c s h r v).length → (dlR ps c (-s) h r v).getD k 0 = -(dlR ps c s h r v).getD k 0 ∧ (-10000000000001 ≤ (dlR ps c s h r v).getD k 0 ∧ (dlR ps c s h r v).getD k 0 ≤ 10000000000001) ∧ 0 ≤ (deR ps c s h r v).getD k 0 ∧ (deR ps c s h r v).getD k 0 ≤ 500 := by
  have k := AOk.of e
  have d := dirB_t k.dr
  have em : arC ps c (-s) h r v = 0 := by rw [arC_mir]; exact e
  have e1 : dlR ps c s h r v = dlL ps s h r v ps.length := by unfold dlR; rw [if_pos e]
  have e2 : dlR ps c (-s) h r v = dlL ps (-s) h r v ps.length := by unfold dlR; rw [if_pos em]
  have e3 : deR ps c s h r v = deL ps s h r v ps.length := by unfold deR; rw [if_pos e]
  have hd := k.den
  refine ⟨by have := d.s1; have := d.s2; have := d.h2; omega, em, ?_, ?_, fun j hj => ?_⟩
  · rw [e1, e2, dlL_len, dlL_len]
  · rw [e1, e3, dlL_len, deL_len]
  · rw [e1, dlL_len] at hj
    rw [e1, e2, e3, dlL_at _ _ _ _ _ hj, dlL_at _ _ _ _ _ hj, deL_at _ _ _ _ _ hj]
    have hn := k.num j
    refine ⟨?_, ?_, der_bd (by omega)⟩
    · unfold dly
      have : dnm (ps.getD j 0) r (-s) = -dnm (ps.getD j 0) r s := by unfold dnm; rw [Int.mul_neg]
      rw [this, near_opp _ (by omega)]
    · unfold dly
      exact near_bd _ (by omega) hn.2.2.2.2.1 hn.2.2.2.2.2

set_option maxRecDepth 100000 in
set_option maxHeartbeats 8000000 in
theorem ldys (a0 : Option Addr) (len0 cap0 : Nat) (z0 : List Int) (w : World) (w0 : IsRow .u8 w a0 len0 cap0 z0) :
    Calls Try.prog 8 #[.slice a0 len0 cap0] w fun e w' => e = .returned (.bool true) ∧ Below w.heap.size w w' := by
  obtain ⟨hlen, hcode⟩ := Code8.of_row w0
  obtain ⟨zs, hzs⟩ : ∃ zs, z0.take len0 = zs := ⟨_, rfl⟩
  rw [hzs] at hlen hcode
  subst hlen
  clear hzs w0
  have HC := Lib.hid hcode
  clear hcode
  have HB := Lib.hid (Below.refl w.heap.size w)
  by_cases hbig : 4096 < zs.length
  · have hd : decide ((4096 : Int) < (zs.length : Int)) = true := by simp; omega
    go_enter Try.func8, Try.ntmps8
    go_wp2_with (go_at_call 29; refine (big_any _ _ _ _).mono ?_; rw [hd]; rintro e w' ⟨rfl, rfl⟩)
    go_ret
    exact ⟨rfl, Below.refl _ _⟩
  · have hd : decide ((4096 : Int) < (zs.length : Int)) = false := by simp; omega
    go_enter Try.func8, Try.ntmps8
    go_wp2_with (go_at_call 29; refine (big_any _ _ _ _).mono ?_; rw [hd]; rintro e w' ⟨rfl, rfl⟩)
    clear hd
    refine (ddo_any _ _ _ zs HC.out).mono ?_
    rintro e w1 ⟨pa, pc, ps, dx, dy, dz, r, v, rfl, hl6, ho, hb⟩
    replace HB := Lib.hid (HB.out.trans (hb.mono HB.out.size))
    have q1 := hb.size
    have HP := Lib.hid ho
    clear ho hb
    have HF := Lib.hid (fun h => dl_facts (ps := ps) (c := dx) (s := dy) (h := dz) (r := r) (v := v) h)
    have l1 := dlR_len ps dx dy dz r v
    have l2 := dlR_len ps dx (-dy) dz r v
    have l3 := deR_len ps dx dy dz r v
    obtain ⟨LL, hL⟩ : ∃ x, dlR ps dx dy dz r v = x := ⟨_, rfl⟩
    obtain ⟨MM, hM⟩ : ∃ x, dlR ps dx (-dy) dz r v = x := ⟨_, rfl⟩
    obtain ⟨EE, hE⟩ : ∃ x, deR ps dx dy dz r v = x := ⟨_, rfl⟩
    obtain ⟨qq, hqq⟩ : ∃ x, arC ps dx dy dz r v = x := ⟨_, rfl⟩
    obtain ⟨qm, hqm⟩ : ∃ x, arC ps dx (-dy) dz r v = x := ⟨_, rfl⟩
    rw [hL] at l1
    rw [hM] at l2
    rw [hE] at l3
    rw [hL, hM, hE, hqq, hqm] at HF
    have S1 : Hid (∀ (W : World) (a : Option Addr) (c : Nat), Ints .i64 W W.heap.size a ps → Calls Try.prog 13 #[.slice a ps.length c, .agg #[.int .i64 dx, .int .i64 dy, .int .i64 dz], .int .i64 r, .int .i64 v] W fun e w' => ∃ (a' : Option Addr) (c' : Nat), e = .returned (.tuple #[.slice a' LL.length c', .int .i64 qq]) ∧ OwnA w' W.heap.size w'.heap.size a' c' LL ∧ Below W.heap.size W w') := Lib.hid (fun W a c hz => by have := sdl11_any W a c ps dx dy dz r v (by omega) hz; rwa [hL, hqq] at this)
    have S2 : Hid (∀ (W : World) (a : Option Addr) (c : Nat), Ints .i64 W W.heap.size a ps → Calls Try.prog 15 #[.slice a ps.length c, .agg #[.int .i64 dx, .int .i64 dy, .int .i64 dz], .int .i64 r, .int .i64 v] W fun e w' => ∃ (a' : Option Addr) (c' : Nat), e = .returned (.tuple #[.slice a' LL.length c', .int .i64 qq]) ∧ OwnA w' W.heap.size w'.heap.size a' c' LL ∧ Below W.heap.size W w') := Lib.hid (fun W a c hz => by have := idl11_any W a c ps dx dy dz r v (by omega) hz; rwa [hL, hqq] at this)
    have E1 : Hid (∀ (W : World) (a : Option Addr) (c : Nat), Ints .i64 W W.heap.size a ps → Calls Try.prog 18 #[.slice a ps.length c, .agg #[.int .i64 dx, .int .i64 dy, .int .i64 dz], .int .i64 r, .int .i64 v] W fun e w' => ∃ (a' : Option Addr) (c' : Nat), e = .returned (.tuple #[.slice a' EE.length c', .int .i64 qq]) ∧ OwnA w' W.heap.size w'.heap.size a' c' EE ∧ Below W.heap.size W w') := Lib.hid (fun W a c hz => by have := sde11_any W a c ps dx dy dz r v (by omega) hz; rwa [hE, hqq] at this)
    have E2 : Hid (∀ (W : World) (a : Option Addr) (c : Nat), Ints .i64 W W.heap.size a ps → Calls Try.prog 19 #[.slice a ps.length c, .agg #[.int .i64 dx, .int .i64 dy, .int .i64 dz], .int .i64 r, .int .i64 v] W fun e w' => ∃ (a' : Option Addr) (c' : Nat), e = .returned (.tuple #[.slice a' EE.length c', .int .i64 qq]) ∧ OwnA w' W.heap.size w'.heap.size a' c' EE ∧ Below W.heap.size W w') := Lib.hid (fun W a c hz => by have := ide11_any W a c ps dx dy dz r v (by omega) hz; rwa [hE, hqq] at this)
    have M1 : Hid (∀ (W : World) (a : Option Addr) (c : Nat), Ints .i64 W W.heap.size a ps → Calls Try.prog 13 #[.slice a ps.length c, .agg #[.int .i64 dx, .int .i64 (-dy), .int .i64 dz], .int .i64 r, .int .i64 v] W fun e w' => ∃ (a' : Option Addr) (c' : Nat), e = .returned (.tuple #[.slice a' MM.length c', .int .i64 qm]) ∧ OwnA w' W.heap.size w'.heap.size a' c' MM ∧ Below W.heap.size W w') := Lib.hid (fun W a c hz => by have := sdl11_any W a c ps dx (-dy) dz r v (by omega) hz; rwa [hM, hqm] at this)
    have M2 : Hid (∀ (W : World) (a : Option Addr) (c : Nat), Ints .i64 W W.heap.size a ps → Calls Try.prog 15 #[.slice a ps.length c, .agg #[.int .i64 dx, .int .i64 (-dy), .int .i64 dz], .int .i64 r, .int .i64 v] W fun e w' => ∃ (a' : Option Addr) (c' : Nat), e = .returned (.tuple #[.slice a' MM.length c', .int .i64 qm]) ∧ OwnA w' W.heap.size w'.heap.size a' c' MM ∧ Below W.heap.size W w') := Lib.hid (fun W a c hz => by have := idl11_any W a c ps dx (-dy) dz r v (by omega) hz; rwa [hM, hqm] at this)
    have A2 : Hid (∀ (W : World) (a : Option Addr) (c : Nat), Ints .i64 W W.heap.size a ps → _) := Lib.hid (fun W a c hz => iar_b (w := W) a c ps (by omega) hz)
    have A1 : Hid (∀ (W : World) (a : Option Addr) (c : Nat), Ints .i64 W W.heap.size a ps → _) := Lib.hid (fun W a c hz => sar_b (w := W) a c ps (by omega) hz)
    obtain ⟨AB, hAB⟩ : ∃ u, arrB ps = u := ⟨_, rfl⟩
    rw [hAB] at A1 A2
    clear hAB
    clear hL hM hE hqq hqm
    go_wp2_with fail
    generalize hW : World.alloc _ _ = W2
    have bD : Bk W2 w1.heap.size #[.int .i64 dx, .int .i64 dy, .int .i64 dz] 30 := by rw [← hW]; exact Bk.new' rfl
    have hb : Below w1.heap.size w1 W2 := by rw [← hW]; exact (by repeat (first | exact Below.refl _ _ | (refine Below.alloc ?_ (by simp <;> omega) _) | (refine Below.setCell ?_ (by simp <;> omega) _) | (refine Below.drew ?_) | (refine bel_drewN ?_ _)))
    clear hW
    replace HP := Lib.hid (HP.out.on hb)
    replace HB := Lib.hid (HB.out.trans (hb.mono HB.out.size))
    have q2_ := hb.size
    clear hb
    have HD := Lib.hid bD
    clear bD
    refine (S2.out _ _ _ HP.out.ints).mono ?_
    rintro e w2 ⟨HXa, HXc, rfl, ho, hb⟩
    replace HP := Lib.hid (HP.out.on hb)
    replace HD := Lib.hid (HD.out.on hb)
    replace HB := Lib.hid (HB.out.trans (hb.mono HB.out.size))
    have q2 := hb.size
    have HX := Lib.hid ho
    clear ho hb
    have d0 := HD.out.cell 0 rfl
    have d1 := HD.out.cell 1 rfl
    have d2 := HD.out.cell 2 rfl
    go_wp2_with fail
    clear d0 d1 d2
    refine (S1.out _ _ _ HP.out.ints).mono ?_
    rintro e w3 ⟨HMa, HMc, rfl, ho, hb⟩
    replace HP := Lib.hid (HP.out.on hb)
    replace HD := Lib.hid (HD.out.on hb)
    replace HX := Lib.hid (HX.out.on hb)
    replace HB := Lib.hid (HB.out.trans (hb.mono HB.out.size))
    have q3 := hb.size
    have HM := Lib.hid ho
    clear ho hb
    have d0 := HD.out.cell 0 rfl
    have d1 := HD.out.cell 1 rfl
    have d2 := HD.out.cell 2 rfl
    go_wp2_with fail
    clear d0 d1 d2
    refine (E2.out _ _ _ HP.out.ints).mono ?_
    rintro e w4 ⟨HEa, HEc, rfl, ho, hb⟩
    replace HP := Lib.hid (HP.out.on hb)
    replace HD := Lib.hid (HD.out.on hb)
    replace HX := Lib.hid (HX.out.on hb)
    replace HM := Lib.hid (HM.out.on hb)
    replace HB := Lib.hid (HB.out.trans (hb.mono HB.out.size))
    have q4 := hb.size
    have HE := Lib.hid ho
    clear ho hb
    have d0 := HD.out.cell 0 rfl
    have d1 := HD.out.cell 1 rfl
    have d2 := HD.out.cell 2 rfl
    go_wp2_with fail
    clear d0 d1 d2
    refine (E1.out _ _ _ HP.out.ints).mono ?_
    rintro e w5 ⟨HGa, HGc, rfl, ho, hb⟩
    replace HP := Lib.hid (HP.out.on hb)
    replace HD := Lib.hid (HD.out.on hb)
    replace HX := Lib.hid (HX.out.on hb)
    replace HM := Lib.hid (HM.out.on hb)
    replace HE := Lib.hid (HE.out.on hb)
    replace HB := Lib.hid (HB.out.trans (hb.mono HB.out.size))
    have q5 := hb.size
    have HG := Lib.hid ho
    clear ho hb
    go_wp2_with fail
    refine (lkl_any _ _ _ _ _ LL (by omega) HX.out.ints HM.out.ints).mono ?_
    rintro e w6 ⟨rfl, hb⟩
    replace HP := Lib.hid (HP.out.on hb)
    replace HD := Lib.hid (HD.out.on hb)
    replace HX := Lib.hid (HX.out.on hb)
    replace HM := Lib.hid (HM.out.on hb)
    replace HE := Lib.hid (HE.out.on hb)
    replace HG := Lib.hid (HG.out.on hb)
    replace HB := Lib.hid (HB.out.trans (hb.mono HB.out.size))
    have q6 := hb.size
    clear hb
    go_wp2_with fail
    refine (lkl_any _ _ _ _ _ EE (by omega) HE.out.ints HG.out.ints).mono ?_
    rintro e w7 ⟨rfl, hb⟩
    replace HP := Lib.hid (HP.out.on hb)
    replace HD := Lib.hid (HD.out.on hb)
    replace HX := Lib.hid (HX.out.on hb)
    replace HM := Lib.hid (HM.out.on hb)
    replace HE := Lib.hid (HE.out.on hb)
    replace HG := Lib.hid (HG.out.on hb)
    replace HB := Lib.hid (HB.out.trans (hb.mono HB.out.size))
    have q7 := hb.size
    clear hb
    go_wp2_with fail
    refine (A2.out _ _ _ HP.out.ints).mono ?_
    rintro e w8 ⟨rfl, hb⟩
    replace HP := Lib.hid (HP.out.on hb)
    replace HD := Lib.hid (HD.out.on hb)
    replace HX := Lib.hid (HX.out.on hb)
    replace HM := Lib.hid (HM.out.on hb)
    replace HE := Lib.hid (HE.out.on hb)
    replace HG := Lib.hid (HG.out.on hb)
    replace HB := Lib.hid (HB.out.trans (hb.mono HB.out.size))
    have q8 := hb.size
    clear hb
    go_wp2_with fail
    refine (A1.out _ _ _ HP.out.ints).mono ?_
    rintro e w9 ⟨rfl, hb⟩
    replace HP := Lib.hid (HP.out.on hb)
    replace HD := Lib.hid (HD.out.on hb)
    replace HX := Lib.hid (HX.out.on hb)
    replace HM := Lib.hid (HM.out.on hb)
    replace HE := Lib.hid (HE.out.on hb)
    replace HG := Lib.hid (HG.out.on hb)
    replace HB := Lib.hid (HB.out.trans (hb.mono HB.out.size))
    have q9 := hb.size
    clear hb
    by_cases h0 : qq = 0
    case neg =>
      have hne : (qq != 0) = true := by simpa using h0
      go_wp2
      go_ret
      exact ⟨rfl, HB.out⟩
    case pos =>
      obtain ⟨⟨f1, f2⟩, f3, f4, f5, f6⟩ := HF.out h0
      have HK := Lib.hid f6
      have HN4 := Lib.hid f4
      have HN5 := Lib.hid f5
      subst h0 f3
      clear f6 HF
      have ey : IntKind.wrap .i64 (-dy) = -dy := IntWalk.i64_in _ (by omega)
      have e4 : ((MM.length : Int) != (LL.length : Int)) = false := by rw [f4]; simp
      have e5 : ((EE.length : Int) != (LL.length : Int)) = false := by rw [f5]; simp
      clear f4 f5 f1 f2
      have d0 := HD.out.cell 0 rfl
      have d1 := HD.out.cell 1 rfl
      have d2 := HD.out.cell 2 rfl
      go_wp2_with fail
      clear d0 d1 d2
      refine (M2.out _ _ _ HP.out.ints).mono ?_
      rintro e w10 ⟨HYa, HYc, rfl, ho, hb⟩
      replace HP := Lib.hid (HP.out.on hb)
      replace HD := Lib.hid (HD.out.on hb)
      replace HX := Lib.hid (HX.out.on hb)
      replace HM := Lib.hid (HM.out.on hb)
      replace HE := Lib.hid (HE.out.on hb)
      replace HG := Lib.hid (HG.out.on hb)
      replace HB := Lib.hid (HB.out.trans (hb.mono HB.out.size))
      have q10 := hb.size
      have HY := Lib.hid ho
      clear ho hb
      have d0 := HD.out.cell 0 rfl
      have d1 := HD.out.cell 1 rfl
      have d2 := HD.out.cell 2 rfl
      go_wp2_with fail
      clear d0 d1 d2
      refine (M1.out _ _ _ HP.out.ints).mono ?_
      rintro e w11 ⟨HZa, HZc, rfl, ho, hb⟩
      replace HP := Lib.hid (HP.out.on hb)
      replace HD := Lib.hid (HD.out.on hb)
      replace HX := Lib.hid (HX.out.on hb)
      replace HM := Lib.hid (HM.out.on hb)
      replace HE := Lib.hid (HE.out.on hb)
      replace HG := Lib.hid (HG.out.on hb)
      replace HY := Lib.hid (HY.out.on hb)
      replace HB := Lib.hid (HB.out.trans (hb.mono HB.out.size))
      have q11 := hb.size
      have HZ := Lib.hid ho
      clear ho hb
      clear ey
      go_wp2_with fail
      refine (lkl_any _ _ _ _ _ MM (by omega) HY.out.ints HZ.out.ints).mono ?_
      rintro e w12 ⟨rfl, hb⟩
      replace HP := Lib.hid (HP.out.on hb)
      replace HD := Lib.hid (HD.out.on hb)
      replace HX := Lib.hid (HX.out.on hb)
      replace HM := Lib.hid (HM.out.on hb)
      replace HE := Lib.hid (HE.out.on hb)
      replace HG := Lib.hid (HG.out.on hb)
      replace HY := Lib.hid (HY.out.on hb)
      replace HZ := Lib.hid (HZ.out.on hb)
      replace HB := Lib.hid (HB.out.trans (hb.mono HB.out.size))
      have q12 := hb.size
      clear hb
      go_wp2_with fail
      clear e4 e5
      go_loopw [19] (fun i wr => ∃ k : Nat, (∃ n, wr = w12.drewN n) ∧ k ≤ LL.length ∧ i = .int .i64 k) (fun i _ => LL.length - (intOf i).toNat)
      case atStart => exact ⟨0, ⟨0, rfl⟩, by omega, rfl⟩
      case round =>
        obtain ⟨k, ⟨nd, rfl⟩, hk, rfl⟩ := hrel
        by_cases hlt : k < LL.length
        · obtain ⟨b1, o1, rfl, -, hc1⟩ := HX.out.ints.at_ (j := k) hlt
          obtain ⟨b2, o2, rfl, -, hc2⟩ := HY.out.ints.at_ (j := k) (by rw [HN4.out]; exact hlt)
          obtain ⟨b3, o3, rfl, -, hc3⟩ := HE.out.ints.at_ (j := k) (by rw [HN5.out]; exact hlt)
          obtain ⟨g1, ⟨g2, g3⟩, g4, g5⟩ := HK.out k hlt
          rw [g1] at hc2
          clear g1
          obtain ⟨t, ht⟩ : ∃ u, LL.getD k 0 = u := ⟨_, rfl⟩
          obtain ⟨u, hu⟩ : ∃ u, EE.getD k 0 = u := ⟨_, rfl⟩
          rw [ht] at hc1 hc2 g2 g3
          rw [hu] at hc3 g4 g5
          clear ht hu
          have et : IntKind.wrap .i64 (-t) = -t := IntWalk.i64_in _ (by omega)
          have eu1 : decide (u < 0) = false := decide_eq_false (by omega)
          have eu2 : decide (500 < u) = false := decide_eq_false (by omega)
          have k2 : k < MM.length := by rw [HN4.out]; exact hlt
          have k3 : k < EE.length := by rw [HN5.out]; exact hlt
          clear g2 g3 g4 g5
          go_wp2
          go_quiet (fail)
          go_wp2
          go_roundw
          case rel => exact ⟨k + 1, ⟨_, rfl⟩, by omega, by go_num⟩
          case measure => simp [intOf]; omega
        · go_wp2
          go_ret
          exact ⟨rfl, below_drewN HB.out _⟩
end Go.Proofs.Ythfaejhiabdkbaa
