/- The walk of the law FnEchoSums over drawn data: it returns true and writes nothing that was there. -/
import Derived.Test.YtpnebnjpeiieaaaPuX
import Derived.Test.YtpnebnjpeiieaaaPuD
import Derived.Test.YtpnebnjpeiieaaaPuK
import Derived.Test.YtpnebnjpeiieaaaPuG
import Derived.Test.YtpnebnjpeiieaaaPuJ
namespace Go.Proofs.Ytpnebnjpeiieaaa
open Go.ChangeShapes Go.WideShapes Go.ChangeAt Go.RowKit Go.Shelf Num
set_option linter.unusedVariables false
set_option linter.unusedSimpArgs false
/-- the laws' comparison of a list with itself -/
theorem lkl_any (w : World) (a b : Option Addr) (c d : Nat) (xs : List Int) (hl : xs.length ≤ 1048576) (hx : Ints .i64 w w.heap.size a xs) (hy : Ints .i64 w w.heap.size b xs) :
    Calls Try.prog 24 #[.slice a xs.length c, .slice b xs.length d] w fun e w' => e = .returned (.bool true) ∧ Below w.heap.size w w' :=
  (lki_any w w.heap.size a b c d xs hl hx hy).mono (by rintro e w' ⟨rfl, n, rfl⟩; exact ⟨rfl, bel_drewN (Below.refl _ _) _⟩)
theorem lsm_any (w : World) (B : Nat) (a : Option Addr) (c : Nat) (zs : List Int) (hn : zs.length ≤ 1000) (h1 : smlL 1000 zs) (hz : Ints .i64 w B a zs) :
    Calls Try.prog 35 #[.slice a zs.length c] w fun e w' => e = .returned (.int .i64 (sumL zs)) ∧ w = w' := by
  have H1 := Lib.hid h1
  clear h1
  go_enter Try.func35, Try.ntmps35
  go_wp2
  go_loop [3, 4] (fun s i => ∃ k : Nat, k ≤ zs.length ∧ i = .int .i64 k ∧ s = .int .i64 (sumT (fun i => zs.getD i 0) k)) (fun _ i => zs.length - (intOf i).toNat)
  case atStart => exact ⟨0, by omega, rfl, rfl⟩
  case round =>
    obtain ⟨k, hk, rfl, rfl⟩ := hrel
    by_cases hlt : k < zs.length
    · obtain ⟨b, off, rfl, -, hc⟩ := hz.at_ hlt
      have hx := H1.out k
      have hd := sumT_bd (f := fun i => zs.getD i 0) (A := 1000) (m := k) (fun i _ => H1.out i)
      have hs := sumT_succ (fun i => zs.getD i 0) k
      obtain ⟨S, hS⟩ : ∃ S, sumT (fun i => zs.getD i 0) k = S := ⟨_, rfl⟩
      obtain ⟨x, hx1⟩ : ∃ x, zs.getD k 0 = x := ⟨_, rfl⟩
      rw [hx1] at hc hx
      rw [hS] at hd hs ⊢
      rw [hx1] at hs
      have HS := Lib.hid hs
      obtain ⟨x1, x2⟩ := hx
      have q1 : -1000000 ≤ S := by omega
      have q2 : S ≤ 1000000 := by omega
      clear hz hx1 hS hs hd
      go_wp2
      go_round
      case rel => exact ⟨k + 1, by omega, by go_num, by rw [HS.out]⟩
      case measure => simp [intOf]; omega
    · obtain rfl : k = zs.length := by omega
      go_wp2
      go_ret
      exact ⟨rfl, rfl⟩
theorem ec_facts {ps ds gs : List Int} {len : Int} (h : ecC ps ds gs len = 0) : ((ecL ps ds gs len).length : Int) = len ∧ sumL (ecL ps ds gs len) = sumL ps * sumL gs ∧ smlL 1000 (ecL ps ds gs len) ∧ smlL 1000 ps ∧ smlL 1000 gs ∧ ps.length ≤ 400 ∧ gs.length ≤ 200 := by
  obtain ⟨h1, h2, h3⟩ := ecC_0 h
  obtain ⟨⟨l0, l4⟩, d2, g2, hg, hd⟩ := ecOK_t h2
  have e : ecL ps ds gs len = ecT len.toNat ps ds gs ds.length := by unfold ecL; rw [if_pos h]
  have hs := sigB_t h1
  rw [e]
  refine ⟨by rw [ecT_len]; omega, ?_, (sigB_t h3).2, hs.2, anyLack_sml (by decide) hg, hs.1, by omega⟩
  rw [sum_ecT (fun i hi => by have := anyLack_all hd hi; omega) (Nat.le_refl _), Int.mul_comm]
  unfold sumL
  rw [g2]

set_option maxRecDepth 100000 in
set_option maxHeartbeats 8000000 in
theorem lecs (a0 : Option Addr) (len0 cap0 : Nat) (z0 : List Int) (w : World) (w0 : IsRow .u8 w a0 len0 cap0 z0) :
    Calls Try.prog 5 #[.slice a0 len0 cap0] w fun e w' => e = .returned (.bool true) ∧ Below w.heap.size w w' := by
  obtain ⟨hlen, hcode⟩ := Code8.of_row w0
  obtain ⟨zs, hzs⟩ : ∃ zs, z0.take len0 = zs := ⟨_, rfl⟩
  rw [hzs] at hlen hcode
  subst hlen
  clear hzs w0
  have HC := Lib.hid hcode
  clear hcode
  have HB := Lib.hid (Below.refl w.heap.size w)
  by_cases hbig : 4096 < zs.length
  · have hd : decide ((4096 : Int) < (zs.length : Int)) = true := by simp; omega
    go_enter Try.func5, Try.ntmps5
    go_wp2_with (go_at_call 14; refine (big_any _ _ _ _).mono ?_; rw [hd]; rintro e w' ⟨rfl, rfl⟩)
    go_ret
    exact ⟨rfl, Below.refl _ _⟩
  · have hd : decide ((4096 : Int) < (zs.length : Int)) = false := by simp; omega
    go_enter Try.func5, Try.ntmps5
    go_wp2_with (go_at_call 14; refine (big_any _ _ _ _).mono ?_; rw [hd]; rintro e w' ⟨rfl, rfl⟩)
    clear hd
    refine (dec_any _ _ _ zs HC.out).mono ?_
    rintro e w1 ⟨pa, da, ga, pc, pn, dc, dn, gc, gn, ps, ds, gs, len, rfl, ⟨rfl, rfl, rfl⟩, ⟨n0, n1, n2⟩, hp, hd, hg, hb⟩
    replace HB := Lib.hid (HB.out.trans (hb.mono HB.out.size))
    have q1 := hb.size
    have HP := Lib.hid (IntL.of hp)
    have HD := Lib.hid (IntL.of hd)
    have HG := Lib.hid (IntL.of hg)
    clear hp hd hg hb
    have HF := Lib.hid (fun h => ec_facts (ps := ps) (ds := ds) (gs := gs) (len := len) h)
    have l12 := ecL_len ps ds gs len
    obtain ⟨LL, hL⟩ : ∃ x, ecL ps ds gs len = x := ⟨_, rfl⟩
    obtain ⟨qq, hqq⟩ : ∃ x, ecC ps ds gs len = x := ⟨_, rfl⟩
    rw [hL] at l12
    rw [hL, hqq] at HF
    have S1 : Hid (∀ (W : World) (a b e_ : Option Addr) (c d f_ : Nat), Ints .i64 W W.heap.size a ps → Ints .i64 W W.heap.size b ds → Ints .i64 W W.heap.size e_ gs → Calls Try.prog 31 #[.slice a ps.length c, .slice b ds.length d, .slice e_ gs.length f_, .int .i64 len] W fun e w' => ∃ (a' : Option Addr) (c' : Nat), e = .returned (.tuple #[.slice a' LL.length c', .int .i64 qq]) ∧ OwnA w' W.heap.size w'.heap.size a' c' LL ∧ Below W.heap.size W w') := Lib.hid (fun W a b e_ c d f_ h0 h1 h2 => by have := sec_any W a b e_ c d f_ ps ds gs len (by omega) (by omega) (by omega) h0 h1 h2; rwa [hL, hqq] at this)
    have S2 : Hid (∀ (W : World) (a b e_ : Option Addr) (c d f_ : Nat), Ints .i64 W W.heap.size a ps → Ints .i64 W W.heap.size b ds → Ints .i64 W W.heap.size e_ gs → Calls Try.prog 30 #[.slice a ps.length c, .slice b ds.length d, .slice e_ gs.length f_, .int .i64 len] W fun e w' => ∃ (a' : Option Addr) (c' : Nat), e = .returned (.tuple #[.slice a' LL.length c', .int .i64 qq]) ∧ OwnA w' W.heap.size w'.heap.size a' c' LL ∧ Below W.heap.size W w') := Lib.hid (fun W a b e_ c d f_ h0 h1 h2 => by have := iec_any W a b e_ c d f_ ps ds gs len (by omega) (by omega) (by omega) h0 h1 h2; rwa [hL, hqq] at this)
    clear hL hqq
    go_wp2_with fail
    refine (S2.out _ _ _ _ _ _ _ HP.out.ints HD.out.ints HG.out.ints).mono ?_
    rintro e w2 ⟨xa, xc, rfl, ho, hb⟩
    replace HP := Lib.hid (HP.out.on hb)
    replace HD := Lib.hid (HD.out.on hb)
    replace HG := Lib.hid (HG.out.on hb)
    replace HB := Lib.hid (HB.out.trans (hb.mono HB.out.size))
    have q2 := hb.size
    have HX := Lib.hid ho
    clear ho hb
    go_wp2_with fail
    refine (S1.out _ _ _ _ _ _ _ HP.out.ints HD.out.ints HG.out.ints).mono ?_
    rintro e w3 ⟨ma, mc, rfl, ho, hb⟩
    replace HP := Lib.hid (HP.out.on hb)
    replace HD := Lib.hid (HD.out.on hb)
    replace HG := Lib.hid (HG.out.on hb)
    replace HX := Lib.hid (HX.out.on hb)
    replace HB := Lib.hid (HB.out.trans (hb.mono HB.out.size))
    have q3 := hb.size
    have HM := Lib.hid ho
    clear ho hb
    go_wp2_with fail
    refine (dbc_any _ _ _ zs (HC.out.below HB.out (Nat.le_refl _) |>.more HB.out.size)).mono ?_
    rintro e w4 ⟨nb, rfl, hb⟩
    replace HP := Lib.hid (HP.out.on hb)
    replace HD := Lib.hid (HD.out.on hb)
    replace HG := Lib.hid (HG.out.on hb)
    replace HX := Lib.hid (HX.out.on hb)
    replace HM := Lib.hid (HM.out.on hb)
    replace HB := Lib.hid (HB.out.trans (hb.mono HB.out.size))
    have q4 := hb.size
    clear hb
    have lb := bcL_len nb
    obtain ⟨LB, hLB⟩ : ∃ x, bcL nb = x := ⟨_, rfl⟩
    obtain ⟨qb, hqb⟩ : ∃ x, bcC nb = x := ⟨_, rfl⟩
    rw [hLB] at lb
    have S3 : Hid (∀ (W : World), Calls Try.prog 34 #[.int .i64 nb] W fun e w' => ∃ (a' : Option Addr) (c' : Nat), e = .returned (.tuple #[.slice a' LB.length c', .int .i64 qb]) ∧ OwnA w' W.heap.size w'.heap.size a' c' LB ∧ Below W.heap.size W w') := Lib.hid (fun W => by have := sbc_any W nb; rwa [hLB, hqb] at this)
    have S4 : Hid (∀ (W : World), Calls Try.prog 33 #[.int .i64 nb] W fun e w' => ∃ (a' : Option Addr) (c' : Nat), e = .returned (.tuple #[.slice a' LB.length c', .int .i64 qb]) ∧ OwnA w' W.heap.size w'.heap.size a' c' LB ∧ Below W.heap.size W w') := Lib.hid (fun W => by have := ibc_any W nb; rwa [hLB, hqb] at this)
    clear hLB hqb
    go_wp2_with fail
    refine (S4.out _).mono ?_
    rintro e w5 ⟨ua, uc, rfl, ho, hb⟩
    replace HP := Lib.hid (HP.out.on hb)
    replace HD := Lib.hid (HD.out.on hb)
    replace HG := Lib.hid (HG.out.on hb)
    replace HX := Lib.hid (HX.out.on hb)
    replace HM := Lib.hid (HM.out.on hb)
    replace HB := Lib.hid (HB.out.trans (hb.mono HB.out.size))
    have q5 := hb.size
    have HU := Lib.hid ho
    clear ho hb
    go_wp2_with fail
    refine (S3.out _).mono ?_
    rintro e w6 ⟨va, vc, rfl, ho, hb⟩
    replace HP := Lib.hid (HP.out.on hb)
    replace HD := Lib.hid (HD.out.on hb)
    replace HG := Lib.hid (HG.out.on hb)
    replace HX := Lib.hid (HX.out.on hb)
    replace HM := Lib.hid (HM.out.on hb)
    replace HU := Lib.hid (HU.out.on hb)
    replace HB := Lib.hid (HB.out.trans (hb.mono HB.out.size))
    have q6 := hb.size
    have HV := Lib.hid ho
    clear ho hb
    go_wp2_with fail
    refine (lkl_any _ _ _ _ _ LL (by omega) HX.out.ints HM.out.ints).mono ?_
    rintro e w7 ⟨rfl, hb⟩
    replace HP := Lib.hid (HP.out.on hb)
    replace HD := Lib.hid (HD.out.on hb)
    replace HG := Lib.hid (HG.out.on hb)
    replace HX := Lib.hid (HX.out.on hb)
    replace HM := Lib.hid (HM.out.on hb)
    replace HU := Lib.hid (HU.out.on hb)
    replace HV := Lib.hid (HV.out.on hb)
    replace HB := Lib.hid (HB.out.trans (hb.mono HB.out.size))
    have q7 := hb.size
    clear hb
    go_wp2_with fail
    refine (lkl_any _ _ _ _ _ LB (by omega) HU.out.ints HV.out.ints).mono ?_
    rintro e w8 ⟨rfl, hb⟩
    replace HP := Lib.hid (HP.out.on hb)
    replace HD := Lib.hid (HD.out.on hb)
    replace HG := Lib.hid (HG.out.on hb)
    replace HX := Lib.hid (HX.out.on hb)
    replace HM := Lib.hid (HM.out.on hb)
    replace HU := Lib.hid (HU.out.on hb)
    replace HV := Lib.hid (HV.out.on hb)
    replace HB := Lib.hid (HB.out.trans (hb.mono HB.out.size))
    have q8 := hb.size
    clear hb
    by_cases h0 : qq = 0
    · obtain ⟨f1, f2, f3, f4, f5, f6, f7⟩ := HF.out h0
      have hle : ((LL.length : Int) == len) = true := by simpa using f1
      have KX := Lib.hid (fun (W : World) (hz : Ints .i64 W W.heap.size xa LL) => lsm_any W _ xa xc LL (by omega) f3 hz)
      have KP := Lib.hid (fun (W : World) (hz : Ints .i64 W W.heap.size pa ps) => lsm_any W _ pa pc ps (by omega) f4 hz)
      have KG := Lib.hid (fun (W : World) (hz : Ints .i64 W W.heap.size ga gs) => lsm_any W _ ga gc gs (by omega) f5 hz)
      have b1 := sumL_bd f4
      have b2 := sumL_bd f5
      obtain ⟨X, hX⟩ : ∃ x, sumL LL = x := ⟨_, rfl⟩
      obtain ⟨P, hP⟩ : ∃ x, sumL ps = x := ⟨_, rfl⟩
      obtain ⟨Q, hQ⟩ : ∃ x, sumL gs = x := ⟨_, rfl⟩
      rw [hX, hP, hQ] at f2
      rw [hX] at KX
      rw [hP] at KP b1
      rw [hQ] at KG b2
      subst f2 h0
      have m1 := mul_abs (a := P) (n := Q) (A := 400000) (N := 200000) (by omega) (by omega)
      have p1 : -80000000000 ≤ P * Q := by omega
      have p2 : P * Q ≤ 80000000000 := by omega
      clear hX hP hQ b1 b2 m1 f3 f4 f5 HF f1
      go_wp2_with fail
      refine (KX.out _ HX.out.ints).mono ?_
      rintro e w' ⟨rfl, rfl⟩
      go_wp2_with fail
      refine (KP.out _ HP.out.ints).mono ?_
      rintro e w' ⟨rfl, rfl⟩
      go_wp2_with fail
      refine (KG.out _ HG.out.ints).mono ?_
      rintro e w' ⟨rfl, rfl⟩
      go_wp2
      go_ret
      exact ⟨by first | rfl | (simp; done), HB.out⟩
    · have hne : (qq != 0) = true := by simpa using h0
      go_wp2
      go_ret
      exact ⟨rfl, HB.out⟩
end Go.Proofs.Ytpnebnjpeiieaaa
