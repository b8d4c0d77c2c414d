/- The walk of the exact law of EchoesOf: it returns true and writes nothing that was there. -/
import Derived.Test.YtpnebnjpeiieaaaPuX
import Derived.Test.YtpnebnjpeiieaaaPuG
namespace Go.Proofs.Ytpnebnjpeiieaaa
open Go.ChangeShapes Go.WideShapes Go.ChangeAt Go.RowKit Go.Shelf Num
set_option linter.unusedVariables false
set_option linter.unusedSimpArgs false

set_option maxRecDepth 100000 in
set_option maxHeartbeats 8000000 in
theorem lech (a0 : Option Addr) (len0 cap0 : Nat) (z0 : List Int) (a1 : Option Addr) (len1 cap1 : Nat) (z1 : List Int) (a2 : Option Addr) (len2 cap2 : Nat) (z2 : List Int) (n : Int) (w : World) (w0 : IsRow .i64 w a0 len0 cap0 z0) (w1 : IsRow .i64 w a1 len1 cap1 z1) (w2 : IsRow .i64 w a2 len2 cap2 z2) (w3 : (Lit.int .i64 n).wf = true) :
    Calls Try.prog 11 #[.slice a0 len0 cap0, .slice a1 len1 cap1, .slice a2 len2 cap2, .int .i64 n] w fun e w' => e = .returned (.bool true) ∧ Below w.heap.size w w' := by
  obtain ⟨hm0, hlen, hz0, -⟩ := Ints.of_row w0
  obtain ⟨ps, hzs⟩ : ∃ zs, z0.take len0 = zs := ⟨_, rfl⟩
  rw [hzs] at hz0 hlen
  subst hlen
  clear hzs w0
  obtain ⟨hm1, hlen, hz1, -⟩ := Ints.of_row w1
  obtain ⟨ds, hzs⟩ : ∃ zs, z1.take len1 = zs := ⟨_, rfl⟩
  rw [hzs] at hz1 hlen
  subst hlen
  clear hzs w1
  obtain ⟨hm2, hlen, hz2, -⟩ := Ints.of_row w2
  obtain ⟨gs, hzs⟩ : ∃ zs, z2.take len2 = zs := ⟨_, rfl⟩
  rw [hzs] at hz2 hlen
  subst hlen
  clear hzs w2
  clear w3
  have HP := Lib.hid (IntL.of hz0)
  have HD := Lib.hid (IntL.of hz1)
  have HE := Lib.hid (IntL.of hz2)
  clear hz0 hz1 hz2
  have HB := Lib.hid (Below.refl w.heap.size w)
  by_cases hbps : 1048576 < ps.length
  · go_enter Try.func11, Try.ntmps11
    go_wp2
    go_ret
    exact ⟨rfl, Below.refl _ _⟩
  by_cases hbds : 1048576 < ds.length
  · go_enter Try.func11, Try.ntmps11
    go_wp2
    go_ret
    exact ⟨rfl, Below.refl _ _⟩
  by_cases hbgs : 1048576 < gs.length
  · go_enter Try.func11, Try.ntmps11
    go_wp2
    go_ret
    exact ⟨rfl, Below.refl _ _⟩
  have l12 := ecL_len ps ds gs n
  obtain ⟨LL, hL⟩ : ∃ x, ecL ps ds gs n = x := ⟨_, rfl⟩
  obtain ⟨qq, hqq⟩ : ∃ x, ecC ps ds gs n = x := ⟨_, rfl⟩
  rw [hL] at l12
  have S1 : Hid (∀ (W : World) (a b e_ : Option Addr) (c d f_ : Nat), Ints .i64 W W.heap.size a ps → Ints .i64 W W.heap.size b ds → Ints .i64 W W.heap.size e_ gs → Calls Try.prog 31 #[.slice a ps.length c, .slice b ds.length d, .slice e_ gs.length f_, .int .i64 n] W fun e w' => ∃ (a' : Option Addr) (c' : Nat), e = .returned (.tuple #[.slice a' LL.length c', .int .i64 qq]) ∧ OwnA w' W.heap.size w'.heap.size a' c' LL ∧ Below W.heap.size W w') := Lib.hid (fun W a b e_ c d f_ h0 h1 h2 => by have := sec_any W a b e_ c d f_ ps ds gs n (by omega) (by omega) (by omega) h0 h1 h2; rwa [hL, hqq] at this)
  have S2 : Hid (∀ (W : World) (a b e_ : Option Addr) (c d f_ : Nat), Ints .i64 W W.heap.size a ps → Ints .i64 W W.heap.size b ds → Ints .i64 W W.heap.size e_ gs → Calls Try.prog 30 #[.slice a ps.length c, .slice b ds.length d, .slice e_ gs.length f_, .int .i64 n] W fun e w' => ∃ (a' : Option Addr) (c' : Nat), e = .returned (.tuple #[.slice a' LL.length c', .int .i64 qq]) ∧ OwnA w' W.heap.size w'.heap.size a' c' LL ∧ Below W.heap.size W w') := Lib.hid (fun W a b e_ c d f_ h0 h1 h2 => by have := iec_any W a b e_ c d f_ ps ds gs n (by omega) (by omega) (by omega) h0 h1 h2; rwa [hL, hqq] at this)
  clear hL hqq
  go_enter Try.func11, Try.ntmps11
  go_wp2_with fail
  refine (to_any _ _ _ ps (by omega) HP.out.ints).mono ?_
  rintro e w1 ⟨g1, rfl, hg, hr, hb⟩
  replace HP := Lib.hid (HP.out.on hb)
  replace HD := Lib.hid (HD.out.on hb)
  replace HE := Lib.hid (HE.out.on hb)
  replace HB := Lib.hid (bel_end HB.out hb)
  have q1 := hb.size
  have HS0 := Lib.hid (ownA_new hr hg (by omega))
  clear hb hg hr
  go_wp2_with fail
  refine (to_any _ _ _ ds (by omega) HD.out.ints).mono ?_
  rintro e w2 ⟨g2, rfl, hg, hr, hb⟩
  replace HP := Lib.hid (HP.out.on hb)
  replace HD := Lib.hid (HD.out.on hb)
  replace HE := Lib.hid (HE.out.on hb)
  replace HS0 := Lib.hid (HS0.out.on hb)
  replace HB := Lib.hid (bel_end HB.out hb)
  have q2 := hb.size
  have HS1 := Lib.hid (ownA_new hr hg (by omega))
  clear hb hg hr
  go_wp2_with fail
  refine (to_any _ _ _ gs (by omega) HE.out.ints).mono ?_
  rintro e w3 ⟨g3, rfl, hg, hr, hb⟩
  replace HP := Lib.hid (HP.out.on hb)
  replace HD := Lib.hid (HD.out.on hb)
  replace HE := Lib.hid (HE.out.on hb)
  replace HS0 := Lib.hid (HS0.out.on hb)
  replace HS1 := Lib.hid (HS1.out.on hb)
  replace HB := Lib.hid (bel_end HB.out hb)
  have q3 := hb.size
  have HS2 := Lib.hid (ownA_new hr hg (by omega))
  clear hb hg hr
  go_wp2_with fail
  refine (S1.out _ _ _ _ _ _ _ HS0.out.ints HS1.out.ints HS2.out.ints).mono ?_
  rintro e w4 ⟨sa, sc, rfl, ho, hb⟩
  replace HP := Lib.hid (HP.out.on hb)
  replace HD := Lib.hid (HD.out.on hb)
  replace HE := Lib.hid (HE.out.on hb)
  replace HS0 := Lib.hid (HS0.out.on hb)
  replace HS1 := Lib.hid (HS1.out.on hb)
  replace HS2 := Lib.hid (HS2.out.on hb)
  replace HB := Lib.hid (bel_end HB.out hb)
  have q4 := hb.size
  have HS := Lib.hid ho
  clear ho hb
  clear HS0 HS1 HS2
  go_wp2_with fail
  refine (to_any _ _ _ ps (by omega) HP.out.ints).mono ?_
  rintro e w5 ⟨g5, rfl, hg, hr, hb⟩
  replace HP := Lib.hid (HP.out.on hb)
  replace HD := Lib.hid (HD.out.on hb)
  replace HE := Lib.hid (HE.out.on hb)
  replace HS := Lib.hid (HS.out.on hb)
  replace HB := Lib.hid (bel_end HB.out hb)
  have q5 := hb.size
  have HX0 := Lib.hid (ownA_new hr hg (by omega))
  clear hb hg hr
  go_wp2_with fail
  refine (to_any _ _ _ ds (by omega) HD.out.ints).mono ?_
  rintro e w6 ⟨g6, rfl, hg, hr, hb⟩
  replace HP := Lib.hid (HP.out.on hb)
  replace HD := Lib.hid (HD.out.on hb)
  replace HE := Lib.hid (HE.out.on hb)
  replace HS := Lib.hid (HS.out.on hb)
  replace HX0 := Lib.hid (HX0.out.on hb)
  replace HB := Lib.hid (bel_end HB.out hb)
  have q6 := hb.size
  have HX1 := Lib.hid (ownA_new hr hg (by omega))
  clear hb hg hr
  go_wp2_with fail
  refine (to_any _ _ _ gs (by omega) HE.out.ints).mono ?_
  rintro e w7 ⟨g7, rfl, hg, hr, hb⟩
  replace HP := Lib.hid (HP.out.on hb)
  replace HD := Lib.hid (HD.out.on hb)
  replace HE := Lib.hid (HE.out.on hb)
  replace HS := Lib.hid (HS.out.on hb)
  replace HX0 := Lib.hid (HX0.out.on hb)
  replace HX1 := Lib.hid (HX1.out.on hb)
  replace HB := Lib.hid (bel_end HB.out hb)
  have q7 := hb.size
  have HX2 := Lib.hid (ownA_new hr hg (by omega))
  clear hb hg hr
  go_wp2_with fail
  refine (S2.out _ _ _ _ _ _ _ HX0.out.ints HX1.out.ints HX2.out.ints).mono ?_
  rintro e w8 ⟨ga, gc, rfl, ho, hb⟩
  replace HP := Lib.hid (HP.out.on hb)
  replace HD := Lib.hid (HD.out.on hb)
  replace HE := Lib.hid (HE.out.on hb)
  replace HS := Lib.hid (HS.out.on hb)
  replace HX0 := Lib.hid (HX0.out.on hb)
  replace HX1 := Lib.hid (HX1.out.on hb)
  replace HX2 := Lib.hid (HX2.out.on hb)
  replace HB := Lib.hid (bel_end HB.out hb)
  have q8 := hb.size
  have HG := Lib.hid ho
  clear ho hb
  go_wp2_with fail
  refine (eql_any _ _ _ _ _ LL (by omega) HG.out.ints HS.out.ints).mono ?_
  rintro e w9 ⟨rfl, hb⟩
  replace HP := Lib.hid (HP.out.on hb)
  replace HD := Lib.hid (HD.out.on hb)
  replace HE := Lib.hid (HE.out.on hb)
  replace HS := Lib.hid (HS.out.on hb)
  replace HX0 := Lib.hid (HX0.out.on hb)
  replace HX1 := Lib.hid (HX1.out.on hb)
  replace HX2 := Lib.hid (HX2.out.on hb)
  replace HG := Lib.hid (HG.out.on hb)
  replace HB := Lib.hid (bel_end HB.out hb)
  have q9 := hb.size
  clear hb
  go_wp2_with fail
  refine (to_any _ _ _ ps (by omega) HP.out.ints).mono ?_
  rintro e w10 ⟨g10, rfl, hg, hr, hb⟩
  replace HP := Lib.hid (HP.out.on hb)
  replace HD := Lib.hid (HD.out.on hb)
  replace HE := Lib.hid (HE.out.on hb)
  replace HS := Lib.hid (HS.out.on hb)
  replace HX0 := Lib.hid (HX0.out.on hb)
  replace HX1 := Lib.hid (HX1.out.on hb)
  replace HX2 := Lib.hid (HX2.out.on hb)
  replace HG := Lib.hid (HG.out.on hb)
  replace HB := Lib.hid (bel_end HB.out hb)
  have q10 := hb.size
  have HC := Lib.hid (ownA_new hr hg (by omega))
  clear hb hg hr
  go_wp2_with fail
  refine (eql_any _ _ _ _ _ ps (by omega) HX0.out.ints HC.out.ints).mono ?_
  rintro e w11 ⟨rfl, hb⟩
  replace HP := Lib.hid (HP.out.on hb)
  replace HD := Lib.hid (HD.out.on hb)
  replace HE := Lib.hid (HE.out.on hb)
  replace HS := Lib.hid (HS.out.on hb)
  replace HX0 := Lib.hid (HX0.out.on hb)
  replace HX1 := Lib.hid (HX1.out.on hb)
  replace HX2 := Lib.hid (HX2.out.on hb)
  replace HG := Lib.hid (HG.out.on hb)
  replace HC := Lib.hid (HC.out.on hb)
  replace HB := Lib.hid (bel_end HB.out hb)
  have q11 := hb.size
  clear hb
  clear HC
  go_wp2_with fail
  refine (to_any _ _ _ ds (by omega) HD.out.ints).mono ?_
  rintro e w12 ⟨g12, rfl, hg, hr, hb⟩
  replace HP := Lib.hid (HP.out.on hb)
  replace HD := Lib.hid (HD.out.on hb)
  replace HE := Lib.hid (HE.out.on hb)
  replace HS := Lib.hid (HS.out.on hb)
  replace HX0 := Lib.hid (HX0.out.on hb)
  replace HX1 := Lib.hid (HX1.out.on hb)
  replace HX2 := Lib.hid (HX2.out.on hb)
  replace HG := Lib.hid (HG.out.on hb)
  replace HB := Lib.hid (bel_end HB.out hb)
  have q12 := hb.size
  have HC := Lib.hid (ownA_new hr hg (by omega))
  clear hb hg hr
  go_wp2_with fail
  refine (eql_any _ _ _ _ _ ds (by omega) HX1.out.ints HC.out.ints).mono ?_
  rintro e w13 ⟨rfl, hb⟩
  replace HP := Lib.hid (HP.out.on hb)
  replace HD := Lib.hid (HD.out.on hb)
  replace HE := Lib.hid (HE.out.on hb)
  replace HS := Lib.hid (HS.out.on hb)
  replace HX0 := Lib.hid (HX0.out.on hb)
  replace HX1 := Lib.hid (HX1.out.on hb)
  replace HX2 := Lib.hid (HX2.out.on hb)
  replace HG := Lib.hid (HG.out.on hb)
  replace HC := Lib.hid (HC.out.on hb)
  replace HB := Lib.hid (bel_end HB.out hb)
  have q13 := hb.size
  clear hb
  clear HC
  go_wp2_with fail
  refine (to_any _ _ _ gs (by omega) HE.out.ints).mono ?_
  rintro e w14 ⟨g14, rfl, hg, hr, hb⟩
  replace HP := Lib.hid (HP.out.on hb)
  replace HD := Lib.hid (HD.out.on hb)
  replace HE := Lib.hid (HE.out.on hb)
  replace HS := Lib.hid (HS.out.on hb)
  replace HX0 := Lib.hid (HX0.out.on hb)
  replace HX1 := Lib.hid (HX1.out.on hb)
  replace HX2 := Lib.hid (HX2.out.on hb)
  replace HG := Lib.hid (HG.out.on hb)
  replace HB := Lib.hid (bel_end HB.out hb)
  have q14 := hb.size
  have HC := Lib.hid (ownA_new hr hg (by omega))
  clear hb hg hr
  go_wp2_with fail
  refine (eql_any _ _ _ _ _ gs (by omega) HX2.out.ints HC.out.ints).mono ?_
  rintro e w15 ⟨rfl, hb⟩
  replace HP := Lib.hid (HP.out.on hb)
  replace HD := Lib.hid (HD.out.on hb)
  replace HE := Lib.hid (HE.out.on hb)
  replace HS := Lib.hid (HS.out.on hb)
  replace HX0 := Lib.hid (HX0.out.on hb)
  replace HX1 := Lib.hid (HX1.out.on hb)
  replace HX2 := Lib.hid (HX2.out.on hb)
  replace HG := Lib.hid (HG.out.on hb)
  replace HC := Lib.hid (HC.out.on hb)
  replace HB := Lib.hid (bel_end HB.out hb)
  have q15 := hb.size
  clear hb
  clear HC
  go_wp2_with fail
  refine (mka_any _ _ _ _ _ ps 1 HX0.out (by omega) (by omega) (by omega)).mono ?_
  rintro e w16 ⟨rfl, ho, hk⟩
  replace HP := Lib.hid (HP.out.kept hk (by omega) (by omega))
  replace HD := Lib.hid (HD.out.kept hk (by omega) (by omega))
  replace HE := Lib.hid (HE.out.kept hk (by omega) (by omega))
  replace HS := Lib.hid (HS.out.kept hk (by omega))
  replace HX1 := Lib.hid (HX1.out.kept hk (by omega))
  replace HX2 := Lib.hid (HX2.out.kept hk (by omega))
  replace HG := Lib.hid (HG.out.kept hk (by omega))
  replace HB := Lib.hid (HB.out.trans ((hk.below (by omega)).mono (by omega)))
  replace HX0 := Lib.hid ho
  have q16 := hk.size
  clear ho hk
  go_wp2_with fail
  refine (mka_any _ _ _ _ _ ds (1 + (ps.length : Int)) HX1.out (by omega) (by omega) (by omega)).mono ?_
  rintro e w17 ⟨rfl, ho, hk⟩
  replace HP := Lib.hid (HP.out.kept hk (by omega) (by omega))
  replace HD := Lib.hid (HD.out.kept hk (by omega) (by omega))
  replace HE := Lib.hid (HE.out.kept hk (by omega) (by omega))
  replace HS := Lib.hid (HS.out.kept hk (by omega))
  replace HX0 := Lib.hid (HX0.out.kept hk (by omega))
  replace HX2 := Lib.hid (HX2.out.kept hk (by omega))
  replace HG := Lib.hid (HG.out.kept hk (by omega))
  replace HB := Lib.hid (HB.out.trans ((hk.below (by omega)).mono (by omega)))
  replace HX1 := Lib.hid ho
  have q17 := hk.size
  clear ho hk
  go_wp2_with fail
  refine (mka_any _ _ _ _ _ gs (1 + (ps.length : Int) + (ds.length : Int)) HX2.out (by omega) (by omega) (by omega)).mono ?_
  rintro e w18 ⟨rfl, ho, hk⟩
  replace HP := Lib.hid (HP.out.kept hk (by omega) (by omega))
  replace HD := Lib.hid (HD.out.kept hk (by omega) (by omega))
  replace HE := Lib.hid (HE.out.kept hk (by omega) (by omega))
  replace HS := Lib.hid (HS.out.kept hk (by omega))
  replace HX0 := Lib.hid (HX0.out.kept hk (by omega))
  replace HX1 := Lib.hid (HX1.out.kept hk (by omega))
  replace HG := Lib.hid (HG.out.kept hk (by omega))
  replace HB := Lib.hid (HB.out.trans ((hk.below (by omega)).mono (by omega)))
  replace HX2 := Lib.hid ho
  have q18 := hk.size
  clear ho hk
  clear HX0 HX1 HX2
  go_wp2_with fail
  refine (eql_any _ _ _ _ _ LL (by omega) HG.out.ints HS.out.ints).mono ?_
  rintro e w19 ⟨rfl, hb⟩
  replace HP := Lib.hid (HP.out.on hb)
  replace HD := Lib.hid (HD.out.on hb)
  replace HE := Lib.hid (HE.out.on hb)
  replace HS := Lib.hid (HS.out.on hb)
  replace HG := Lib.hid (HG.out.on hb)
  replace HB := Lib.hid (bel_end HB.out hb)
  have q19 := hb.size
  clear hb
  go_wp2_with fail
  refine (mka_any _ _ _ _ _ LL 1 HG.out (by omega) (by omega) (by omega)).mono ?_
  rintro e w20 ⟨rfl, ho, hk⟩
  replace HP := Lib.hid (HP.out.kept hk (by omega) (by omega))
  replace HD := Lib.hid (HD.out.kept hk (by omega) (by omega))
  replace HE := Lib.hid (HE.out.kept hk (by omega) (by omega))
  replace HS := Lib.hid (HS.out.kept hk (by omega))
  replace HB := Lib.hid (HB.out.trans ((hk.below (by omega)).mono (by omega)))
  replace HG := Lib.hid ho
  have q20 := hk.size
  clear ho hk
  go_wp2_with fail
  refine (hdi_any _ _ _ _ LL.length 1 HG.out.ints (by omega) (by omega) (by omega)).mono ?_
  rintro e w_ ⟨rfl, rfl⟩
  go_wp2_with fail
  refine (to_any _ _ _ ps (by omega) HP.out.ints).mono ?_
  rintro e w21 ⟨g21, rfl, hg, hr, hb⟩
  replace HP := Lib.hid (HP.out.on hb)
  replace HD := Lib.hid (HD.out.on hb)
  replace HE := Lib.hid (HE.out.on hb)
  replace HS := Lib.hid (HS.out.on hb)
  replace HG := Lib.hid (HG.out.on hb)
  replace HB := Lib.hid (bel_end HB.out hb)
  have q21 := hb.size
  have HY0 := Lib.hid (ownA_new hr hg (by omega))
  clear hb hg hr
  go_wp2_with fail
  refine (to_any _ _ _ ds (by omega) HD.out.ints).mono ?_
  rintro e w22 ⟨g22, rfl, hg, hr, hb⟩
  replace HP := Lib.hid (HP.out.on hb)
  replace HD := Lib.hid (HD.out.on hb)
  replace HE := Lib.hid (HE.out.on hb)
  replace HS := Lib.hid (HS.out.on hb)
  replace HG := Lib.hid (HG.out.on hb)
  replace HY0 := Lib.hid (HY0.out.on hb)
  replace HB := Lib.hid (bel_end HB.out hb)
  have q22 := hb.size
  have HY1 := Lib.hid (ownA_new hr hg (by omega))
  clear hb hg hr
  go_wp2_with fail
  refine (to_any _ _ _ gs (by omega) HE.out.ints).mono ?_
  rintro e w23 ⟨g23, rfl, hg, hr, hb⟩
  replace HP := Lib.hid (HP.out.on hb)
  replace HD := Lib.hid (HD.out.on hb)
  replace HE := Lib.hid (HE.out.on hb)
  replace HS := Lib.hid (HS.out.on hb)
  replace HG := Lib.hid (HG.out.on hb)
  replace HY0 := Lib.hid (HY0.out.on hb)
  replace HY1 := Lib.hid (HY1.out.on hb)
  replace HB := Lib.hid (bel_end HB.out hb)
  have q23 := hb.size
  have HY2 := Lib.hid (ownA_new hr hg (by omega))
  clear hb hg hr
  go_wp2_with fail
  refine (S2.out _ _ _ _ _ _ _ HY0.out.ints HY1.out.ints HY2.out.ints).mono ?_
  rintro e w24 ⟨ha, hc, rfl, ho, hb⟩
  replace HP := Lib.hid (HP.out.on hb)
  replace HD := Lib.hid (HD.out.on hb)
  replace HE := Lib.hid (HE.out.on hb)
  replace HS := Lib.hid (HS.out.on hb)
  replace HG := Lib.hid (HG.out.on hb)
  replace HY0 := Lib.hid (HY0.out.on hb)
  replace HY1 := Lib.hid (HY1.out.on hb)
  replace HY2 := Lib.hid (HY2.out.on hb)
  replace HB := Lib.hid (bel_end HB.out hb)
  have q24 := hb.size
  have HH := Lib.hid ho
  clear ho hb
  clear HY0 HY1 HY2
  go_wp2_with fail
  refine (eql_any _ _ _ _ _ LL (by omega) HH.out.ints HS.out.ints).mono ?_
  rintro e w25 ⟨rfl, hb⟩
  replace HP := Lib.hid (HP.out.on hb)
  replace HD := Lib.hid (HD.out.on hb)
  replace HE := Lib.hid (HE.out.on hb)
  replace HS := Lib.hid (HS.out.on hb)
  replace HG := Lib.hid (HG.out.on hb)
  replace HH := Lib.hid (HH.out.on hb)
  replace HB := Lib.hid (bel_end HB.out hb)
  have q25 := hb.size
  clear hb
  clear HH
  go_wp2_with fail
  refine (hdi_any _ _ _ _ LL.length 1 HG.out.ints (by omega) (by omega) (by omega)).mono ?_
  rintro e w_ ⟨rfl, rfl⟩
  go_wp2
  go_ret
  exact ⟨rfl, HB.out⟩
end Go.Proofs.Ytpnebnjpeiieaaa
