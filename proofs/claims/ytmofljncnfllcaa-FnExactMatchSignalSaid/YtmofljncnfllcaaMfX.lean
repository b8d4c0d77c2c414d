/- The walk of the exact law of MatchSignal: it returns true and writes nothing that was there. -/
import Derived.Test.YtmofljncnfllcaaMfB
import Derived.Test.YtmofljncnfllcaaPuX
namespace Go.Proofs.Ytmofljncnfllcaa
open Go.ChangeShapes Go.WideShapes Go.ChangeAt Go.RowKit Go.Shelf Num
set_option linter.unusedVariables false
set_option linter.unusedSimpArgs false

set_option maxRecDepth 100000 in
set_option maxHeartbeats 8000000 in
theorem lmts (a0 : Option Addr) (len0 cap0 : Nat) (z0 : List Int) (a1 : Option Addr) (len1 cap1 : Nat) (z1 : List Int) (w : World) (w0 : IsRow .i64 w a0 len0 cap0 z0) (w1 : IsRow .i64 w a1 len1 cap1 z1) :
    Calls Try.prog 3 #[.slice a0 len0 cap0, .slice a1 len1 cap1] w fun e w' => e = .returned (.bool true) ∧ Below w.heap.size w w' := by
  obtain ⟨hm0, hlen, hz0, -⟩ := Ints.of_row w0
  obtain ⟨ss, hzs⟩ : ∃ zs, z0.take len0 = zs := ⟨_, rfl⟩
  rw [hzs] at hz0 hlen
  subst hlen
  clear hzs w0
  obtain ⟨hm1, hlen, hz1, -⟩ := Ints.of_row w1
  obtain ⟨ps, hzs⟩ : ∃ zs, z1.take len1 = zs := ⟨_, rfl⟩
  rw [hzs] at hz1 hlen
  subst hlen
  clear hzs w1
  have Hss := Lib.hid (IntL.of hz0)
  have Hps := Lib.hid (IntL.of hz1)
  clear hz0 hz1
  have HB := Lib.hid (Below.refl w.heap.size w)
  by_cases hbss : 1048576 < ss.length
  · go_enter Try.func3, Try.ntmps3
    go_wp2
    go_ret
    exact ⟨rfl, Below.refl _ _⟩
  by_cases hbps : 1048576 < ps.length
  · go_enter Try.func3, Try.ntmps3
    go_wp2
    go_ret
    exact ⟨rfl, Below.refl _ _⟩
  have l120 := mtR_len ss ps
  obtain ⟨LL0, hL0⟩ : ∃ x, mtR ss ps = x := ⟨_, rfl⟩
  rw [hL0] at l120
  obtain ⟨qq, hqq⟩ : ∃ x, mtC ss ps = x := ⟨_, rfl⟩
  have S1 : Hid (∀ (W : World) (a0 a1 : Option Addr) (c0 c1 : Nat), ss.length ≤ c0 → ps.length ≤ c1 → Ints .i64 W W.heap.size a0 ss → Ints .i64 W W.heap.size a1 ps → Calls Try.prog 11 #[.slice a0 ss.length c0, .slice a1 ps.length c1] W fun e w' => ∃ (b0 : Option Addr) (d0 : Nat), e = .returned (.tuple #[.slice b0 LL0.length d0, .int .i64 qq]) ∧ OwnA w' W.heap.size w'.heap.size b0 d0 LL0 ∧ Below W.heap.size W w') := Lib.hid (fun W a0 a1 c0 c1 hc0 hc1 h0 h1 => by have := sms_any W a0 a1 c0 c1 ss ps (by omega) (by omega) h0 h1; rwa [hL0, hqq] at this)
  have S2 : Hid (∀ (W : World) (a0 a1 : Option Addr) (c0 c1 : Nat), ss.length ≤ c0 → ps.length ≤ c1 → Ints .i64 W W.heap.size a0 ss → Ints .i64 W W.heap.size a1 ps → Calls Try.prog 13 #[.slice a0 ss.length c0, .slice a1 ps.length c1] W fun e w' => ∃ (b0 : Option Addr) (d0 : Nat), e = .returned (.tuple #[.slice b0 LL0.length d0, .int .i64 qq]) ∧ OwnA w' W.heap.size w'.heap.size b0 d0 LL0 ∧ Below W.heap.size W w') := Lib.hid (fun W a0 a1 c0 c1 hc0 hc1 h0 h1 => by have := ims_any W a0 a1 c0 c1 ss ps (by omega) (by omega) hc0 h0 h1; rwa [hL0, hqq] at this)
  clear hqq hL0
  go_enter Try.func3, Try.ntmps3
  go_wp2_with fail
  refine (to_any _ _ _ ss (by omega) Hss.out.ints).mono ?_
  rintro e w1 ⟨g1, rfl, hg, hr, hb⟩
  replace Hss := Lib.hid (Hss.out.on hb)
  replace Hps := Lib.hid (Hps.out.on hb)
  replace HB := Lib.hid (bel_end HB.out hb)
  have q1 := hb.size
  have Sss := Lib.hid (ownA_new hr hg (by omega))
  clear hb hg hr
  go_wp2_with fail
  refine (to_any _ _ _ ps (by omega) Hps.out.ints).mono ?_
  rintro e w2 ⟨g2, rfl, hg, hr, hb⟩
  replace Hss := Lib.hid (Hss.out.on hb)
  replace Hps := Lib.hid (Hps.out.on hb)
  replace Sss := Lib.hid (Sss.out.on hb)
  replace HB := Lib.hid (bel_end HB.out hb)
  have q2 := hb.size
  have Sps := Lib.hid (ownA_new hr hg (by omega))
  clear hb hg hr
  go_wp2_with fail
  refine (S1.out _ _ _ _ _ (ownA_cap Sss.out) (ownA_cap Sps.out) Sss.out.ints Sps.out.ints).mono ?_
  rintro e w3 ⟨RSa, RSc, rfl, ho, hb⟩
  replace Hss := Lib.hid (Hss.out.on hb)
  replace Hps := Lib.hid (Hps.out.on hb)
  replace Sss := Lib.hid (Sss.out.on hb)
  replace Sps := Lib.hid (Sps.out.on hb)
  replace HB := Lib.hid (bel_end HB.out hb)
  have q3 := hb.size
  have RS := Lib.hid ho
  clear ho hb
  clear Sss Sps
  go_wp2_with fail
  refine (to_any _ _ _ ss (by omega) Hss.out.ints).mono ?_
  rintro e w4 ⟨g4, rfl, hg, hr, hb⟩
  replace Hss := Lib.hid (Hss.out.on hb)
  replace Hps := Lib.hid (Hps.out.on hb)
  replace RS := Lib.hid (RS.out.on hb)
  replace HB := Lib.hid (bel_end HB.out hb)
  have q4 := hb.size
  have Xss := Lib.hid (ownA_new hr hg (by omega))
  clear hb hg hr
  go_wp2_with fail
  refine (to_any _ _ _ ps (by omega) Hps.out.ints).mono ?_
  rintro e w5 ⟨g5, rfl, hg, hr, hb⟩
  replace Hss := Lib.hid (Hss.out.on hb)
  replace Hps := Lib.hid (Hps.out.on hb)
  replace RS := Lib.hid (RS.out.on hb)
  replace Xss := Lib.hid (Xss.out.on hb)
  replace HB := Lib.hid (bel_end HB.out hb)
  have q5 := hb.size
  have Xps := Lib.hid (ownA_new hr hg (by omega))
  clear hb hg hr
  go_wp2_with fail
  refine (S2.out _ _ _ _ _ (ownA_cap Xss.out) (ownA_cap Xps.out) Xss.out.ints Xps.out.ints).mono ?_
  rintro e w6 ⟨RGa, RGc, rfl, ho, hb⟩
  replace Hss := Lib.hid (Hss.out.on hb)
  replace Hps := Lib.hid (Hps.out.on hb)
  replace RS := Lib.hid (RS.out.on hb)
  replace Xss := Lib.hid (Xss.out.on hb)
  replace Xps := Lib.hid (Xps.out.on hb)
  replace HB := Lib.hid (bel_end HB.out hb)
  have q6 := hb.size
  have RG := Lib.hid ho
  clear ho hb
  go_wp2_with fail
  refine (eql_any _ _ _ _ _ LL0 (by omega) RG.out.ints RS.out.ints).mono ?_
  rintro e w7 ⟨rfl, hb⟩
  replace Hss := Lib.hid (Hss.out.on hb)
  replace Hps := Lib.hid (Hps.out.on hb)
  replace RS := Lib.hid (RS.out.on hb)
  replace Xss := Lib.hid (Xss.out.on hb)
  replace Xps := Lib.hid (Xps.out.on hb)
  replace RG := Lib.hid (RG.out.on hb)
  replace HB := Lib.hid (bel_end HB.out hb)
  have q7 := hb.size
  clear hb
  go_wp2_with fail
  refine (to_any _ _ _ ss (by omega) Hss.out.ints).mono ?_
  rintro e w8 ⟨g8, rfl, hg, hr, hb⟩
  replace Hss := Lib.hid (Hss.out.on hb)
  replace Hps := Lib.hid (Hps.out.on hb)
  replace RS := Lib.hid (RS.out.on hb)
  replace Xss := Lib.hid (Xss.out.on hb)
  replace Xps := Lib.hid (Xps.out.on hb)
  replace RG := Lib.hid (RG.out.on hb)
  replace HB := Lib.hid (bel_end HB.out hb)
  have q8 := hb.size
  have C := Lib.hid (ownA_new hr hg (by omega))
  clear hb hg hr
  go_wp2_with fail
  refine (eql_any _ _ _ _ _ ss (by omega) Xss.out.ints C.out.ints).mono ?_
  rintro e w9 ⟨rfl, hb⟩
  replace Hss := Lib.hid (Hss.out.on hb)
  replace Hps := Lib.hid (Hps.out.on hb)
  replace RS := Lib.hid (RS.out.on hb)
  replace Xss := Lib.hid (Xss.out.on hb)
  replace Xps := Lib.hid (Xps.out.on hb)
  replace RG := Lib.hid (RG.out.on hb)
  replace C := Lib.hid (C.out.on hb)
  replace HB := Lib.hid (bel_end HB.out hb)
  have q9 := hb.size
  clear hb
  clear C
  go_wp2_with fail
  refine (to_any _ _ _ ps (by omega) Hps.out.ints).mono ?_
  rintro e w10 ⟨g10, rfl, hg, hr, hb⟩
  replace Hss := Lib.hid (Hss.out.on hb)
  replace Hps := Lib.hid (Hps.out.on hb)
  replace RS := Lib.hid (RS.out.on hb)
  replace Xss := Lib.hid (Xss.out.on hb)
  replace Xps := Lib.hid (Xps.out.on hb)
  replace RG := Lib.hid (RG.out.on hb)
  replace HB := Lib.hid (bel_end HB.out hb)
  have q10 := hb.size
  have C := Lib.hid (ownA_new hr hg (by omega))
  clear hb hg hr
  go_wp2_with fail
  refine (eql_any _ _ _ _ _ ps (by omega) Xps.out.ints C.out.ints).mono ?_
  rintro e w11 ⟨rfl, hb⟩
  replace Hss := Lib.hid (Hss.out.on hb)
  replace Hps := Lib.hid (Hps.out.on hb)
  replace RS := Lib.hid (RS.out.on hb)
  replace Xss := Lib.hid (Xss.out.on hb)
  replace Xps := Lib.hid (Xps.out.on hb)
  replace RG := Lib.hid (RG.out.on hb)
  replace C := Lib.hid (C.out.on hb)
  replace HB := Lib.hid (bel_end HB.out hb)
  have q11 := hb.size
  clear hb
  clear C
  go_wp2_with fail
  refine (mka_any _ _ _ _ _ ss 1 Xss.out (by omega) (by omega) (by omega)).mono ?_
  rintro e w12 ⟨rfl, ho, hk⟩
  replace Hss := Lib.hid (Hss.out.kept hk (by omega) (by omega))
  replace Hps := Lib.hid (Hps.out.kept hk (by omega) (by omega))
  replace RS := Lib.hid (RS.out.kept hk (by omega))
  replace Xps := Lib.hid (Xps.out.kept hk (by omega))
  replace RG := Lib.hid (RG.out.kept hk (by omega))
  replace HB := Lib.hid (HB.out.trans ((hk.below (by omega)).mono (by omega)))
  replace Xss := Lib.hid ho
  have q12 := hk.size
  clear ho hk
  go_wp2_with fail
  refine (mka_any _ _ _ _ _ ps (1 + (ss.length : Int)) Xps.out (by omega) (by omega) (by omega)).mono ?_
  rintro e w13 ⟨rfl, ho, hk⟩
  replace Hss := Lib.hid (Hss.out.kept hk (by omega) (by omega))
  replace Hps := Lib.hid (Hps.out.kept hk (by omega) (by omega))
  replace RS := Lib.hid (RS.out.kept hk (by omega))
  replace Xss := Lib.hid (Xss.out.kept hk (by omega))
  replace RG := Lib.hid (RG.out.kept hk (by omega))
  replace HB := Lib.hid (HB.out.trans ((hk.below (by omega)).mono (by omega)))
  replace Xps := Lib.hid ho
  have q13 := hk.size
  clear ho hk
  clear Xss Xps
  go_wp2_with fail
  refine (eql_any _ _ _ _ _ LL0 (by omega) RG.out.ints RS.out.ints).mono ?_
  rintro e w14 ⟨rfl, hb⟩
  replace Hss := Lib.hid (Hss.out.on hb)
  replace Hps := Lib.hid (Hps.out.on hb)
  replace RS := Lib.hid (RS.out.on hb)
  replace RG := Lib.hid (RG.out.on hb)
  replace HB := Lib.hid (bel_end HB.out hb)
  have q14 := hb.size
  clear hb
  go_wp2_with fail
  refine (mka_any _ _ _ _ _ LL0 1 RG.out (by omega) (by omega) (by omega)).mono ?_
  rintro e w15 ⟨rfl, ho, hk⟩
  replace Hss := Lib.hid (Hss.out.kept hk (by omega) (by omega))
  replace Hps := Lib.hid (Hps.out.kept hk (by omega) (by omega))
  replace RS := Lib.hid (RS.out.kept hk (by omega))
  replace HB := Lib.hid (HB.out.trans ((hk.below (by omega)).mono (by omega)))
  replace RG := Lib.hid ho
  have q15 := hk.size
  clear ho hk
  go_wp2_with fail
  refine (hdi_any _ _ _ _ LL0.length 1 RG.out.ints (by omega) (by omega) (by omega)).mono ?_
  rintro e w_ ⟨rfl, rfl⟩
  go_wp2_with fail
  refine (to_any _ _ _ ss (by omega) Hss.out.ints).mono ?_
  rintro e w16 ⟨g16, rfl, hg, hr, hb⟩
  replace Hss := Lib.hid (Hss.out.on hb)
  replace Hps := Lib.hid (Hps.out.on hb)
  replace RS := Lib.hid (RS.out.on hb)
  replace RG := Lib.hid (RG.out.on hb)
  replace HB := Lib.hid (bel_end HB.out hb)
  have q16 := hb.size
  have Yss := Lib.hid (ownA_new hr hg (by omega))
  clear hb hg hr
  go_wp2_with fail
  refine (to_any _ _ _ ps (by omega) Hps.out.ints).mono ?_
  rintro e w17 ⟨g17, rfl, hg, hr, hb⟩
  replace Hss := Lib.hid (Hss.out.on hb)
  replace Hps := Lib.hid (Hps.out.on hb)
  replace RS := Lib.hid (RS.out.on hb)
  replace RG := Lib.hid (RG.out.on hb)
  replace Yss := Lib.hid (Yss.out.on hb)
  replace HB := Lib.hid (bel_end HB.out hb)
  have q17 := hb.size
  have Yps := Lib.hid (ownA_new hr hg (by omega))
  clear hb hg hr
  go_wp2_with fail
  refine (S2.out _ _ _ _ _ (ownA_cap Yss.out) (ownA_cap Yps.out) Yss.out.ints Yps.out.ints).mono ?_
  rintro e w18 ⟨RHa, RHc, rfl, ho, hb⟩
  replace Hss := Lib.hid (Hss.out.on hb)
  replace Hps := Lib.hid (Hps.out.on hb)
  replace RS := Lib.hid (RS.out.on hb)
  replace RG := Lib.hid (RG.out.on hb)
  replace Yss := Lib.hid (Yss.out.on hb)
  replace Yps := Lib.hid (Yps.out.on hb)
  replace HB := Lib.hid (bel_end HB.out hb)
  have q18 := hb.size
  have RH := Lib.hid ho
  clear ho hb
  clear Yss Yps
  go_wp2_with fail
  refine (eql_any _ _ _ _ _ LL0 (by omega) RH.out.ints RS.out.ints).mono ?_
  rintro e w19 ⟨rfl, hb⟩
  replace Hss := Lib.hid (Hss.out.on hb)
  replace Hps := Lib.hid (Hps.out.on hb)
  replace RS := Lib.hid (RS.out.on hb)
  replace RG := Lib.hid (RG.out.on hb)
  replace RH := Lib.hid (RH.out.on hb)
  replace HB := Lib.hid (bel_end HB.out hb)
  have q19 := hb.size
  clear hb
  clear RH
  go_wp2_with fail
  refine (hdi_any _ _ _ _ LL0.length 1 RG.out.ints (by omega) (by omega) (by omega)).mono ?_
  rintro e w_ ⟨rfl, rfl⟩
  go_wp2
  go_ret
  exact ⟨rfl, HB.out⟩
end Go.Proofs.Ytmofljncnfllcaa
