/- The walk of the exact law of PeaksOver: it returns true and writes nothing that was there. -/
import Derived.Test.YtndbpekmjpelaaaPkP
import Derived.Test.YtndbpekmjpelaaaPkS
import Derived.Test.YtndbpekmjpelaaaPuX
namespace Go.Proofs.Ytndbpekmjpelaaa
open Go.ChangeShapes Go.WideShapes Go.ChangeAt Go.RowKit Go.Shelf Num
set_option linter.unusedVariables false
set_option linter.unusedSimpArgs false

set_option maxRecDepth 100000 in
set_option maxHeartbeats 8000000 in
theorem lpov (a0 : Option Addr) (len0 cap0 : Nat) (z0 : List Int) (th : Int) (g : Int) (w : World) (w0 : IsRow .i64 w a0 len0 cap0 z0) (w1 : (Lit.int .i64 th).wf = true) (w2 : (Lit.int .i64 g).wf = true) :
    Calls Try.prog 3 #[.slice a0 len0 cap0, .int .i64 th, .int .i64 g] w fun e w' => e = .returned (.bool true) ∧ Below w.heap.size w w' := by
  obtain ⟨hm0, hlen, hz0, -⟩ := Ints.of_row w0
  obtain ⟨zs, hzs⟩ : ∃ zs, z0.take len0 = zs := ⟨_, rfl⟩
  rw [hzs] at hz0 hlen
  subst hlen
  clear hzs w0
  clear w1 w2
  have Hzs := Lib.hid (IntL.of hz0)
  clear hz0
  have HB := Lib.hid (Below.refl w.heap.size w)
  by_cases hbzs : 1048576 < zs.length
  · go_enter Try.func3, Try.ntmps3
    go_wp2
    go_ret
    exact ⟨rfl, Below.refl _ _⟩
  have l120 := poL_len zs th g
  obtain ⟨LL0, hL0⟩ : ∃ x, poL zs th g = x := ⟨_, rfl⟩
  rw [hL0] at l120
  obtain ⟨qq, hqq⟩ : ∃ x, poC zs th g = x := ⟨_, rfl⟩
  have S1 : Hid (∀ (W : World) (a0 : Option Addr) (c0 : Nat), zs.length ≤ c0 → Ints .i64 W W.heap.size a0 zs → Calls Try.prog 5 #[.slice a0 zs.length c0, .int .i64 th, .int .i64 g] W fun e w' => ∃ (b0 : Option Addr) (d0 : Nat), e = .returned (.tuple #[.slice b0 LL0.length d0, .int .i64 qq]) ∧ OwnA w' W.heap.size w'.heap.size b0 d0 LL0 ∧ Below W.heap.size W w') := Lib.hid (fun W a0 c0 hc0 h0 => by have := spo_any W a0 c0 zs th g (by omega) h0; rwa [hL0, hqq] at this)
  have S2 : Hid (∀ (W : World) (a0 : Option Addr) (c0 : Nat), zs.length ≤ c0 → Ints .i64 W W.heap.size a0 zs → Calls Try.prog 7 #[.slice a0 zs.length c0, .int .i64 th, .int .i64 g] W fun e w' => ∃ (b0 : Option Addr) (d0 : Nat), e = .returned (.tuple #[.slice b0 LL0.length d0, .int .i64 qq]) ∧ OwnA w' W.heap.size w'.heap.size b0 d0 LL0 ∧ Below W.heap.size W w') := Lib.hid (fun W a0 c0 hc0 h0 => by have := ipko_any W a0 c0 zs th g (by omega) h0; rwa [hL0, hqq] at this)
  clear hqq hL0
  go_enter Try.func3, Try.ntmps3
  go_wp2_with fail
  refine (to_any _ _ _ zs (by omega) Hzs.out.ints).mono ?_
  rintro e w1 ⟨g1, rfl, hg, hr, hb⟩
  replace Hzs := Lib.hid (Hzs.out.on hb)
  replace HB := Lib.hid (bel_end HB.out hb)
  have q1 := hb.size
  have Szs := Lib.hid (ownA_new hr hg (by omega))
  clear hb hg hr
  go_wp2_with fail
  refine (S1.out _ _ _ (ownA_cap Szs.out) Szs.out.ints).mono ?_
  rintro e w2 ⟨RSa, RSc, rfl, ho, hb⟩
  replace Hzs := Lib.hid (Hzs.out.on hb)
  replace Szs := Lib.hid (Szs.out.on hb)
  replace HB := Lib.hid (bel_end HB.out hb)
  have q2 := hb.size
  have RS := Lib.hid ho
  clear ho hb
  clear Szs
  go_wp2_with fail
  refine (to_any _ _ _ zs (by omega) Hzs.out.ints).mono ?_
  rintro e w3 ⟨g3, rfl, hg, hr, hb⟩
  replace Hzs := Lib.hid (Hzs.out.on hb)
  replace RS := Lib.hid (RS.out.on hb)
  replace HB := Lib.hid (bel_end HB.out hb)
  have q3 := hb.size
  have Xzs := Lib.hid (ownA_new hr hg (by omega))
  clear hb hg hr
  go_wp2_with fail
  refine (S2.out _ _ _ (ownA_cap Xzs.out) Xzs.out.ints).mono ?_
  rintro e w4 ⟨RGa, RGc, rfl, ho, hb⟩
  replace Hzs := Lib.hid (Hzs.out.on hb)
  replace RS := Lib.hid (RS.out.on hb)
  replace Xzs := Lib.hid (Xzs.out.on hb)
  replace HB := Lib.hid (bel_end HB.out hb)
  have q4 := hb.size
  have RG := Lib.hid ho
  clear ho hb
  go_wp2_with fail
  refine (eql_any _ _ _ _ _ LL0 (by omega) RG.out.ints RS.out.ints).mono ?_
  rintro e w5 ⟨rfl, hb⟩
  replace Hzs := Lib.hid (Hzs.out.on hb)
  replace RS := Lib.hid (RS.out.on hb)
  replace Xzs := Lib.hid (Xzs.out.on hb)
  replace RG := Lib.hid (RG.out.on hb)
  replace HB := Lib.hid (bel_end HB.out hb)
  have q5 := hb.size
  clear hb
  go_wp2_with fail
  refine (to_any _ _ _ zs (by omega) Hzs.out.ints).mono ?_
  rintro e w6 ⟨g6, rfl, hg, hr, hb⟩
  replace Hzs := Lib.hid (Hzs.out.on hb)
  replace RS := Lib.hid (RS.out.on hb)
  replace Xzs := Lib.hid (Xzs.out.on hb)
  replace RG := Lib.hid (RG.out.on hb)
  replace HB := Lib.hid (bel_end HB.out hb)
  have q6 := hb.size
  have C := Lib.hid (ownA_new hr hg (by omega))
  clear hb hg hr
  go_wp2_with fail
  refine (eql_any _ _ _ _ _ zs (by omega) Xzs.out.ints C.out.ints).mono ?_
  rintro e w7 ⟨rfl, hb⟩
  replace Hzs := Lib.hid (Hzs.out.on hb)
  replace RS := Lib.hid (RS.out.on hb)
  replace Xzs := Lib.hid (Xzs.out.on hb)
  replace RG := Lib.hid (RG.out.on hb)
  replace C := Lib.hid (C.out.on hb)
  replace HB := Lib.hid (bel_end HB.out hb)
  have q7 := hb.size
  clear hb
  clear C
  go_wp2_with fail
  refine (mka_any _ _ _ _ _ zs 1 Xzs.out (by omega) (by omega) (by omega)).mono ?_
  rintro e w8 ⟨rfl, ho, hk⟩
  replace Hzs := Lib.hid (Hzs.out.kept hk (by omega) (by omega))
  replace RS := Lib.hid (RS.out.kept hk (by omega))
  replace RG := Lib.hid (RG.out.kept hk (by omega))
  replace HB := Lib.hid (HB.out.trans ((hk.below (by omega)).mono (by omega)))
  replace Xzs := Lib.hid ho
  have q8 := hk.size
  clear ho hk
  clear Xzs
  go_wp2_with fail
  refine (eql_any _ _ _ _ _ LL0 (by omega) RG.out.ints RS.out.ints).mono ?_
  rintro e w9 ⟨rfl, hb⟩
  replace Hzs := Lib.hid (Hzs.out.on hb)
  replace RS := Lib.hid (RS.out.on hb)
  replace RG := Lib.hid (RG.out.on hb)
  replace HB := Lib.hid (bel_end HB.out hb)
  have q9 := hb.size
  clear hb
  go_wp2_with fail
  refine (mka_any _ _ _ _ _ LL0 1 RG.out (by omega) (by omega) (by omega)).mono ?_
  rintro e w10 ⟨rfl, ho, hk⟩
  replace Hzs := Lib.hid (Hzs.out.kept hk (by omega) (by omega))
  replace RS := Lib.hid (RS.out.kept hk (by omega))
  replace HB := Lib.hid (HB.out.trans ((hk.below (by omega)).mono (by omega)))
  replace RG := Lib.hid ho
  have q10 := hk.size
  clear ho hk
  go_wp2_with fail
  refine (hdi_any _ _ _ _ LL0.length 1 RG.out.ints (by omega) (by omega) (by omega)).mono ?_
  rintro e w_ ⟨rfl, rfl⟩
  go_wp2_with fail
  refine (to_any _ _ _ zs (by omega) Hzs.out.ints).mono ?_
  rintro e w11 ⟨g11, rfl, hg, hr, hb⟩
  replace Hzs := Lib.hid (Hzs.out.on hb)
  replace RS := Lib.hid (RS.out.on hb)
  replace RG := Lib.hid (RG.out.on hb)
  replace HB := Lib.hid (bel_end HB.out hb)
  have q11 := hb.size
  have Yzs := Lib.hid (ownA_new hr hg (by omega))
  clear hb hg hr
  go_wp2_with fail
  refine (S2.out _ _ _ (ownA_cap Yzs.out) Yzs.out.ints).mono ?_
  rintro e w12 ⟨RHa, RHc, rfl, ho, hb⟩
  replace Hzs := Lib.hid (Hzs.out.on hb)
  replace RS := Lib.hid (RS.out.on hb)
  replace RG := Lib.hid (RG.out.on hb)
  replace Yzs := Lib.hid (Yzs.out.on hb)
  replace HB := Lib.hid (bel_end HB.out hb)
  have q12 := hb.size
  have RH := Lib.hid ho
  clear ho hb
  clear Yzs
  go_wp2_with fail
  refine (eql_any _ _ _ _ _ LL0 (by omega) RH.out.ints RS.out.ints).mono ?_
  rintro e w13 ⟨rfl, hb⟩
  replace Hzs := Lib.hid (Hzs.out.on hb)
  replace RS := Lib.hid (RS.out.on hb)
  replace RG := Lib.hid (RG.out.on hb)
  replace RH := Lib.hid (RH.out.on hb)
  replace HB := Lib.hid (bel_end HB.out hb)
  have q13 := hb.size
  clear hb
  clear RH
  go_wp2_with fail
  refine (hdi_any _ _ _ _ LL0.length 1 RG.out.ints (by omega) (by omega) (by omega)).mono ?_
  rintro e w_ ⟨rfl, rfl⟩
  go_wp2
  go_ret
  exact ⟨rfl, HB.out⟩
end Go.Proofs.Ytndbpekmjpelaaa
