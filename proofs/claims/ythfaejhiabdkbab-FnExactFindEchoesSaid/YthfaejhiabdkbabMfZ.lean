/- The walk of the exact law of FindEchoes: it returns true and writes nothing that was there. -/
import Derived.Test.YthfaejhiabdkbabMfG
import Derived.Test.YthfaejhiabdkbabPuX
namespace Go.Proofs.Ythfaejhiabdkbab
open Go.ChangeShapes Go.WideShapes Go.ChangeAt Go.RowKit Go.Shelf Num
set_option linter.unusedVariables false
set_option linter.unusedSimpArgs false
theorem mkf_any (w : World) (lo hi : Nat) (a b : Option Addr) (c d : Nat) (zs ys : List Int) (k : Int) (h : OwnQ w lo hi a c b d zs ys) (hn : zs.length ≤ 1048576) (k0 : 0 ≤ k) (k1 : k ≤ 4000000) :
    Calls Try.prog 17 #[.slice a zs.length c, .int .i64 k] w fun e w' => e = .returned (.int .i64 (k + (zs.length : Int))) ∧ OwnQ w' lo hi a c b d (ramp k zs.length) ys ∧ Kept lo hi w w' :=
  (mkb_any w lo hi a c zs k h.fst hn k0 k1).mono fun e w' ⟨he, ho, hg⟩ => ⟨he, ⟨ho, ⟨h.snd.own.kept hg (by
    cases e : (Value.slice b ys.length d).ownBlock with
    | none => exact Or.inl rfl
    | some x => exact Or.inr fun e' => h.ne x e'.symm e), h.snd.lt, Nat.le_trans h.snd.up hg.size⟩, by rw [ramp_len]; exact h.ne⟩, Kept.of_grown hg (fun g e => ⟨(h.fst.own.lt g e).1, h.fst.lt g e⟩)⟩
theorem OwnQ.swapQ {w : World} {lo hi : Nat} {a b : Option Addr} {c d : Nat} {zs ys : List Int} (h : OwnQ w lo hi a c b d zs ys) : OwnQ w lo hi b d a c ys zs := ⟨h.snd, h.fst, fun g e e' => h.ne g e' e⟩
theorem mks_any (w : World) (lo hi : Nat) (a b : Option Addr) (c d : Nat) (zs ys : List Int) (k : Int) (h : OwnQ w lo hi a c b d zs ys) (hn : ys.length ≤ 1048576) (k0 : 0 ≤ k) (k1 : k ≤ 4000000) :
    Calls Try.prog 17 #[.slice b ys.length d, .int .i64 k] w fun e w' => e = .returned (.int .i64 (k + (ys.length : Int))) ∧ OwnQ w' lo hi a c b d zs (ramp k ys.length) ∧ Kept lo hi w w' :=
  (mkf_any w lo hi b a d c ys zs k h.swapQ hn k0 k1).mono fun e w' ⟨he, ho, hk⟩ => ⟨he, ho.swapQ, hk⟩
theorem ownQ_on {w w' : World} {lo hi : Nat} {a b : Option Addr} {c d : Nat} {zs ys : List Int} (h : OwnQ w lo hi a c b d zs ys) (hb : Below w.heap.size w w') : OwnQ w' lo hi a c b d zs ys := h.on hb
theorem feD_len (ss ps : List Int) (th mo : Int) : (feD ss ps th mo).length ≤ 10 ∧ (feG ss ps th mo).length ≤ 10 := by
  by_cases h : feC ss ps th mo = 0
  · obtain ⟨e1, e2⟩ := feD_ok h
    rw [e1, e2]
    have hm : mo ≤ 10 := by
      unfold feC at h
      split at h
      · split at h
        · rename_i hh
          unfold hasB at hh
          simp only [Bool.and_eq_true, decide_eq_true_eq] at hh
          omega
        · omega
      · rename_i h0
        exact absurd h h0
    obtain ⟨h1, h2⟩ := fGo_len ps th mo.toNat ss [] [] rfl
    simp only [List.length_nil] at h2
    omega
  · obtain ⟨e1, e2⟩ := feD_no h
    rw [e1, e2]
    exact ⟨by simp, by simp⟩

set_option maxRecDepth 100000 in
set_option maxHeartbeats 8000000 in
theorem lfec (a0 : Option Addr) (len0 cap0 : Nat) (z0 : List Int) (a1 : Option Addr) (len1 cap1 : Nat) (z1 : List Int) (th : Int) (mo : Int) (w : World) (w0 : IsRow .i64 w a0 len0 cap0 z0) (w1 : IsRow .i64 w a1 len1 cap1 z1) (w2 : (Lit.int .i64 th).wf = true) (w3 : (Lit.int .i64 mo).wf = true) :
    Calls Try.prog 5 #[.slice a0 len0 cap0, .slice a1 len1 cap1, .int .i64 th, .int .i64 mo] w fun e w' => e = .returned (.bool true) ∧ Below w.heap.size w w' := by
  obtain ⟨hm0, hlen, hz0, -⟩ := Ints.of_row w0
  obtain ⟨ss, hzs⟩ : ∃ zs, z0.take len0 = zs := ⟨_, rfl⟩
  rw [hzs] at hz0 hlen
  subst hlen
  clear hzs w0
  obtain ⟨hm1, hlen, hz1, -⟩ := Ints.of_row w1
  obtain ⟨ps, hzs⟩ : ∃ zs, z1.take len1 = zs := ⟨_, rfl⟩
  rw [hzs] at hz1 hlen
  subst hlen
  clear hzs w1
  clear w2 w3
  have Hss := Lib.hid (IntL.of hz0)
  have Hps := Lib.hid (IntL.of hz1)
  clear hz0 hz1
  have HB := Lib.hid (Below.refl w.heap.size w)
  by_cases hbss : 1048576 < ss.length
  · go_enter Try.func5, Try.ntmps5
    go_wp2
    go_ret
    exact ⟨rfl, Below.refl _ _⟩
  by_cases hbps : 1048576 < ps.length
  · go_enter Try.func5, Try.ntmps5
    go_wp2
    go_ret
    exact ⟨rfl, Below.refl _ _⟩
  obtain ⟨l120, l121⟩ := feD_len ss ps th mo
  obtain ⟨LL0, hL0⟩ : ∃ x, feD ss ps th mo = x := ⟨_, rfl⟩
  rw [hL0] at l120
  obtain ⟨LL1, hL1⟩ : ∃ x, feG ss ps th mo = x := ⟨_, rfl⟩
  rw [hL1] at l121
  obtain ⟨qq, hqq⟩ : ∃ x, feC ss ps th mo = x := ⟨_, rfl⟩
  have S1 : Hid (∀ (W : World) (a0 a1 : Option Addr) (c0 c1 : Nat), ss.length ≤ c0 → ps.length ≤ c1 → Ints .i64 W W.heap.size a0 ss → Ints .i64 W W.heap.size a1 ps → Calls Try.prog 13 #[.slice a0 ss.length c0, .slice a1 ps.length c1, .int .i64 th, .int .i64 mo] W fun e w' => ∃ (b0 : Option Addr) (d0 : Nat) (b1 : Option Addr) (d1 : Nat), e = .returned (.tuple #[.slice b0 LL0.length d0, .slice b1 LL1.length d1, .int .i64 qq]) ∧ OwnQ w' W.heap.size w'.heap.size b0 d0 b1 d1 LL0 LL1 ∧ Below W.heap.size W w') := Lib.hid (fun W a0 a1 c0 c1 hc0 hc1 h0 h1 => by have := sfe_any W a0 a1 c0 c1 ss ps th mo (by omega) (by omega) h0 h1; rwa [hL0, hL1, hqq] at this)
  have S2 : Hid (∀ (W : World) (a0 a1 : Option Addr) (c0 c1 : Nat), ss.length ≤ c0 → ps.length ≤ c1 → Ints .i64 W W.heap.size a0 ss → Ints .i64 W W.heap.size a1 ps → Calls Try.prog 15 #[.slice a0 ss.length c0, .slice a1 ps.length c1, .int .i64 th, .int .i64 mo] W fun e w' => ∃ (b0 : Option Addr) (d0 : Nat) (b1 : Option Addr) (d1 : Nat), e = .returned (.tuple #[.slice b0 LL0.length d0, .slice b1 LL1.length d1, .int .i64 qq]) ∧ OwnQ w' W.heap.size w'.heap.size b0 d0 b1 d1 LL0 LL1 ∧ Below W.heap.size W w') := Lib.hid (fun W a0 a1 c0 c1 hc0 hc1 h0 h1 => by have := ife_any W a0 a1 c0 c1 ss ps th mo (by omega) (by omega) hc0 hc1 h0 h1; rwa [hL0, hL1, hqq] at this)
  clear hqq hL0 hL1
  go_enter Try.func5, Try.ntmps5
  go_wp2_with fail
  refine (to_any _ _ _ ss (by omega) Hss.out.ints).mono ?_
  rintro e w1 ⟨g1, rfl, hg, hr, hb⟩
  replace Hss := Lib.hid (Hss.out.on hb)
  replace Hps := Lib.hid (Hps.out.on hb)
  replace HB := Lib.hid (bel_end HB.out hb)
  have q1 := hb.size
  have Sss := Lib.hid (ownA_new hr hg (by omega))
  clear hb hg hr
  go_wp2_with fail
  refine (to_any _ _ _ ps (by omega) Hps.out.ints).mono ?_
  rintro e w2 ⟨g2, rfl, hg, hr, hb⟩
  replace Hss := Lib.hid (Hss.out.on hb)
  replace Hps := Lib.hid (Hps.out.on hb)
  replace Sss := Lib.hid (Sss.out.on hb)
  replace HB := Lib.hid (bel_end HB.out hb)
  have q2 := hb.size
  have Sps := Lib.hid (ownA_new hr hg (by omega))
  clear hb hg hr
  go_wp2_with fail
  refine (S1.out _ _ _ _ _ (ownA_cap Sss.out) (ownA_cap Sps.out) Sss.out.ints Sps.out.ints).mono ?_
  rintro e w3 ⟨RSa, RSc, RSb, RSd, rfl, ho, hb⟩
  replace Hss := Lib.hid (Hss.out.on hb)
  replace Hps := Lib.hid (Hps.out.on hb)
  replace Sss := Lib.hid (Sss.out.on hb)
  replace Sps := Lib.hid (Sps.out.on hb)
  replace HB := Lib.hid (bel_end HB.out hb)
  have q3 := hb.size
  have RS := Lib.hid ho
  clear ho hb
  clear Sss Sps
  go_wp2_with fail
  refine (to_any _ _ _ ss (by omega) Hss.out.ints).mono ?_
  rintro e w4 ⟨g4, rfl, hg, hr, hb⟩
  replace Hss := Lib.hid (Hss.out.on hb)
  replace Hps := Lib.hid (Hps.out.on hb)
  replace RS := Lib.hid (RS.out.on hb)
  replace HB := Lib.hid (bel_end HB.out hb)
  have q4 := hb.size
  have Xss := Lib.hid (ownA_new hr hg (by omega))
  clear hb hg hr
  go_wp2_with fail
  refine (to_any _ _ _ ps (by omega) Hps.out.ints).mono ?_
  rintro e w5 ⟨g5, rfl, hg, hr, hb⟩
  replace Hss := Lib.hid (Hss.out.on hb)
  replace Hps := Lib.hid (Hps.out.on hb)
  replace RS := Lib.hid (RS.out.on hb)
  replace Xss := Lib.hid (Xss.out.on hb)
  replace HB := Lib.hid (bel_end HB.out hb)
  have q5 := hb.size
  have Xps := Lib.hid (ownA_new hr hg (by omega))
  clear hb hg hr
  go_wp2_with fail
  refine (S2.out _ _ _ _ _ (ownA_cap Xss.out) (ownA_cap Xps.out) Xss.out.ints Xps.out.ints).mono ?_
  rintro e w6 ⟨RGa, RGc, RGb, RGd, rfl, ho, hb⟩
  replace Hss := Lib.hid (Hss.out.on hb)
  replace Hps := Lib.hid (Hps.out.on hb)
  replace RS := Lib.hid (RS.out.on hb)
  replace Xss := Lib.hid (Xss.out.on hb)
  replace Xps := Lib.hid (Xps.out.on hb)
  replace HB := Lib.hid (bel_end HB.out hb)
  have q6 := hb.size
  have RG := Lib.hid ho
  clear ho hb
  go_wp2_with fail
  refine (eql_any _ _ _ _ _ LL0 (by omega) RG.out.fst.ints RS.out.fst.ints).mono ?_
  rintro e w7 ⟨rfl, hb⟩
  replace Hss := Lib.hid (Hss.out.on hb)
  replace Hps := Lib.hid (Hps.out.on hb)
  replace RS := Lib.hid (RS.out.on hb)
  replace Xss := Lib.hid (Xss.out.on hb)
  replace Xps := Lib.hid (Xps.out.on hb)
  replace RG := Lib.hid (RG.out.on hb)
  replace HB := Lib.hid (bel_end HB.out hb)
  have q7 := hb.size
  clear hb
  go_wp2_with fail
  refine (eql_any _ _ _ _ _ LL1 (by omega) RG.out.snd.ints RS.out.snd.ints).mono ?_
  rintro e w8 ⟨rfl, hb⟩
  replace Hss := Lib.hid (Hss.out.on hb)
  replace Hps := Lib.hid (Hps.out.on hb)
  replace RS := Lib.hid (RS.out.on hb)
  replace Xss := Lib.hid (Xss.out.on hb)
  replace Xps := Lib.hid (Xps.out.on hb)
  replace RG := Lib.hid (RG.out.on hb)
  replace HB := Lib.hid (bel_end HB.out hb)
  have q8 := hb.size
  clear hb
  go_wp2_with fail
  refine (to_any _ _ _ ss (by omega) Hss.out.ints).mono ?_
  rintro e w9 ⟨g9, rfl, hg, hr, hb⟩
  replace Hss := Lib.hid (Hss.out.on hb)
  replace Hps := Lib.hid (Hps.out.on hb)
  replace RS := Lib.hid (RS.out.on hb)
  replace Xss := Lib.hid (Xss.out.on hb)
  replace Xps := Lib.hid (Xps.out.on hb)
  replace RG := Lib.hid (RG.out.on hb)
  replace HB := Lib.hid (bel_end HB.out hb)
  have q9 := hb.size
  have C := Lib.hid (ownA_new hr hg (by omega))
  clear hb hg hr
  go_wp2_with fail
  refine (eql_any _ _ _ _ _ ss (by omega) Xss.out.ints C.out.ints).mono ?_
  rintro e w10 ⟨rfl, hb⟩
  replace Hss := Lib.hid (Hss.out.on hb)
  replace Hps := Lib.hid (Hps.out.on hb)
  replace RS := Lib.hid (RS.out.on hb)
  replace Xss := Lib.hid (Xss.out.on hb)
  replace Xps := Lib.hid (Xps.out.on hb)
  replace RG := Lib.hid (RG.out.on hb)
  replace C := Lib.hid (C.out.on hb)
  replace HB := Lib.hid (bel_end HB.out hb)
  have q10 := hb.size
  clear hb
  clear C
  go_wp2_with fail
  refine (to_any _ _ _ ps (by omega) Hps.out.ints).mono ?_
  rintro e w11 ⟨g11, rfl, hg, hr, hb⟩
  replace Hss := Lib.hid (Hss.out.on hb)
  replace Hps := Lib.hid (Hps.out.on hb)
  replace RS := Lib.hid (RS.out.on hb)
  replace Xss := Lib.hid (Xss.out.on hb)
  replace Xps := Lib.hid (Xps.out.on hb)
  replace RG := Lib.hid (RG.out.on hb)
  replace HB := Lib.hid (bel_end HB.out hb)
  have q11 := hb.size
  have C := Lib.hid (ownA_new hr hg (by omega))
  clear hb hg hr
  go_wp2_with fail
  refine (eql_any _ _ _ _ _ ps (by omega) Xps.out.ints C.out.ints).mono ?_
  rintro e w12 ⟨rfl, hb⟩
  replace Hss := Lib.hid (Hss.out.on hb)
  replace Hps := Lib.hid (Hps.out.on hb)
  replace RS := Lib.hid (RS.out.on hb)
  replace Xss := Lib.hid (Xss.out.on hb)
  replace Xps := Lib.hid (Xps.out.on hb)
  replace RG := Lib.hid (RG.out.on hb)
  replace C := Lib.hid (C.out.on hb)
  replace HB := Lib.hid (bel_end HB.out hb)
  have q12 := hb.size
  clear hb
  clear C
  go_wp2_with fail
  refine (mka_any _ _ _ _ _ ss 1 Xss.out (by omega) (by omega) (by omega)).mono ?_
  rintro e w13 ⟨rfl, ho, hk⟩
  replace Hss := Lib.hid (Hss.out.kept hk (by omega) (by omega))
  replace Hps := Lib.hid (Hps.out.kept hk (by omega) (by omega))
  replace RS := Lib.hid (RS.out.kept hk (by omega))
  replace Xps := Lib.hid (Xps.out.kept hk (by omega))
  replace RG := Lib.hid (RG.out.kept hk (by omega))
  replace HB := Lib.hid (HB.out.trans ((hk.below (by omega)).mono (by omega)))
  replace Xss := Lib.hid ho
  have q13 := hk.size
  clear ho hk
  go_wp2_with fail
  refine (mka_any _ _ _ _ _ ps (1 + (ss.length : Int)) Xps.out (by omega) (by omega) (by omega)).mono ?_
  rintro e w14 ⟨rfl, ho, hk⟩
  replace Hss := Lib.hid (Hss.out.kept hk (by omega) (by omega))
  replace Hps := Lib.hid (Hps.out.kept hk (by omega) (by omega))
  replace RS := Lib.hid (RS.out.kept hk (by omega))
  replace Xss := Lib.hid (Xss.out.kept hk (by omega))
  replace RG := Lib.hid (RG.out.kept hk (by omega))
  replace HB := Lib.hid (HB.out.trans ((hk.below (by omega)).mono (by omega)))
  replace Xps := Lib.hid ho
  have q14 := hk.size
  clear ho hk
  clear Xss Xps
  go_wp2_with fail
  refine (eql_any _ _ _ _ _ LL0 (by omega) RG.out.fst.ints RS.out.fst.ints).mono ?_
  rintro e w15 ⟨rfl, hb⟩
  replace Hss := Lib.hid (Hss.out.on hb)
  replace Hps := Lib.hid (Hps.out.on hb)
  replace RS := Lib.hid (RS.out.on hb)
  replace RG := Lib.hid (RG.out.on hb)
  replace HB := Lib.hid (bel_end HB.out hb)
  have q15 := hb.size
  clear hb
  go_wp2_with fail
  refine (eql_any _ _ _ _ _ LL1 (by omega) RG.out.snd.ints RS.out.snd.ints).mono ?_
  rintro e w16 ⟨rfl, hb⟩
  replace Hss := Lib.hid (Hss.out.on hb)
  replace Hps := Lib.hid (Hps.out.on hb)
  replace RS := Lib.hid (RS.out.on hb)
  replace RG := Lib.hid (RG.out.on hb)
  replace HB := Lib.hid (bel_end HB.out hb)
  have q16 := hb.size
  clear hb
  go_wp2_with fail
  refine (mkf_any _ _ _ _ _ _ _ _ _ 1 RG.out (by omega) (by omega) (by omega)).mono ?_
  rintro e w17 ⟨rfl, ho, hk⟩
  replace Hss := Lib.hid (Hss.out.kept hk (by omega) (by omega))
  replace Hps := Lib.hid (Hps.out.kept hk (by omega) (by omega))
  replace RS := Lib.hid (RS.out.kept hk (by omega))
  replace HB := Lib.hid (HB.out.trans ((hk.below (by omega)).mono (by omega)))
  replace RG := Lib.hid ho
  have q17 := hk.size
  clear ho hk
  go_wp2_with fail
  refine (mks_any _ _ _ _ _ _ _ _ _ (1 + (LL0.length : Int)) RG.out (by omega) (by omega) (by omega)).mono ?_
  rintro e w18 ⟨rfl, ho, hk⟩
  replace Hss := Lib.hid (Hss.out.kept hk (by omega) (by omega))
  replace Hps := Lib.hid (Hps.out.kept hk (by omega) (by omega))
  replace RS := Lib.hid (RS.out.kept hk (by omega))
  replace HB := Lib.hid (HB.out.trans ((hk.below (by omega)).mono (by omega)))
  replace RG := Lib.hid ho
  have q18 := hk.size
  clear ho hk
  go_wp2_with fail
  refine (hdi_any _ _ _ _ LL0.length 1 RG.out.fst.ints (by omega) (by omega) (by omega)).mono ?_
  rintro e w_ ⟨rfl, rfl⟩
  go_wp2_with fail
  refine (hdi_any _ _ _ _ LL1.length (1 + (LL0.length : Int)) RG.out.snd.ints (by omega) (by omega) (by omega)).mono ?_
  rintro e w_ ⟨rfl, rfl⟩
  go_wp2_with fail
  refine (to_any _ _ _ ss (by omega) Hss.out.ints).mono ?_
  rintro e w19 ⟨g19, rfl, hg, hr, hb⟩
  replace Hss := Lib.hid (Hss.out.on hb)
  replace Hps := Lib.hid (Hps.out.on hb)
  replace RS := Lib.hid (RS.out.on hb)
  replace RG := Lib.hid (RG.out.on hb)
  replace HB := Lib.hid (bel_end HB.out hb)
  have q19 := hb.size
  have Yss := Lib.hid (ownA_new hr hg (by omega))
  clear hb hg hr
  go_wp2_with fail
  refine (to_any _ _ _ ps (by omega) Hps.out.ints).mono ?_
  rintro e w20 ⟨g20, rfl, hg, hr, hb⟩
  replace Hss := Lib.hid (Hss.out.on hb)
  replace Hps := Lib.hid (Hps.out.on hb)
  replace RS := Lib.hid (RS.out.on hb)
  replace RG := Lib.hid (RG.out.on hb)
  replace Yss := Lib.hid (Yss.out.on hb)
  replace HB := Lib.hid (bel_end HB.out hb)
  have q20 := hb.size
  have Yps := Lib.hid (ownA_new hr hg (by omega))
  clear hb hg hr
  go_wp2_with fail
  refine (S2.out _ _ _ _ _ (ownA_cap Yss.out) (ownA_cap Yps.out) Yss.out.ints Yps.out.ints).mono ?_
  rintro e w21 ⟨RHa, RHc, RHb, RHd, rfl, ho, hb⟩
  replace Hss := Lib.hid (Hss.out.on hb)
  replace Hps := Lib.hid (Hps.out.on hb)
  replace RS := Lib.hid (RS.out.on hb)
  replace RG := Lib.hid (RG.out.on hb)
  replace Yss := Lib.hid (Yss.out.on hb)
  replace Yps := Lib.hid (Yps.out.on hb)
  replace HB := Lib.hid (bel_end HB.out hb)
  have q21 := hb.size
  have RH := Lib.hid ho
  clear ho hb
  clear Yss Yps
  go_wp2_with fail
  refine (eql_any _ _ _ _ _ LL0 (by omega) RH.out.fst.ints RS.out.fst.ints).mono ?_
  rintro e w22 ⟨rfl, hb⟩
  replace Hss := Lib.hid (Hss.out.on hb)
  replace Hps := Lib.hid (Hps.out.on hb)
  replace RS := Lib.hid (RS.out.on hb)
  replace RG := Lib.hid (RG.out.on hb)
  replace RH := Lib.hid (RH.out.on hb)
  replace HB := Lib.hid (bel_end HB.out hb)
  have q22 := hb.size
  clear hb
  go_wp2_with fail
  refine (eql_any _ _ _ _ _ LL1 (by omega) RH.out.snd.ints RS.out.snd.ints).mono ?_
  rintro e w23 ⟨rfl, hb⟩
  replace Hss := Lib.hid (Hss.out.on hb)
  replace Hps := Lib.hid (Hps.out.on hb)
  replace RS := Lib.hid (RS.out.on hb)
  replace RG := Lib.hid (RG.out.on hb)
  replace RH := Lib.hid (RH.out.on hb)
  replace HB := Lib.hid (bel_end HB.out hb)
  have q23 := hb.size
  clear hb
  clear RH
  go_wp2_with fail
  refine (hdi_any _ _ _ _ LL0.length 1 RG.out.fst.ints (by omega) (by omega) (by omega)).mono ?_
  rintro e w_ ⟨rfl, rfl⟩
  go_wp2_with fail
  refine (hdi_any _ _ _ _ LL1.length (1 + (LL0.length : Int)) RG.out.snd.ints (by omega) (by omega) (by omega)).mono ?_
  rintro e w_ ⟨rfl, rfl⟩
  go_wp2
  go_ret
  exact ⟨rfl, HB.out⟩
end Go.Proofs.Ythfaejhiabdkbab
