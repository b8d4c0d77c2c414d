/- The walks of the exact laws of IsSignal, EnergyOf, SidelobeOf, Correlations, TurnSignal, PulseOfBits: each returns true and writes nothing that was there. -/
import Derived.Test.YtpnebnjpeiieaaaPuT
import Derived.Test.YtpnebnjpeiieaaaPuQ
namespace Go.Proofs.Ytpnebnjpeiieaaa
open Go.ChangeShapes Go.WideShapes Go.ChangeAt Go.RowKit Go.Shelf Num
set_option linter.unusedVariables false
set_option linter.unusedSimpArgs false
theorem ownA_new {W : World} {g lo : Nat} {zs : List Int} (h : W.rowIs g 2 zs.length (cellsOf zs)) (hl : lo ≤ g) (hn : zs.length ≤ 1048576) : OwnA W lo W.heap.size (some ⟨g, 0, none⟩) zs.length zs := by
  obtain ⟨cs, hg, hs, hc⟩ := h
  have hlt := (Array.getElem?_eq_some_iff.1 hg).1
  refine ⟨⟨by simp, Or.inr ⟨g, zs.length, cs, rfl, hl, hg, Nat.le_refl _, by unfold maxLen; omega, by rw [hs, Nat.mul_one], ?_⟩⟩, fun g' e => ?_, Nat.le_refl _⟩
  · rw [Nat.mul_one, ← hs, List.take_of_length_le (by simp)]
    apply List.ext_getElem (by simp [hs])
    intro i h1 h2
    have hi : i < zs.length := by simpa using h2
    have := hc i hi
    rw [Array.getElem?_eq_getElem (by omega)] at this
    simp only [Option.some.injEq] at this
    rw [Array.getElem_toList, this, List.getElem_map]
    unfold cellsOf iv4
    rw [List.getD_eq_getElem?_getD, List.getElem?_eq_getElem hi]; rfl
  · simp only [Value.ownBlock, Option.map_some, Option.some.injEq] at e
    subst e
    exact hlt
/-- a list by a contract that asks for its slot's length -/
theorem ownA_cap {W : World} {lo hi : Nat} {a : Option Addr} {c : Nat} {zs : List Int} (h : OwnA W lo hi a c zs) : zs.length ≤ c := own_caps h.own
theorem ssg_b {w : World} (a : Option Addr) (cap : Nat) (zs : List Int) (hl : zs.length ≤ 1048576) (hz : Ints .i64 w w.heap.size a zs) : Calls Try.prog 36 #[.slice a zs.length cap] w fun e w' => e = .returned (.bool (sigB zs)) ∧ Below w.heap.size w w' := (ssg_any w _ a cap zs (by omega) hz).mono (by rintro e w' ⟨rfl, h⟩; first | (obtain ⟨n, rfl⟩ := h; exact ⟨rfl, bel_drewN (Below.refl _ _) _⟩) | (subst h; exact ⟨rfl, Below.refl _ _⟩))
theorem sen_b {w : World} (a : Option Addr) (cap : Nat) (zs : List Int) (hl : zs.length ≤ 1048576) (hz : Ints .i64 w w.heap.size a zs) : Calls Try.prog 21 #[.slice a zs.length cap] w fun e w' => e = .returned (.tuple #[.int .i64 (enV zs), .int .i64 (sgC zs)]) ∧ Below w.heap.size w w' := (sen_any w _ a cap zs (by omega) hz).mono (by rintro e w' ⟨rfl, h⟩; first | (obtain ⟨n, rfl⟩ := h; exact ⟨rfl, bel_drewN (Below.refl _ _) _⟩) | (subst h; exact ⟨rfl, Below.refl _ _⟩))
theorem ssb_b {w : World} (a : Option Addr) (cap : Nat) (zs : List Int) (hl : zs.length ≤ 1048576) (hz : Ints .i64 w w.heap.size a zs) : Calls Try.prog 19 #[.slice a zs.length cap] w fun e w' => e = .returned (.tuple #[.int .i64 (sbV zs), .int .i64 (sgC zs)]) ∧ Below w.heap.size w w' := (ssb_any w _ a cap zs (by omega) hz).mono (by rintro e w' ⟨rfl, h⟩; first | (obtain ⟨n, rfl⟩ := h; exact ⟨rfl, bel_drewN (Below.refl _ _) _⟩) | (subst h; exact ⟨rfl, Below.refl _ _⟩))

set_option maxRecDepth 100000 in
set_option maxHeartbeats 4000000 in
theorem lsig (a0 : Option Addr) (len0 cap0 : Nat) (z0 : List Int) (w : World) (w0 : IsRow .i64 w a0 len0 cap0 z0) :
    Calls Try.prog 6 #[.slice a0 len0 cap0] w fun e w' => e = .returned (.bool true) ∧ Below w.heap.size w w' := by
  obtain ⟨hm, hlen, hz, hwf⟩ := Ints.of_row w0
  clear w0 hwf
  obtain ⟨zs, hzs⟩ : ∃ zs, z0.take len0 = zs := ⟨_, rfl⟩
  rw [hzs] at hz hlen
  subst hlen
  clear hzs
  by_cases hbig : 1048576 < zs.length
  · go_enter Try.func6, Try.ntmps6
    go_wp2
    go_ret
    exact ⟨rfl, Below.refl _ _⟩
  · have HZ := Lib.hid (IntL.of hz)
    have HB := Lib.hid (Below.refl w.heap.size w)
    clear hz
    go_enter Try.func6, Try.ntmps6
    go_wp2_with fail
    refine (to_any _ _ _ zs (by omega) HZ.out.ints).mono ?_
    rintro e w1 ⟨g1, rfl, hg, hr, hb⟩
    replace HZ := Lib.hid (HZ.out.on hb)
    replace HB := Lib.hid (bel_end HB.out hb)
    have q1 := hb.size
    have HS0 := Lib.hid (ownA_new hr hg (by omega))
    clear hb hg hr
    go_wp2_with fail
    refine (ssg_b _ _ zs (by omega) HS0.out.ints).mono ?_
    rintro e w2 ⟨rfl, hb⟩
    replace HZ := Lib.hid (HZ.out.on hb)
    replace HS0 := Lib.hid (HS0.out.on hb)
    replace HB := Lib.hid (bel_end HB.out hb)
    have q2 := hb.size
    clear hb
    clear HS0
    go_wp2_with fail
    refine (to_any _ _ _ zs (by omega) HZ.out.ints).mono ?_
    rintro e w3 ⟨g3, rfl, hg, hr, hb⟩
    replace HZ := Lib.hid (HZ.out.on hb)
    replace HB := Lib.hid (bel_end HB.out hb)
    have q3 := hb.size
    have HX := Lib.hid (ownA_new hr hg (by omega))
    clear hb hg hr
    go_wp2_with fail
    refine (isg_any _ _ _ zs (by omega) HX.out.ints).mono ?_
    rintro e w4 ⟨rfl, hb⟩
    replace HZ := Lib.hid (HZ.out.on hb)
    replace HX := Lib.hid (HX.out.on hb)
    replace HB := Lib.hid (bel_end HB.out hb)
    have q4 := hb.size
    clear hb
    go_wp2_with fail
    refine (to_any _ _ _ zs (by omega) HZ.out.ints).mono ?_
    rintro e w5 ⟨g5, rfl, hg, hr, hb⟩
    replace HZ := Lib.hid (HZ.out.on hb)
    replace HX := Lib.hid (HX.out.on hb)
    replace HB := Lib.hid (bel_end HB.out hb)
    have q5 := hb.size
    have HC := Lib.hid (ownA_new hr hg (by omega))
    clear hb hg hr
    go_wp2_with fail
    refine (eql_any _ _ _ _ _ zs (by omega) HX.out.ints HC.out.ints).mono ?_
    rintro e w6 ⟨rfl, hb⟩
    replace HZ := Lib.hid (HZ.out.on hb)
    replace HX := Lib.hid (HX.out.on hb)
    replace HC := Lib.hid (HC.out.on hb)
    replace HB := Lib.hid (bel_end HB.out hb)
    have q6 := hb.size
    clear hb
    go_wp2
    go_ret
    exact ⟨rfl, HB.out⟩

set_option maxRecDepth 100000 in
set_option maxHeartbeats 4000000 in
theorem leng (a0 : Option Addr) (len0 cap0 : Nat) (z0 : List Int) (w : World) (w0 : IsRow .i64 w a0 len0 cap0 z0) :
    Calls Try.prog 7 #[.slice a0 len0 cap0] w fun e w' => e = .returned (.bool true) ∧ Below w.heap.size w w' := by
  obtain ⟨hm, hlen, hz, hwf⟩ := Ints.of_row w0
  clear w0 hwf
  obtain ⟨zs, hzs⟩ : ∃ zs, z0.take len0 = zs := ⟨_, rfl⟩
  rw [hzs] at hz hlen
  subst hlen
  clear hzs
  by_cases hbig : 1048576 < zs.length
  · go_enter Try.func7, Try.ntmps7
    go_wp2
    go_ret
    exact ⟨rfl, Below.refl _ _⟩
  · have HZ := Lib.hid (IntL.of hz)
    have HB := Lib.hid (Below.refl w.heap.size w)
    clear hz
    go_enter Try.func7, Try.ntmps7
    go_wp2_with fail
    refine (to_any _ _ _ zs (by omega) HZ.out.ints).mono ?_
    rintro e w1 ⟨g1, rfl, hg, hr, hb⟩
    replace HZ := Lib.hid (HZ.out.on hb)
    replace HB := Lib.hid (bel_end HB.out hb)
    have q1 := hb.size
    have HS0 := Lib.hid (ownA_new hr hg (by omega))
    clear hb hg hr
    go_wp2_with fail
    refine (sen_b _ _ zs (by omega) HS0.out.ints).mono ?_
    rintro e w2 ⟨rfl, hb⟩
    replace HZ := Lib.hid (HZ.out.on hb)
    replace HS0 := Lib.hid (HS0.out.on hb)
    replace HB := Lib.hid (bel_end HB.out hb)
    have q2 := hb.size
    clear hb
    clear HS0
    go_wp2_with fail
    refine (to_any _ _ _ zs (by omega) HZ.out.ints).mono ?_
    rintro e w3 ⟨g3, rfl, hg, hr, hb⟩
    replace HZ := Lib.hid (HZ.out.on hb)
    replace HB := Lib.hid (bel_end HB.out hb)
    have q3 := hb.size
    have HX := Lib.hid (ownA_new hr hg (by omega))
    clear hb hg hr
    go_wp2_with fail
    refine (ien_any _ _ _ zs (by omega) (ownA_cap HX.out) HX.out.ints).mono ?_
    rintro e w4 ⟨rfl, hb⟩
    replace HZ := Lib.hid (HZ.out.on hb)
    replace HX := Lib.hid (HX.out.on hb)
    replace HB := Lib.hid (bel_end HB.out hb)
    have q4 := hb.size
    clear hb
    go_wp2_with fail
    refine (to_any _ _ _ zs (by omega) HZ.out.ints).mono ?_
    rintro e w5 ⟨g5, rfl, hg, hr, hb⟩
    replace HZ := Lib.hid (HZ.out.on hb)
    replace HX := Lib.hid (HX.out.on hb)
    replace HB := Lib.hid (bel_end HB.out hb)
    have q5 := hb.size
    have HC := Lib.hid (ownA_new hr hg (by omega))
    clear hb hg hr
    go_wp2_with fail
    refine (eql_any _ _ _ _ _ zs (by omega) HX.out.ints HC.out.ints).mono ?_
    rintro e w6 ⟨rfl, hb⟩
    replace HZ := Lib.hid (HZ.out.on hb)
    replace HX := Lib.hid (HX.out.on hb)
    replace HC := Lib.hid (HC.out.on hb)
    replace HB := Lib.hid (bel_end HB.out hb)
    have q6 := hb.size
    clear hb
    go_wp2
    go_ret
    exact ⟨rfl, HB.out⟩

set_option maxRecDepth 100000 in
set_option maxHeartbeats 4000000 in
theorem lsid (a0 : Option Addr) (len0 cap0 : Nat) (z0 : List Int) (w : World) (w0 : IsRow .i64 w a0 len0 cap0 z0) :
    Calls Try.prog 9 #[.slice a0 len0 cap0] w fun e w' => e = .returned (.bool true) ∧ Below w.heap.size w w' := by
  obtain ⟨hm, hlen, hz, hwf⟩ := Ints.of_row w0
  clear w0 hwf
  obtain ⟨zs, hzs⟩ : ∃ zs, z0.take len0 = zs := ⟨_, rfl⟩
  rw [hzs] at hz hlen
  subst hlen
  clear hzs
  by_cases hbig : 1048576 < zs.length
  · go_enter Try.func9, Try.ntmps9
    go_wp2
    go_ret
    exact ⟨rfl, Below.refl _ _⟩
  · have HZ := Lib.hid (IntL.of hz)
    have HB := Lib.hid (Below.refl w.heap.size w)
    clear hz
    go_enter Try.func9, Try.ntmps9
    go_wp2_with fail
    refine (to_any _ _ _ zs (by omega) HZ.out.ints).mono ?_
    rintro e w1 ⟨g1, rfl, hg, hr, hb⟩
    replace HZ := Lib.hid (HZ.out.on hb)
    replace HB := Lib.hid (bel_end HB.out hb)
    have q1 := hb.size
    have HS0 := Lib.hid (ownA_new hr hg (by omega))
    clear hb hg hr
    go_wp2_with fail
    refine (ssb_b _ _ zs (by omega) HS0.out.ints).mono ?_
    rintro e w2 ⟨rfl, hb⟩
    replace HZ := Lib.hid (HZ.out.on hb)
    replace HS0 := Lib.hid (HS0.out.on hb)
    replace HB := Lib.hid (bel_end HB.out hb)
    have q2 := hb.size
    clear hb
    clear HS0
    go_wp2_with fail
    refine (to_any _ _ _ zs (by omega) HZ.out.ints).mono ?_
    rintro e w3 ⟨g3, rfl, hg, hr, hb⟩
    replace HZ := Lib.hid (HZ.out.on hb)
    replace HB := Lib.hid (bel_end HB.out hb)
    have q3 := hb.size
    have HX := Lib.hid (ownA_new hr hg (by omega))
    clear hb hg hr
    go_wp2_with fail
    refine (isb_any _ _ _ zs (by omega) (ownA_cap HX.out) HX.out.ints).mono ?_
    rintro e w4 ⟨rfl, hb⟩
    replace HZ := Lib.hid (HZ.out.on hb)
    replace HX := Lib.hid (HX.out.on hb)
    replace HB := Lib.hid (bel_end HB.out hb)
    have q4 := hb.size
    clear hb
    go_wp2_with fail
    refine (to_any _ _ _ zs (by omega) HZ.out.ints).mono ?_
    rintro e w5 ⟨g5, rfl, hg, hr, hb⟩
    replace HZ := Lib.hid (HZ.out.on hb)
    replace HX := Lib.hid (HX.out.on hb)
    replace HB := Lib.hid (bel_end HB.out hb)
    have q5 := hb.size
    have HC := Lib.hid (ownA_new hr hg (by omega))
    clear hb hg hr
    go_wp2_with fail
    refine (eql_any _ _ _ _ _ zs (by omega) HX.out.ints HC.out.ints).mono ?_
    rintro e w6 ⟨rfl, hb⟩
    replace HZ := Lib.hid (HZ.out.on hb)
    replace HX := Lib.hid (HX.out.on hb)
    replace HC := Lib.hid (HC.out.on hb)
    replace HB := Lib.hid (bel_end HB.out hb)
    have q6 := hb.size
    clear hb
    go_wp2
    go_ret
    exact ⟨rfl, HB.out⟩

set_option maxRecDepth 100000 in
set_option maxHeartbeats 4000000 in
theorem lcrl (a0 : Option Addr) (len0 cap0 : Nat) (z0 : List Int) (w : World) (w0 : IsRow .i64 w a0 len0 cap0 z0) :
    Calls Try.prog 8 #[.slice a0 len0 cap0] w fun e w' => e = .returned (.bool true) ∧ Below w.heap.size w w' := by
  obtain ⟨hm, hlen, hz, hwf⟩ := Ints.of_row w0
  clear w0 hwf
  obtain ⟨zs, hzs⟩ : ∃ zs, z0.take len0 = zs := ⟨_, rfl⟩
  rw [hzs] at hz hlen
  subst hlen
  clear hzs
  by_cases hbig : 1048576 < zs.length
  · go_enter Try.func8, Try.ntmps8
    go_wp2
    go_ret
    exact ⟨rfl, Below.refl _ _⟩
  · have HZ := Lib.hid (IntL.of hz)
    have HB := Lib.hid (Below.refl w.heap.size w)
    clear hz
    have l12 := crL_len zs
    obtain ⟨LL, hL⟩ : ∃ x, crL zs = x := ⟨_, rfl⟩
    obtain ⟨qq, hqq⟩ : ∃ x, sgC zs = x := ⟨_, rfl⟩
    rw [hL] at l12
    have S1 : Hid (∀ (W : World) (a : Option Addr) (c_ : Nat), zs.length ≤ c_ → Ints .i64 W W.heap.size a zs → Calls Try.prog 17 #[.slice a zs.length c_] W fun e w' => ∃ (a' : Option Addr) (c' : Nat), e = .returned (.tuple #[.slice a' LL.length c', .int .i64 qq]) ∧ OwnA w' W.heap.size w'.heap.size a' c' LL ∧ Below W.heap.size W w') := Lib.hid (fun W a c_ hc hz => by have := scr_any W a c_ zs (by omega) hz; rwa [hL, hqq] at this)
    have S2 : Hid (∀ (W : World) (a : Option Addr) (c_ : Nat), zs.length ≤ c_ → Ints .i64 W W.heap.size a zs → Calls Try.prog 16 #[.slice a zs.length c_] W fun e w' => ∃ (a' : Option Addr) (c' : Nat), e = .returned (.tuple #[.slice a' LL.length c', .int .i64 qq]) ∧ OwnA w' W.heap.size w'.heap.size a' c' LL ∧ Below W.heap.size W w') := Lib.hid (fun W a c_ hc hz => by have := icr_any W a c_ zs (by omega) hc hz; rwa [hL, hqq] at this)
    clear hL hqq
    go_enter Try.func8, Try.ntmps8
    go_wp2_with fail
    refine (to_any _ _ _ zs (by omega) HZ.out.ints).mono ?_
    rintro e w1 ⟨g1, rfl, hg, hr, hb⟩
    replace HZ := Lib.hid (HZ.out.on hb)
    replace HB := Lib.hid (bel_end HB.out hb)
    have q1 := hb.size
    have HS0 := Lib.hid (ownA_new hr hg (by omega))
    clear hb hg hr
    go_wp2_with fail
    refine (S1.out _ _ _ (ownA_cap HS0.out) HS0.out.ints).mono ?_
    rintro e w2 ⟨sa, sc, rfl, ho, hb⟩
    replace HZ := Lib.hid (HZ.out.on hb)
    replace HS0 := Lib.hid (HS0.out.on hb)
    replace HB := Lib.hid (bel_end HB.out hb)
    have q2 := hb.size
    have HS := Lib.hid ho
    clear ho hb
    clear HS0
    go_wp2_with fail
    refine (to_any _ _ _ zs (by omega) HZ.out.ints).mono ?_
    rintro e w3 ⟨g3, rfl, hg, hr, hb⟩
    replace HZ := Lib.hid (HZ.out.on hb)
    replace HS := Lib.hid (HS.out.on hb)
    replace HB := Lib.hid (bel_end HB.out hb)
    have q3 := hb.size
    have HX := Lib.hid (ownA_new hr hg (by omega))
    clear hb hg hr
    go_wp2_with fail
    refine (S2.out _ _ _ (ownA_cap HX.out) HX.out.ints).mono ?_
    rintro e w4 ⟨ga, gc, rfl, ho, hb⟩
    replace HZ := Lib.hid (HZ.out.on hb)
    replace HS := Lib.hid (HS.out.on hb)
    replace HX := Lib.hid (HX.out.on hb)
    replace HB := Lib.hid (bel_end HB.out hb)
    have q4 := hb.size
    have HG := Lib.hid ho
    clear ho hb
    go_wp2_with fail
    refine (eql_any _ _ _ _ _ LL (by omega) HG.out.ints HS.out.ints).mono ?_
    rintro e w5 ⟨rfl, hb⟩
    replace HZ := Lib.hid (HZ.out.on hb)
    replace HS := Lib.hid (HS.out.on hb)
    replace HX := Lib.hid (HX.out.on hb)
    replace HG := Lib.hid (HG.out.on hb)
    replace HB := Lib.hid (bel_end HB.out hb)
    have q5 := hb.size
    clear hb
    go_wp2_with fail
    refine (to_any _ _ _ zs (by omega) HZ.out.ints).mono ?_
    rintro e w6 ⟨g6, rfl, hg, hr, hb⟩
    replace HZ := Lib.hid (HZ.out.on hb)
    replace HS := Lib.hid (HS.out.on hb)
    replace HX := Lib.hid (HX.out.on hb)
    replace HG := Lib.hid (HG.out.on hb)
    replace HB := Lib.hid (bel_end HB.out hb)
    have q6 := hb.size
    have HC := Lib.hid (ownA_new hr hg (by omega))
    clear hb hg hr
    go_wp2_with fail
    refine (eql_any _ _ _ _ _ zs (by omega) HX.out.ints HC.out.ints).mono ?_
    rintro e w7 ⟨rfl, hb⟩
    replace HZ := Lib.hid (HZ.out.on hb)
    replace HS := Lib.hid (HS.out.on hb)
    replace HX := Lib.hid (HX.out.on hb)
    replace HG := Lib.hid (HG.out.on hb)
    replace HC := Lib.hid (HC.out.on hb)
    replace HB := Lib.hid (bel_end HB.out hb)
    have q7 := hb.size
    clear hb
    clear HC
    go_wp2_with fail
    refine (mka_any _ _ _ _ _ zs 1 HX.out (by omega) (by omega) (by omega)).mono ?_
    rintro e w8 ⟨rfl, ho, hk⟩
    replace HZ := Lib.hid (HZ.out.kept hk (by omega) (by omega))
    replace HS := Lib.hid (HS.out.kept hk (by omega))
    replace HG := Lib.hid (HG.out.kept hk (by omega))
    replace HB := Lib.hid (HB.out.trans ((hk.below (by omega)).mono (by omega)))
    replace HX := Lib.hid ho
    have q8 := hk.size
    clear ho hk
    clear HX
    go_wp2_with fail
    refine (eql_any _ _ _ _ _ LL (by omega) HG.out.ints HS.out.ints).mono ?_
    rintro e w9 ⟨rfl, hb⟩
    replace HZ := Lib.hid (HZ.out.on hb)
    replace HS := Lib.hid (HS.out.on hb)
    replace HG := Lib.hid (HG.out.on hb)
    replace HB := Lib.hid (bel_end HB.out hb)
    have q9 := hb.size
    clear hb
    go_wp2_with fail
    refine (mka_any _ _ _ _ _ LL 1 HG.out (by omega) (by omega) (by omega)).mono ?_
    rintro e w10 ⟨rfl, ho, hk⟩
    replace HZ := Lib.hid (HZ.out.kept hk (by omega) (by omega))
    replace HS := Lib.hid (HS.out.kept hk (by omega))
    replace HB := Lib.hid (HB.out.trans ((hk.below (by omega)).mono (by omega)))
    replace HG := Lib.hid ho
    have q10 := hk.size
    clear ho hk
    go_wp2_with fail
    refine (hdi_any _ _ _ _ LL.length 1 HG.out.ints (by omega) (by omega) (by omega)).mono ?_
    rintro e w_ ⟨rfl, rfl⟩
    go_wp2_with fail
    refine (to_any _ _ _ zs (by omega) HZ.out.ints).mono ?_
    rintro e w11 ⟨g11, rfl, hg, hr, hb⟩
    replace HZ := Lib.hid (HZ.out.on hb)
    replace HS := Lib.hid (HS.out.on hb)
    replace HG := Lib.hid (HG.out.on hb)
    replace HB := Lib.hid (bel_end HB.out hb)
    have q11 := hb.size
    have HY := Lib.hid (ownA_new hr hg (by omega))
    clear hb hg hr
    go_wp2_with fail
    refine (S2.out _ _ _ (ownA_cap HY.out) HY.out.ints).mono ?_
    rintro e w12 ⟨ha, hc, rfl, ho, hb⟩
    replace HZ := Lib.hid (HZ.out.on hb)
    replace HS := Lib.hid (HS.out.on hb)
    replace HG := Lib.hid (HG.out.on hb)
    replace HY := Lib.hid (HY.out.on hb)
    replace HB := Lib.hid (bel_end HB.out hb)
    have q12 := hb.size
    have HH := Lib.hid ho
    clear ho hb
    clear HY
    go_wp2_with fail
    refine (eql_any _ _ _ _ _ LL (by omega) HH.out.ints HS.out.ints).mono ?_
    rintro e w13 ⟨rfl, hb⟩
    replace HZ := Lib.hid (HZ.out.on hb)
    replace HS := Lib.hid (HS.out.on hb)
    replace HG := Lib.hid (HG.out.on hb)
    replace HH := Lib.hid (HH.out.on hb)
    replace HB := Lib.hid (bel_end HB.out hb)
    have q13 := hb.size
    clear hb
    clear HH
    go_wp2_with fail
    refine (hdi_any _ _ _ _ LL.length 1 HG.out.ints (by omega) (by omega) (by omega)).mono ?_
    rintro e w_ ⟨rfl, rfl⟩
    go_wp2
    go_ret
    exact ⟨rfl, HB.out⟩

set_option maxRecDepth 100000 in
set_option maxHeartbeats 4000000 in
theorem ltrn (a0 : Option Addr) (len0 cap0 : Nat) (z0 : List Int) (w : World) (w0 : IsRow .i64 w a0 len0 cap0 z0) :
    Calls Try.prog 12 #[.slice a0 len0 cap0] w fun e w' => e = .returned (.bool true) ∧ Below w.heap.size w w' := by
  obtain ⟨hm, hlen, hz, hwf⟩ := Ints.of_row w0
  clear w0 hwf
  obtain ⟨zs, hzs⟩ : ∃ zs, z0.take len0 = zs := ⟨_, rfl⟩
  rw [hzs] at hz hlen
  subst hlen
  clear hzs
  by_cases hbig : 1048576 < zs.length
  · go_enter Try.func12, Try.ntmps12
    go_wp2
    go_ret
    exact ⟨rfl, Below.refl _ _⟩
  · have HZ := Lib.hid (IntL.of hz)
    have HB := Lib.hid (Below.refl w.heap.size w)
    clear hz
    have l12 := trL_len zs
    obtain ⟨LL, hL⟩ : ∃ x, trL zs = x := ⟨_, rfl⟩
    obtain ⟨qq, hqq⟩ : ∃ x, sgC zs = x := ⟨_, rfl⟩
    rw [hL] at l12
    have S1 : Hid (∀ (W : World) (a : Option Addr) (c_ : Nat), zs.length ≤ c_ → Ints .i64 W W.heap.size a zs → Calls Try.prog 23 #[.slice a zs.length c_] W fun e w' => ∃ (a' : Option Addr) (c' : Nat), e = .returned (.tuple #[.slice a' LL.length c', .int .i64 qq]) ∧ OwnA w' W.heap.size w'.heap.size a' c' LL ∧ Below W.heap.size W w') := Lib.hid (fun W a c_ hc hz => by have := str_any W a c_ zs (by omega) hz; rwa [hL, hqq] at this)
    have S2 : Hid (∀ (W : World) (a : Option Addr) (c_ : Nat), zs.length ≤ c_ → Ints .i64 W W.heap.size a zs → Calls Try.prog 22 #[.slice a zs.length c_] W fun e w' => ∃ (a' : Option Addr) (c' : Nat), e = .returned (.tuple #[.slice a' LL.length c', .int .i64 qq]) ∧ OwnA w' W.heap.size w'.heap.size a' c' LL ∧ Below W.heap.size W w') := Lib.hid (fun W a c_ hc hz => by have := itr_any W a c_ zs (by omega) hz; rwa [hL, hqq] at this)
    clear hL hqq
    go_enter Try.func12, Try.ntmps12
    go_wp2_with fail
    refine (to_any _ _ _ zs (by omega) HZ.out.ints).mono ?_
    rintro e w1 ⟨g1, rfl, hg, hr, hb⟩
    replace HZ := Lib.hid (HZ.out.on hb)
    replace HB := Lib.hid (bel_end HB.out hb)
    have q1 := hb.size
    have HS0 := Lib.hid (ownA_new hr hg (by omega))
    clear hb hg hr
    go_wp2_with fail
    refine (S1.out _ _ _ (ownA_cap HS0.out) HS0.out.ints).mono ?_
    rintro e w2 ⟨sa, sc, rfl, ho, hb⟩
    replace HZ := Lib.hid (HZ.out.on hb)
    replace HS0 := Lib.hid (HS0.out.on hb)
    replace HB := Lib.hid (bel_end HB.out hb)
    have q2 := hb.size
    have HS := Lib.hid ho
    clear ho hb
    clear HS0
    go_wp2_with fail
    refine (to_any _ _ _ zs (by omega) HZ.out.ints).mono ?_
    rintro e w3 ⟨g3, rfl, hg, hr, hb⟩
    replace HZ := Lib.hid (HZ.out.on hb)
    replace HS := Lib.hid (HS.out.on hb)
    replace HB := Lib.hid (bel_end HB.out hb)
    have q3 := hb.size
    have HX := Lib.hid (ownA_new hr hg (by omega))
    clear hb hg hr
    go_wp2_with fail
    refine (S2.out _ _ _ (ownA_cap HX.out) HX.out.ints).mono ?_
    rintro e w4 ⟨ga, gc, rfl, ho, hb⟩
    replace HZ := Lib.hid (HZ.out.on hb)
    replace HS := Lib.hid (HS.out.on hb)
    replace HX := Lib.hid (HX.out.on hb)
    replace HB := Lib.hid (bel_end HB.out hb)
    have q4 := hb.size
    have HG := Lib.hid ho
    clear ho hb
    go_wp2_with fail
    refine (eql_any _ _ _ _ _ LL (by omega) HG.out.ints HS.out.ints).mono ?_
    rintro e w5 ⟨rfl, hb⟩
    replace HZ := Lib.hid (HZ.out.on hb)
    replace HS := Lib.hid (HS.out.on hb)
    replace HX := Lib.hid (HX.out.on hb)
    replace HG := Lib.hid (HG.out.on hb)
    replace HB := Lib.hid (bel_end HB.out hb)
    have q5 := hb.size
    clear hb
    go_wp2_with fail
    refine (to_any _ _ _ zs (by omega) HZ.out.ints).mono ?_
    rintro e w6 ⟨g6, rfl, hg, hr, hb⟩
    replace HZ := Lib.hid (HZ.out.on hb)
    replace HS := Lib.hid (HS.out.on hb)
    replace HX := Lib.hid (HX.out.on hb)
    replace HG := Lib.hid (HG.out.on hb)
    replace HB := Lib.hid (bel_end HB.out hb)
    have q6 := hb.size
    have HC := Lib.hid (ownA_new hr hg (by omega))
    clear hb hg hr
    go_wp2_with fail
    refine (eql_any _ _ _ _ _ zs (by omega) HX.out.ints HC.out.ints).mono ?_
    rintro e w7 ⟨rfl, hb⟩
    replace HZ := Lib.hid (HZ.out.on hb)
    replace HS := Lib.hid (HS.out.on hb)
    replace HX := Lib.hid (HX.out.on hb)
    replace HG := Lib.hid (HG.out.on hb)
    replace HC := Lib.hid (HC.out.on hb)
    replace HB := Lib.hid (bel_end HB.out hb)
    have q7 := hb.size
    clear hb
    clear HC
    go_wp2_with fail
    refine (mka_any _ _ _ _ _ zs 1 HX.out (by omega) (by omega) (by omega)).mono ?_
    rintro e w8 ⟨rfl, ho, hk⟩
    replace HZ := Lib.hid (HZ.out.kept hk (by omega) (by omega))
    replace HS := Lib.hid (HS.out.kept hk (by omega))
    replace HG := Lib.hid (HG.out.kept hk (by omega))
    replace HB := Lib.hid (HB.out.trans ((hk.below (by omega)).mono (by omega)))
    replace HX := Lib.hid ho
    have q8 := hk.size
    clear ho hk
    clear HX
    go_wp2_with fail
    refine (eql_any _ _ _ _ _ LL (by omega) HG.out.ints HS.out.ints).mono ?_
    rintro e w9 ⟨rfl, hb⟩
    replace HZ := Lib.hid (HZ.out.on hb)
    replace HS := Lib.hid (HS.out.on hb)
    replace HG := Lib.hid (HG.out.on hb)
    replace HB := Lib.hid (bel_end HB.out hb)
    have q9 := hb.size
    clear hb
    go_wp2_with fail
    refine (mka_any _ _ _ _ _ LL 1 HG.out (by omega) (by omega) (by omega)).mono ?_
    rintro e w10 ⟨rfl, ho, hk⟩
    replace HZ := Lib.hid (HZ.out.kept hk (by omega) (by omega))
    replace HS := Lib.hid (HS.out.kept hk (by omega))
    replace HB := Lib.hid (HB.out.trans ((hk.below (by omega)).mono (by omega)))
    replace HG := Lib.hid ho
    have q10 := hk.size
    clear ho hk
    go_wp2_with fail
    refine (hdi_any _ _ _ _ LL.length 1 HG.out.ints (by omega) (by omega) (by omega)).mono ?_
    rintro e w_ ⟨rfl, rfl⟩
    go_wp2_with fail
    refine (to_any _ _ _ zs (by omega) HZ.out.ints).mono ?_
    rintro e w11 ⟨g11, rfl, hg, hr, hb⟩
    replace HZ := Lib.hid (HZ.out.on hb)
    replace HS := Lib.hid (HS.out.on hb)
    replace HG := Lib.hid (HG.out.on hb)
    replace HB := Lib.hid (bel_end HB.out hb)
    have q11 := hb.size
    have HY := Lib.hid (ownA_new hr hg (by omega))
    clear hb hg hr
    go_wp2_with fail
    refine (S2.out _ _ _ (ownA_cap HY.out) HY.out.ints).mono ?_
    rintro e w12 ⟨ha, hc, rfl, ho, hb⟩
    replace HZ := Lib.hid (HZ.out.on hb)
    replace HS := Lib.hid (HS.out.on hb)
    replace HG := Lib.hid (HG.out.on hb)
    replace HY := Lib.hid (HY.out.on hb)
    replace HB := Lib.hid (bel_end HB.out hb)
    have q12 := hb.size
    have HH := Lib.hid ho
    clear ho hb
    clear HY
    go_wp2_with fail
    refine (eql_any _ _ _ _ _ LL (by omega) HH.out.ints HS.out.ints).mono ?_
    rintro e w13 ⟨rfl, hb⟩
    replace HZ := Lib.hid (HZ.out.on hb)
    replace HS := Lib.hid (HS.out.on hb)
    replace HG := Lib.hid (HG.out.on hb)
    replace HH := Lib.hid (HH.out.on hb)
    replace HB := Lib.hid (bel_end HB.out hb)
    have q13 := hb.size
    clear hb
    clear HH
    go_wp2_with fail
    refine (hdi_any _ _ _ _ LL.length 1 HG.out.ints (by omega) (by omega) (by omega)).mono ?_
    rintro e w_ ⟨rfl, rfl⟩
    go_wp2
    go_ret
    exact ⟨rfl, HB.out⟩

set_option maxRecDepth 100000 in
set_option maxHeartbeats 4000000 in
theorem lplb (a0 : Option Addr) (len0 cap0 : Nat) (z0 : List Int) (wd am : Int) (w : World) (w0 : IsRow .i64 w a0 len0 cap0 z0) (w1 : (Lit.int .i64 wd).wf = true) (w2 : (Lit.int .i64 am).wf = true) :
    Calls Try.prog 10 #[.slice a0 len0 cap0, .int .i64 wd, .int .i64 am] w fun e w' => e = .returned (.bool true) ∧ Below w.heap.size w w' := by
  obtain ⟨hm, hlen, hz, hwf⟩ := Ints.of_row w0
  clear w0 hwf
  obtain ⟨zs, hzs⟩ : ∃ zs, z0.take len0 = zs := ⟨_, rfl⟩
  rw [hzs] at hz hlen
  subst hlen
  clear hzs
  by_cases hbig : 1048576 < zs.length
  · go_enter Try.func10, Try.ntmps10
    go_wp2
    go_ret
    exact ⟨rfl, Below.refl _ _⟩
  · have HZ := Lib.hid (IntL.of hz)
    have HB := Lib.hid (Below.refl w.heap.size w)
    clear hz
    have l12 := plL_len zs wd am
    obtain ⟨LL, hL⟩ : ∃ x, plL zs wd am = x := ⟨_, rfl⟩
    obtain ⟨qq, hqq⟩ : ∃ x, plC zs wd am = x := ⟨_, rfl⟩
    rw [hL] at l12
    have S1 : Hid (∀ (W : World) (a : Option Addr) (c_ : Nat), zs.length ≤ c_ → Ints .i64 W W.heap.size a zs → Calls Try.prog 28 #[.slice a zs.length c_, .int .i64 wd, .int .i64 am] W fun e w' => ∃ (a' : Option Addr) (c' : Nat), e = .returned (.tuple #[.slice a' LL.length c', .int .i64 qq]) ∧ OwnA w' W.heap.size w'.heap.size a' c' LL ∧ Below W.heap.size W w') := Lib.hid (fun W a c_ hc hz => by have := spb_any W a c_ zs wd am (by omega) hz; rwa [hL, hqq] at this)
    have S2 : Hid (∀ (W : World) (a : Option Addr) (c_ : Nat), zs.length ≤ c_ → Ints .i64 W W.heap.size a zs → Calls Try.prog 27 #[.slice a zs.length c_, .int .i64 wd, .int .i64 am] W fun e w' => ∃ (a' : Option Addr) (c' : Nat), e = .returned (.tuple #[.slice a' LL.length c', .int .i64 qq]) ∧ OwnA w' W.heap.size w'.heap.size a' c' LL ∧ Below W.heap.size W w') := Lib.hid (fun W a c_ hc hz => by have := ipb_any W a c_ zs wd am (by omega) hz; rwa [hL, hqq] at this)
    clear hL hqq
    go_enter Try.func10, Try.ntmps10
    go_wp2_with fail
    refine (to_any _ _ _ zs (by omega) HZ.out.ints).mono ?_
    rintro e w1 ⟨g1, rfl, hg, hr, hb⟩
    replace HZ := Lib.hid (HZ.out.on hb)
    replace HB := Lib.hid (bel_end HB.out hb)
    have q1 := hb.size
    have HS0 := Lib.hid (ownA_new hr hg (by omega))
    clear hb hg hr
    go_wp2_with fail
    refine (S1.out _ _ _ (ownA_cap HS0.out) HS0.out.ints).mono ?_
    rintro e w2 ⟨sa, sc, rfl, ho, hb⟩
    replace HZ := Lib.hid (HZ.out.on hb)
    replace HS0 := Lib.hid (HS0.out.on hb)
    replace HB := Lib.hid (bel_end HB.out hb)
    have q2 := hb.size
    have HS := Lib.hid ho
    clear ho hb
    clear HS0
    go_wp2_with fail
    refine (to_any _ _ _ zs (by omega) HZ.out.ints).mono ?_
    rintro e w3 ⟨g3, rfl, hg, hr, hb⟩
    replace HZ := Lib.hid (HZ.out.on hb)
    replace HS := Lib.hid (HS.out.on hb)
    replace HB := Lib.hid (bel_end HB.out hb)
    have q3 := hb.size
    have HX := Lib.hid (ownA_new hr hg (by omega))
    clear hb hg hr
    go_wp2_with fail
    refine (S2.out _ _ _ (ownA_cap HX.out) HX.out.ints).mono ?_
    rintro e w4 ⟨ga, gc, rfl, ho, hb⟩
    replace HZ := Lib.hid (HZ.out.on hb)
    replace HS := Lib.hid (HS.out.on hb)
    replace HX := Lib.hid (HX.out.on hb)
    replace HB := Lib.hid (bel_end HB.out hb)
    have q4 := hb.size
    have HG := Lib.hid ho
    clear ho hb
    go_wp2_with fail
    refine (eql_any _ _ _ _ _ LL (by omega) HG.out.ints HS.out.ints).mono ?_
    rintro e w5 ⟨rfl, hb⟩
    replace HZ := Lib.hid (HZ.out.on hb)
    replace HS := Lib.hid (HS.out.on hb)
    replace HX := Lib.hid (HX.out.on hb)
    replace HG := Lib.hid (HG.out.on hb)
    replace HB := Lib.hid (bel_end HB.out hb)
    have q5 := hb.size
    clear hb
    go_wp2_with fail
    refine (to_any _ _ _ zs (by omega) HZ.out.ints).mono ?_
    rintro e w6 ⟨g6, rfl, hg, hr, hb⟩
    replace HZ := Lib.hid (HZ.out.on hb)
    replace HS := Lib.hid (HS.out.on hb)
    replace HX := Lib.hid (HX.out.on hb)
    replace HG := Lib.hid (HG.out.on hb)
    replace HB := Lib.hid (bel_end HB.out hb)
    have q6 := hb.size
    have HC := Lib.hid (ownA_new hr hg (by omega))
    clear hb hg hr
    go_wp2_with fail
    refine (eql_any _ _ _ _ _ zs (by omega) HX.out.ints HC.out.ints).mono ?_
    rintro e w7 ⟨rfl, hb⟩
    replace HZ := Lib.hid (HZ.out.on hb)
    replace HS := Lib.hid (HS.out.on hb)
    replace HX := Lib.hid (HX.out.on hb)
    replace HG := Lib.hid (HG.out.on hb)
    replace HC := Lib.hid (HC.out.on hb)
    replace HB := Lib.hid (bel_end HB.out hb)
    have q7 := hb.size
    clear hb
    clear HC
    go_wp2_with fail
    refine (mka_any _ _ _ _ _ zs 1 HX.out (by omega) (by omega) (by omega)).mono ?_
    rintro e w8 ⟨rfl, ho, hk⟩
    replace HZ := Lib.hid (HZ.out.kept hk (by omega) (by omega))
    replace HS := Lib.hid (HS.out.kept hk (by omega))
    replace HG := Lib.hid (HG.out.kept hk (by omega))
    replace HB := Lib.hid (HB.out.trans ((hk.below (by omega)).mono (by omega)))
    replace HX := Lib.hid ho
    have q8 := hk.size
    clear ho hk
    clear HX
    go_wp2_with fail
    refine (eql_any _ _ _ _ _ LL (by omega) HG.out.ints HS.out.ints).mono ?_
    rintro e w9 ⟨rfl, hb⟩
    replace HZ := Lib.hid (HZ.out.on hb)
    replace HS := Lib.hid (HS.out.on hb)
    replace HG := Lib.hid (HG.out.on hb)
    replace HB := Lib.hid (bel_end HB.out hb)
    have q9 := hb.size
    clear hb
    go_wp2_with fail
    refine (mka_any _ _ _ _ _ LL 1 HG.out (by omega) (by omega) (by omega)).mono ?_
    rintro e w10 ⟨rfl, ho, hk⟩
    replace HZ := Lib.hid (HZ.out.kept hk (by omega) (by omega))
    replace HS := Lib.hid (HS.out.kept hk (by omega))
    replace HB := Lib.hid (HB.out.trans ((hk.below (by omega)).mono (by omega)))
    replace HG := Lib.hid ho
    have q10 := hk.size
    clear ho hk
    go_wp2_with fail
    refine (hdi_any _ _ _ _ LL.length 1 HG.out.ints (by omega) (by omega) (by omega)).mono ?_
    rintro e w_ ⟨rfl, rfl⟩
    go_wp2_with fail
    refine (to_any _ _ _ zs (by omega) HZ.out.ints).mono ?_
    rintro e w11 ⟨g11, rfl, hg, hr, hb⟩
    replace HZ := Lib.hid (HZ.out.on hb)
    replace HS := Lib.hid (HS.out.on hb)
    replace HG := Lib.hid (HG.out.on hb)
    replace HB := Lib.hid (bel_end HB.out hb)
    have q11 := hb.size
    have HY := Lib.hid (ownA_new hr hg (by omega))
    clear hb hg hr
    go_wp2_with fail
    refine (S2.out _ _ _ (ownA_cap HY.out) HY.out.ints).mono ?_
    rintro e w12 ⟨ha, hc, rfl, ho, hb⟩
    replace HZ := Lib.hid (HZ.out.on hb)
    replace HS := Lib.hid (HS.out.on hb)
    replace HG := Lib.hid (HG.out.on hb)
    replace HY := Lib.hid (HY.out.on hb)
    replace HB := Lib.hid (bel_end HB.out hb)
    have q12 := hb.size
    have HH := Lib.hid ho
    clear ho hb
    clear HY
    go_wp2_with fail
    refine (eql_any _ _ _ _ _ LL (by omega) HH.out.ints HS.out.ints).mono ?_
    rintro e w13 ⟨rfl, hb⟩
    replace HZ := Lib.hid (HZ.out.on hb)
    replace HS := Lib.hid (HS.out.on hb)
    replace HG := Lib.hid (HG.out.on hb)
    replace HH := Lib.hid (HH.out.on hb)
    replace HB := Lib.hid (bel_end HB.out hb)
    have q13 := hb.size
    clear hb
    clear HH
    go_wp2_with fail
    refine (hdi_any _ _ _ _ LL.length 1 HG.out.ints (by omega) (by omega) (by omega)).mono ?_
    rintro e w_ ⟨rfl, rfl⟩
    go_wp2
    go_ret
    exact ⟨rfl, HB.out⟩
end Go.Proofs.Ytpnebnjpeiieaaa
