/- The walks of the exact laws of AreCosts, IsPairing, SumOfPairs, LeastSum, CountPairings, SumBound: each returns true and writes nothing that was there. -/
import Derived.Test.YtlahgdhofakinaaPrY
import Derived.Test.YtlahgdhofakinaaPrU
import Derived.Test.YtlahgdhofakinaaRwC
import Derived.Test.YtlahgdhofakinaaPuX
namespace Go.Proofs.Ytlahgdhofakinaa
open Go.ChangeShapes Go.WideShapes Go.ChangeAt Go.RowKit Go.Shelf Num
set_option linter.unusedVariables false
set_option linter.unusedSimpArgs false
/-- rows of numbers that came in, below a mark of the memory -/
structure RwX (w : World) (L : Nat) (a : Option Addr) (zss : List (List Int)) : Prop where
  at_ : RwL w L a zss
  le : L ≤ w.heap.size
theorem RwX.of {w : World} {a : Option Addr} {zss : List (List Int)} (h : RwL w w.heap.size a zss) : RwX w w.heap.size a zss := ⟨h, Nat.le_refl _⟩
theorem RwX.on {w w' : World} {L : Nat} {a : Option Addr} {zss : List (List Int)} (h : RwX w L a zss) (hb : Below w.heap.size w w') : RwX w' L a zss := ⟨h.at_.below (hb.mono h.le), Nat.le_trans h.le hb.size⟩
theorem RwX.kept {w w' : World} {L l i : Nat} {a : Option Addr} {zss : List (List Int)} (h : RwX w L a zss) (hk : Kept l i w w') (hd : L ≤ l) (hl : l ≤ w.heap.size) : RwX w' L a zss := ⟨h.at_.below ((hk.below hl).mono hd), Nat.le_trans h.le hk.size⟩
theorem RwX.rows {w : World} {L : Nat} {a : Option Addr} {zss : List (List Int)} (h : RwX w L a zss) : RwL w w.heap.size a zss := h.at_.more h.le
theorem eqS2_any (w : World) (a b : Option Addr) (c d : Nat) (zss : List (List Int)) (hl : zss.length ≤ 1048576) (hr : ∀ j, j < zss.length → (gR zss j).length ≤ 1048576) (hx : RwL w w.heap.size a zss) (hy : RwL w w.heap.size b zss) :
    Calls Try.prog 52 #[.slice a zss.length c, .slice b zss.length d] w fun e w' => e = .returned (.bool true) ∧ Below w.heap.size w w' :=
  (eqs_any w w.heap.size a b c d zss hl hr hx hy).mono (by rintro e w' ⟨rfl, n, rfl⟩; exact ⟨rfl, bel_drewN (Below.refl _ _) _⟩)
theorem sacB_any (w : World) (a : Option Addr) (cap : Nat) (zss : List (List Int)) (hl : zss.length ≤ 9223372036854775807) (hr : ∀ j, j < zss.length → (gR zss j).length ≤ 9223372036854775807) (hx : RwL w w.heap.size a zss) :
    Calls Try.prog 49 #[.slice a zss.length cap] w fun e w' => e = .returned (.bool (acB zss)) ∧ Below w.heap.size w w' :=
  (sac_any w w.heap.size a cap _ zss rfl hl hr hx).mono (by rintro e w' ⟨rfl, n, rfl⟩; exact ⟨rfl, bel_drewN (Below.refl _ _) _⟩)

set_option maxRecDepth 100000 in
set_option maxHeartbeats 8000000 in
theorem lpac (a0 : Option Addr) (len0 cap0 : Nat) (z0 : List (List Int)) (w : World) (w0 : IsRows w a0 len0 cap0 z0) :
    Calls Try.prog 7 #[.slice a0 len0 cap0] w fun e w' => e = .returned (.bool true) ∧ Below w.heap.size w w' := by
  obtain ⟨hm, hlen, hz, hrl⟩ := RwL.of_rows w0
  obtain ⟨zss, hzs⟩ : ∃ zss, z0.take len0 = zss := ⟨_, rfl⟩
  rw [hzs] at hz hlen hrl
  subst hlen
  clear hzs w0
  have HX := Lib.hid (RwX.of hz)
  have K := Lib.hid (szs_any w _ a0 cap0 zss 1048576 hm hrl (by omega) (by omega) hz)
  clear hz
  obtain ⟨q, hq⟩ : ∃ q, szR zss 1048576 = q := ⟨_, rfl⟩
  rw [hq] at K
  by_cases hneg : q < 0
  · go_enter Try.func7, Try.ntmps7
    go_wp2_with (go_at_call 50; refine K.out.mono ?_; rintro e w' ⟨rfl, rfl⟩)
    go_ret
    exact ⟨rfl, Below.refl _ _⟩
  have hfit := szR_fit (zss := zss) (by omega)
  have HL : Hid (∀ j, j < zss.length → (gR zss j).length ≤ 1048576) := Lib.hid (fun j hj => by have := totR_row zss hj; omega)
  have HR : Hid (∀ j, j < zss.length → (gR zss j).length ≤ 9223372036854775807) := Lib.hid (fun j hj => Nat.le_trans (HL.out j hj) (by omega))
  have h2 : zss.length ≤ 1048576 := by omega
  have ht2 : totR zss zss.length ≤ 1048576 := by omega
  clear hq hm hfit hrl
  have HB := Lib.hid (Below.refl w.heap.size w)
  go_enter Try.func7, Try.ntmps7
  go_wp2_with (go_at_call 50; refine K.out.mono ?_; rintro e w' ⟨rfl, rfl⟩)
  clear K
  go_wp2_with fail
  refine (tos_any _ _ _ zss h2 HL.out HX.out.rows).mono ?_
  rintro e w1 ⟨GSX, QSX, rfl, ho, hb⟩
  replace HX := Lib.hid (HX.out.on hb)
  replace HB := Lib.hid (bel_end HB.out hb)
  have q1 := hb.size
  have SX := Lib.hid ho
  clear ho hb
  go_wp2_with fail
  refine (sacB_any _ _ _ zss (by omega) HR.out SX.out.rows).mono ?_
  rintro e w2 ⟨rfl, hb⟩
  replace HX := Lib.hid (HX.out.on hb)
  replace SX := Lib.hid (SX.out.on hb)
  replace HB := Lib.hid (bel_end HB.out hb)
  have q2 := hb.size
  clear hb
  clear SX
  go_wp2_with fail
  refine (tos_any _ _ _ zss h2 HL.out HX.out.rows).mono ?_
  rintro e w3 ⟨GYX, QYX, rfl, ho, hb⟩
  replace HX := Lib.hid (HX.out.on hb)
  replace HB := Lib.hid (bel_end HB.out hb)
  have q3 := hb.size
  have YX := Lib.hid ho
  clear ho hb
  go_wp2_with fail
  refine (iac_any _ _ _ _ zss rfl (by omega) HR.out YX.out.rows).mono ?_
  rintro e w4 ⟨rfl, hb⟩
  replace HX := Lib.hid (HX.out.on hb)
  replace YX := Lib.hid (YX.out.on hb)
  replace HB := Lib.hid (bel_end HB.out hb)
  have q4 := hb.size
  clear hb
  go_wp2_with fail
  refine (tos_any _ _ _ zss h2 HL.out HX.out.rows).mono ?_
  rintro e w5 ⟨GC, QC, rfl, ho, hb⟩
  replace HX := Lib.hid (HX.out.on hb)
  replace YX := Lib.hid (YX.out.on hb)
  replace HB := Lib.hid (bel_end HB.out hb)
  have q5 := hb.size
  have C := Lib.hid ho
  clear ho hb
  go_wp2_with fail
  refine (eqS2_any _ _ _ _ _ zss h2 HL.out YX.out.rows C.out.rows).mono ?_
  rintro e w6 ⟨rfl, hb⟩
  replace HX := Lib.hid (HX.out.on hb)
  replace YX := Lib.hid (YX.out.on hb)
  replace C := Lib.hid (C.out.on hb)
  replace HB := Lib.hid (bel_end HB.out hb)
  have q6 := hb.size
  clear hb
  clear C
  go_wp2
  go_ret
  exact ⟨rfl, HB.out⟩

set_option maxRecDepth 100000 in
set_option maxHeartbeats 8000000 in
theorem lpip (a0 : Option Addr) (len0 cap0 : Nat) (z0 : List (List Int)) (a2 : Option Addr) (len2 cap2 : Nat) (z2 : List Int) (w : World) (w0 : IsRows w a0 len0 cap0 z0) (w2 : IsRow .i64 w a2 len2 cap2 z2) :
    Calls Try.prog 8 #[.slice a0 len0 cap0, .slice a2 len2 cap2] w fun e w' => e = .returned (.bool true) ∧ Below w.heap.size w w' := by
  obtain ⟨hm, hlen, hz, hrl⟩ := RwL.of_rows w0
  obtain ⟨zss, hzs⟩ : ∃ zss, z0.take len0 = zss := ⟨_, rfl⟩
  rw [hzs] at hz hlen hrl
  subst hlen
  clear hzs w0
  obtain ⟨hm2, hlen, hy, -⟩ := Ints.of_row w2
  obtain ⟨ps, hzs⟩ : ∃ zs, z2.take len2 = zs := ⟨_, rfl⟩
  rw [hzs] at hy hlen
  subst hlen
  clear hzs w2
  have HP := Lib.hid (IntL.of hy)
  clear hy
  by_cases hbp : 1048576 < ps.length
  · go_enter Try.func8, Try.ntmps8
    go_wp2
    go_ret
    exact ⟨rfl, Below.refl _ _⟩
  have HX := Lib.hid (RwX.of hz)
  have K := Lib.hid (szs_any w _ a0 cap0 zss 1048576 hm hrl (by omega) (by omega) hz)
  clear hz
  obtain ⟨q, hq⟩ : ∃ q, szR zss 1048576 = q := ⟨_, rfl⟩
  rw [hq] at K
  by_cases hneg : q < 0
  · go_enter Try.func8, Try.ntmps8
    go_wp2_with (go_at_call 50; refine K.out.mono ?_; rintro e w' ⟨rfl, rfl⟩)
    go_ret
    exact ⟨rfl, Below.refl _ _⟩
  have hfit := szR_fit (zss := zss) (by omega)
  have HL : Hid (∀ j, j < zss.length → (gR zss j).length ≤ 1048576) := Lib.hid (fun j hj => by have := totR_row zss hj; omega)
  have HR : Hid (∀ j, j < zss.length → (gR zss j).length ≤ 9223372036854775807) := Lib.hid (fun j hj => Nat.le_trans (HL.out j hj) (by omega))
  have h2 : zss.length ≤ 1048576 := by omega
  have ht2 : totR zss zss.length ≤ 1048576 := by omega
  clear hq hm hfit hrl
  have HB := Lib.hid (Below.refl w.heap.size w)
  go_enter Try.func8, Try.ntmps8
  go_wp2_with (go_at_call 50; refine K.out.mono ?_; rintro e w' ⟨rfl, rfl⟩)
  clear K
  go_wp2_with fail
  refine (tos_any _ _ _ zss h2 HL.out HX.out.rows).mono ?_
  rintro e w1 ⟨GSX, QSX, rfl, ho, hb⟩
  replace HX := Lib.hid (HX.out.on hb)
  replace HP := Lib.hid (HP.out.on hb)
  replace HB := Lib.hid (bel_end HB.out hb)
  have q1 := hb.size
  have SX := Lib.hid ho
  clear ho hb
  go_wp2_with fail
  refine (to_any _ _ _ ps (by omega) HP.out.ints).mono ?_
  rintro e w2 ⟨g2, rfl, hg, hr, hb⟩
  replace HX := Lib.hid (HX.out.on hb)
  replace HP := Lib.hid (HP.out.on hb)
  replace SX := Lib.hid (SX.out.on hb)
  replace HB := Lib.hid (bel_end HB.out hb)
  have q2 := hb.size
  have SP := Lib.hid (ownA_new hr hg (by omega))
  clear hb hg hr
  go_wp2_with fail
  refine (sip_any _ _ _ _ zss rfl (by omega) HR.out SX.out.rows _ _ _ ps rfl (by omega) (ownA_cap SP.out) SP.out.ints).mono ?_
  rintro e w3 ⟨rfl, hb⟩
  replace HX := Lib.hid (HX.out.on hb)
  replace HP := Lib.hid (HP.out.on hb)
  replace SX := Lib.hid (SX.out.on hb)
  replace SP := Lib.hid (SP.out.on hb)
  replace HB := Lib.hid (bel_end HB.out hb)
  have q3 := hb.size
  clear hb
  clear SX SP
  go_wp2_with fail
  refine (tos_any _ _ _ zss h2 HL.out HX.out.rows).mono ?_
  rintro e w4 ⟨GYX, QYX, rfl, ho, hb⟩
  replace HX := Lib.hid (HX.out.on hb)
  replace HP := Lib.hid (HP.out.on hb)
  replace HB := Lib.hid (bel_end HB.out hb)
  have q4 := hb.size
  have YX := Lib.hid ho
  clear ho hb
  go_wp2_with fail
  refine (to_any _ _ _ ps (by omega) HP.out.ints).mono ?_
  rintro e w5 ⟨g5, rfl, hg, hr, hb⟩
  replace HX := Lib.hid (HX.out.on hb)
  replace HP := Lib.hid (HP.out.on hb)
  replace YX := Lib.hid (YX.out.on hb)
  replace HB := Lib.hid (bel_end HB.out hb)
  have q5 := hb.size
  have YP := Lib.hid (ownA_new hr hg (by omega))
  clear hb hg hr
  go_wp2_with fail
  refine (ipg_any _ _ _ _ zss rfl (by omega) HR.out YX.out.rows _ _ _ ps rfl (by omega) YP.out.ints).mono ?_
  rintro e w6 ⟨rfl, hb⟩
  replace HX := Lib.hid (HX.out.on hb)
  replace HP := Lib.hid (HP.out.on hb)
  replace YX := Lib.hid (YX.out.on hb)
  replace YP := Lib.hid (YP.out.on hb)
  replace HB := Lib.hid (bel_end HB.out hb)
  have q6 := hb.size
  clear hb
  go_wp2_with fail
  refine (tos_any _ _ _ zss h2 HL.out HX.out.rows).mono ?_
  rintro e w7 ⟨GC, QC, rfl, ho, hb⟩
  replace HX := Lib.hid (HX.out.on hb)
  replace HP := Lib.hid (HP.out.on hb)
  replace YX := Lib.hid (YX.out.on hb)
  replace YP := Lib.hid (YP.out.on hb)
  replace HB := Lib.hid (bel_end HB.out hb)
  have q7 := hb.size
  have C := Lib.hid ho
  clear ho hb
  go_wp2_with fail
  refine (eqS2_any _ _ _ _ _ zss h2 HL.out YX.out.rows C.out.rows).mono ?_
  rintro e w8 ⟨rfl, hb⟩
  replace HX := Lib.hid (HX.out.on hb)
  replace HP := Lib.hid (HP.out.on hb)
  replace YX := Lib.hid (YX.out.on hb)
  replace YP := Lib.hid (YP.out.on hb)
  replace C := Lib.hid (C.out.on hb)
  replace HB := Lib.hid (bel_end HB.out hb)
  have q8 := hb.size
  clear hb
  clear C
  go_wp2_with fail
  refine (to_any _ _ _ ps (by omega) HP.out.ints).mono ?_
  rintro e w9 ⟨g9, rfl, hg, hr, hb⟩
  replace HX := Lib.hid (HX.out.on hb)
  replace HP := Lib.hid (HP.out.on hb)
  replace YX := Lib.hid (YX.out.on hb)
  replace YP := Lib.hid (YP.out.on hb)
  replace HB := Lib.hid (bel_end HB.out hb)
  have q9 := hb.size
  have C := Lib.hid (ownA_new hr hg (by omega))
  clear hb hg hr
  go_wp2_with fail
  refine (eql_any _ _ _ _ _ ps (by omega) YP.out.ints C.out.ints).mono ?_
  rintro e w10 ⟨rfl, hb⟩
  replace HX := Lib.hid (HX.out.on hb)
  replace HP := Lib.hid (HP.out.on hb)
  replace YX := Lib.hid (YX.out.on hb)
  replace YP := Lib.hid (YP.out.on hb)
  replace C := Lib.hid (C.out.on hb)
  replace HB := Lib.hid (bel_end HB.out hb)
  have q10 := hb.size
  clear hb
  clear C
  go_wp2
  go_ret
  exact ⟨rfl, HB.out⟩

set_option maxRecDepth 100000 in
set_option maxHeartbeats 8000000 in
theorem lpsp (a0 : Option Addr) (len0 cap0 : Nat) (z0 : List (List Int)) (miss : Int) (a2 : Option Addr) (len2 cap2 : Nat) (z2 : List Int) (w : World) (w0 : IsRows w a0 len0 cap0 z0) (w1 : (Lit.int .i64 miss).wf = true) (w2 : IsRow .i64 w a2 len2 cap2 z2) :
    Calls Try.prog 9 #[.slice a0 len0 cap0, .int .i64 miss, .slice a2 len2 cap2] w fun e w' => e = .returned (.bool true) ∧ Below w.heap.size w w' := by
  obtain ⟨hm, hlen, hz, hrl⟩ := RwL.of_rows w0
  obtain ⟨zss, hzs⟩ : ∃ zss, z0.take len0 = zss := ⟨_, rfl⟩
  rw [hzs] at hz hlen hrl
  subst hlen
  clear hzs w0
  clear w1
  obtain ⟨hm2, hlen, hy, -⟩ := Ints.of_row w2
  obtain ⟨ps, hzs⟩ : ∃ zs, z2.take len2 = zs := ⟨_, rfl⟩
  rw [hzs] at hy hlen
  subst hlen
  clear hzs w2
  have HP := Lib.hid (IntL.of hy)
  clear hy
  by_cases hbp : 1048576 < ps.length
  · go_enter Try.func9, Try.ntmps9
    go_wp2
    go_ret
    exact ⟨rfl, Below.refl _ _⟩
  have HX := Lib.hid (RwX.of hz)
  have K := Lib.hid (szs_any w _ a0 cap0 zss 1048576 hm hrl (by omega) (by omega) hz)
  clear hz
  obtain ⟨q, hq⟩ : ∃ q, szR zss 1048576 = q := ⟨_, rfl⟩
  rw [hq] at K
  by_cases hneg : q < 0
  · go_enter Try.func9, Try.ntmps9
    go_wp2_with (go_at_call 50; refine K.out.mono ?_; rintro e w' ⟨rfl, rfl⟩)
    go_ret
    exact ⟨rfl, Below.refl _ _⟩
  have hfit := szR_fit (zss := zss) (by omega)
  have HL : Hid (∀ j, j < zss.length → (gR zss j).length ≤ 1048576) := Lib.hid (fun j hj => by have := totR_row zss hj; omega)
  have HR : Hid (∀ j, j < zss.length → (gR zss j).length ≤ 9223372036854775807) := Lib.hid (fun j hj => Nat.le_trans (HL.out j hj) (by omega))
  have h2 : zss.length ≤ 1048576 := by omega
  have ht2 : totR zss zss.length ≤ 1048576 := by omega
  clear hq hm hfit hrl
  have HB := Lib.hid (Below.refl w.heap.size w)
  go_enter Try.func9, Try.ntmps9
  go_wp2_with (go_at_call 50; refine K.out.mono ?_; rintro e w' ⟨rfl, rfl⟩)
  clear K
  go_wp2_with fail
  refine (tos_any _ _ _ zss h2 HL.out HX.out.rows).mono ?_
  rintro e w1 ⟨GSX, QSX, rfl, ho, hb⟩
  replace HX := Lib.hid (HX.out.on hb)
  replace HP := Lib.hid (HP.out.on hb)
  replace HB := Lib.hid (bel_end HB.out hb)
  have q1 := hb.size
  have SX := Lib.hid ho
  clear ho hb
  go_wp2_with fail
  refine (to_any _ _ _ ps (by omega) HP.out.ints).mono ?_
  rintro e w2 ⟨g2, rfl, hg, hr, hb⟩
  replace HX := Lib.hid (HX.out.on hb)
  replace HP := Lib.hid (HP.out.on hb)
  replace SX := Lib.hid (SX.out.on hb)
  replace HB := Lib.hid (bel_end HB.out hb)
  have q2 := hb.size
  have SP := Lib.hid (ownA_new hr hg (by omega))
  clear hb hg hr
  go_wp2_with fail
  refine (ssp_any _ _ _ _ zss rfl (by omega) HR.out SX.out.rows miss _ _ _ ps rfl (by omega) (ownA_cap SP.out) SP.out.ints).mono ?_
  rintro e w3 ⟨rfl, hb⟩
  replace HX := Lib.hid (HX.out.on hb)
  replace HP := Lib.hid (HP.out.on hb)
  replace SX := Lib.hid (SX.out.on hb)
  replace SP := Lib.hid (SP.out.on hb)
  replace HB := Lib.hid (bel_end HB.out hb)
  have q3 := hb.size
  clear hb
  clear SX SP
  go_wp2_with fail
  refine (tos_any _ _ _ zss h2 HL.out HX.out.rows).mono ?_
  rintro e w4 ⟨GYX, QYX, rfl, ho, hb⟩
  replace HX := Lib.hid (HX.out.on hb)
  replace HP := Lib.hid (HP.out.on hb)
  replace HB := Lib.hid (bel_end HB.out hb)
  have q4 := hb.size
  have YX := Lib.hid ho
  clear ho hb
  go_wp2_with fail
  refine (to_any _ _ _ ps (by omega) HP.out.ints).mono ?_
  rintro e w5 ⟨g5, rfl, hg, hr, hb⟩
  replace HX := Lib.hid (HX.out.on hb)
  replace HP := Lib.hid (HP.out.on hb)
  replace YX := Lib.hid (YX.out.on hb)
  replace HB := Lib.hid (bel_end HB.out hb)
  have q5 := hb.size
  have YP := Lib.hid (ownA_new hr hg (by omega))
  clear hb hg hr
  go_wp2_with fail
  refine (isp_any _ _ _ _ zss rfl (by omega) HR.out YX.out.rows _ _ _ ps rfl (by omega) YP.out.ints miss).mono ?_
  rintro e w6 ⟨rfl, hb⟩
  replace HX := Lib.hid (HX.out.on hb)
  replace HP := Lib.hid (HP.out.on hb)
  replace YX := Lib.hid (YX.out.on hb)
  replace YP := Lib.hid (YP.out.on hb)
  replace HB := Lib.hid (bel_end HB.out hb)
  have q6 := hb.size
  clear hb
  go_wp2_with fail
  refine (tos_any _ _ _ zss h2 HL.out HX.out.rows).mono ?_
  rintro e w7 ⟨GC, QC, rfl, ho, hb⟩
  replace HX := Lib.hid (HX.out.on hb)
  replace HP := Lib.hid (HP.out.on hb)
  replace YX := Lib.hid (YX.out.on hb)
  replace YP := Lib.hid (YP.out.on hb)
  replace HB := Lib.hid (bel_end HB.out hb)
  have q7 := hb.size
  have C := Lib.hid ho
  clear ho hb
  go_wp2_with fail
  refine (eqS2_any _ _ _ _ _ zss h2 HL.out YX.out.rows C.out.rows).mono ?_
  rintro e w8 ⟨rfl, hb⟩
  replace HX := Lib.hid (HX.out.on hb)
  replace HP := Lib.hid (HP.out.on hb)
  replace YX := Lib.hid (YX.out.on hb)
  replace YP := Lib.hid (YP.out.on hb)
  replace C := Lib.hid (C.out.on hb)
  replace HB := Lib.hid (bel_end HB.out hb)
  have q8 := hb.size
  clear hb
  clear C
  go_wp2_with fail
  refine (to_any _ _ _ ps (by omega) HP.out.ints).mono ?_
  rintro e w9 ⟨g9, rfl, hg, hr, hb⟩
  replace HX := Lib.hid (HX.out.on hb)
  replace HP := Lib.hid (HP.out.on hb)
  replace YX := Lib.hid (YX.out.on hb)
  replace YP := Lib.hid (YP.out.on hb)
  replace HB := Lib.hid (bel_end HB.out hb)
  have q9 := hb.size
  have C := Lib.hid (ownA_new hr hg (by omega))
  clear hb hg hr
  go_wp2_with fail
  refine (eql_any _ _ _ _ _ ps (by omega) YP.out.ints C.out.ints).mono ?_
  rintro e w10 ⟨rfl, hb⟩
  replace HX := Lib.hid (HX.out.on hb)
  replace HP := Lib.hid (HP.out.on hb)
  replace YX := Lib.hid (YX.out.on hb)
  replace YP := Lib.hid (YP.out.on hb)
  replace C := Lib.hid (C.out.on hb)
  replace HB := Lib.hid (bel_end HB.out hb)
  have q10 := hb.size
  clear hb
  clear C
  go_wp2
  go_ret
  exact ⟨rfl, HB.out⟩

set_option maxRecDepth 100000 in
set_option maxHeartbeats 8000000 in
theorem lpls (a0 : Option Addr) (len0 cap0 : Nat) (z0 : List (List Int)) (miss : Int) (w : World) (w0 : IsRows w a0 len0 cap0 z0) (w1 : (Lit.int .i64 miss).wf = true) :
    Calls Try.prog 11 #[.slice a0 len0 cap0, .int .i64 miss] w fun e w' => e = .returned (.bool true) ∧ Below w.heap.size w w' := by
  obtain ⟨hm, hlen, hz, hrl⟩ := RwL.of_rows w0
  obtain ⟨zss, hzs⟩ : ∃ zss, z0.take len0 = zss := ⟨_, rfl⟩
  rw [hzs] at hz hlen hrl
  subst hlen
  clear hzs w0
  clear w1
  have HX := Lib.hid (RwX.of hz)
  have K := Lib.hid (szs_any w _ a0 cap0 zss 1048576 hm hrl (by omega) (by omega) hz)
  clear hz
  obtain ⟨q, hq⟩ : ∃ q, szR zss 1048576 = q := ⟨_, rfl⟩
  rw [hq] at K
  by_cases hneg : q < 0
  · go_enter Try.func11, Try.ntmps11
    go_wp2_with (go_at_call 50; refine K.out.mono ?_; rintro e w' ⟨rfl, rfl⟩)
    go_ret
    exact ⟨rfl, Below.refl _ _⟩
  have hfit := szR_fit (zss := zss) (by omega)
  have HL : Hid (∀ j, j < zss.length → (gR zss j).length ≤ 1048576) := Lib.hid (fun j hj => by have := totR_row zss hj; omega)
  have HR : Hid (∀ j, j < zss.length → (gR zss j).length ≤ 9223372036854775807) := Lib.hid (fun j hj => Nat.le_trans (HL.out j hj) (by omega))
  have h2 : zss.length ≤ 1048576 := by omega
  have ht2 : totR zss zss.length ≤ 1048576 := by omega
  clear hq hm hfit hrl
  have HB := Lib.hid (Below.refl w.heap.size w)
  go_enter Try.func11, Try.ntmps11
  go_wp2_with (go_at_call 50; refine K.out.mono ?_; rintro e w' ⟨rfl, rfl⟩)
  clear K
  go_wp2_with fail
  refine (tos_any _ _ _ zss h2 HL.out HX.out.rows).mono ?_
  rintro e w1 ⟨GSX, QSX, rfl, ho, hb⟩
  replace HX := Lib.hid (HX.out.on hb)
  replace HB := Lib.hid (bel_end HB.out hb)
  have q1 := hb.size
  have SX := Lib.hid ho
  clear ho hb
  go_wp2_with fail
  refine (slm_any _ _ _ _ zss rfl (by omega) HR.out SX.out.rows miss).mono ?_
  rintro e w2 ⟨rfl, hb⟩
  replace HX := Lib.hid (HX.out.on hb)
  replace SX := Lib.hid (SX.out.on hb)
  replace HB := Lib.hid (bel_end HB.out hb)
  have q2 := hb.size
  clear hb
  clear SX
  go_wp2_with fail
  refine (tos_any _ _ _ zss h2 HL.out HX.out.rows).mono ?_
  rintro e w3 ⟨GYX, QYX, rfl, ho, hb⟩
  replace HX := Lib.hid (HX.out.on hb)
  replace HB := Lib.hid (bel_end HB.out hb)
  have q3 := hb.size
  have YX := Lib.hid ho
  clear ho hb
  go_wp2_with fail
  refine (ilm_any _ _ _ _ zss rfl (by omega) HR.out YX.out.rows miss).mono ?_
  rintro e w4 ⟨rfl, hb⟩
  replace HX := Lib.hid (HX.out.on hb)
  replace YX := Lib.hid (YX.out.on hb)
  replace HB := Lib.hid (bel_end HB.out hb)
  have q4 := hb.size
  clear hb
  go_wp2_with fail
  refine (tos_any _ _ _ zss h2 HL.out HX.out.rows).mono ?_
  rintro e w5 ⟨GC, QC, rfl, ho, hb⟩
  replace HX := Lib.hid (HX.out.on hb)
  replace YX := Lib.hid (YX.out.on hb)
  replace HB := Lib.hid (bel_end HB.out hb)
  have q5 := hb.size
  have C := Lib.hid ho
  clear ho hb
  go_wp2_with fail
  refine (eqS2_any _ _ _ _ _ zss h2 HL.out YX.out.rows C.out.rows).mono ?_
  rintro e w6 ⟨rfl, hb⟩
  replace HX := Lib.hid (HX.out.on hb)
  replace YX := Lib.hid (YX.out.on hb)
  replace C := Lib.hid (C.out.on hb)
  replace HB := Lib.hid (bel_end HB.out hb)
  have q6 := hb.size
  clear hb
  clear C
  go_wp2
  go_ret
  exact ⟨rfl, HB.out⟩

set_option maxRecDepth 100000 in
set_option maxHeartbeats 8000000 in
theorem lpcn (a0 : Option Addr) (len0 cap0 : Nat) (z0 : List (List Int)) (w : World) (w0 : IsRows w a0 len0 cap0 z0) :
    Calls Try.prog 13 #[.slice a0 len0 cap0] w fun e w' => e = .returned (.bool true) ∧ Below w.heap.size w w' := by
  obtain ⟨hm, hlen, hz, hrl⟩ := RwL.of_rows w0
  obtain ⟨zss, hzs⟩ : ∃ zss, z0.take len0 = zss := ⟨_, rfl⟩
  rw [hzs] at hz hlen hrl
  subst hlen
  clear hzs w0
  have HX := Lib.hid (RwX.of hz)
  have K := Lib.hid (szs_any w _ a0 cap0 zss 1048576 hm hrl (by omega) (by omega) hz)
  clear hz
  obtain ⟨q, hq⟩ : ∃ q, szR zss 1048576 = q := ⟨_, rfl⟩
  rw [hq] at K
  by_cases hneg : q < 0
  · go_enter Try.func13, Try.ntmps13
    go_wp2_with (go_at_call 50; refine K.out.mono ?_; rintro e w' ⟨rfl, rfl⟩)
    go_ret
    exact ⟨rfl, Below.refl _ _⟩
  have hfit := szR_fit (zss := zss) (by omega)
  have HL : Hid (∀ j, j < zss.length → (gR zss j).length ≤ 1048576) := Lib.hid (fun j hj => by have := totR_row zss hj; omega)
  have HR : Hid (∀ j, j < zss.length → (gR zss j).length ≤ 9223372036854775807) := Lib.hid (fun j hj => Nat.le_trans (HL.out j hj) (by omega))
  have h2 : zss.length ≤ 1048576 := by omega
  have ht2 : totR zss zss.length ≤ 1048576 := by omega
  clear hq hm hfit hrl
  have HB := Lib.hid (Below.refl w.heap.size w)
  go_enter Try.func13, Try.ntmps13
  go_wp2_with (go_at_call 50; refine K.out.mono ?_; rintro e w' ⟨rfl, rfl⟩)
  clear K
  go_wp2_with fail
  refine (tos_any _ _ _ zss h2 HL.out HX.out.rows).mono ?_
  rintro e w1 ⟨GSX, QSX, rfl, ho, hb⟩
  replace HX := Lib.hid (HX.out.on hb)
  replace HB := Lib.hid (bel_end HB.out hb)
  have q1 := hb.size
  have SX := Lib.hid ho
  clear ho hb
  go_wp2_with fail
  refine (scn_any _ _ _ _ zss rfl (by omega) HR.out SX.out.rows).mono ?_
  rintro e w2 ⟨rfl, hb⟩
  replace HX := Lib.hid (HX.out.on hb)
  replace SX := Lib.hid (SX.out.on hb)
  replace HB := Lib.hid (bel_end HB.out hb)
  have q2 := hb.size
  clear hb
  clear SX
  go_wp2_with fail
  refine (tos_any _ _ _ zss h2 HL.out HX.out.rows).mono ?_
  rintro e w3 ⟨GYX, QYX, rfl, ho, hb⟩
  replace HX := Lib.hid (HX.out.on hb)
  replace HB := Lib.hid (bel_end HB.out hb)
  have q3 := hb.size
  have YX := Lib.hid ho
  clear ho hb
  go_wp2_with fail
  refine (icn_any _ _ _ _ zss rfl (by omega) HR.out YX.out.rows).mono ?_
  rintro e w4 ⟨rfl, hb⟩
  replace HX := Lib.hid (HX.out.on hb)
  replace YX := Lib.hid (YX.out.on hb)
  replace HB := Lib.hid (bel_end HB.out hb)
  have q4 := hb.size
  clear hb
  go_wp2_with fail
  refine (tos_any _ _ _ zss h2 HL.out HX.out.rows).mono ?_
  rintro e w5 ⟨GC, QC, rfl, ho, hb⟩
  replace HX := Lib.hid (HX.out.on hb)
  replace YX := Lib.hid (YX.out.on hb)
  replace HB := Lib.hid (bel_end HB.out hb)
  have q5 := hb.size
  have C := Lib.hid ho
  clear ho hb
  go_wp2_with fail
  refine (eqS2_any _ _ _ _ _ zss h2 HL.out YX.out.rows C.out.rows).mono ?_
  rintro e w6 ⟨rfl, hb⟩
  replace HX := Lib.hid (HX.out.on hb)
  replace YX := Lib.hid (YX.out.on hb)
  replace C := Lib.hid (C.out.on hb)
  replace HB := Lib.hid (bel_end HB.out hb)
  have q6 := hb.size
  clear hb
  clear C
  go_wp2
  go_ret
  exact ⟨rfl, HB.out⟩

set_option maxRecDepth 100000 in
set_option maxHeartbeats 8000000 in
theorem lpsb (a0 : Option Addr) (len0 cap0 : Nat) (z0 : List (List Int)) (miss : Int) (w : World) (w0 : IsRows w a0 len0 cap0 z0) (w1 : (Lit.int .i64 miss).wf = true) :
    Calls Try.prog 14 #[.slice a0 len0 cap0, .int .i64 miss] w fun e w' => e = .returned (.bool true) ∧ Below w.heap.size w w' := by
  obtain ⟨hm, hlen, hz, hrl⟩ := RwL.of_rows w0
  obtain ⟨zss, hzs⟩ : ∃ zss, z0.take len0 = zss := ⟨_, rfl⟩
  rw [hzs] at hz hlen hrl
  subst hlen
  clear hzs w0
  clear w1
  have HX := Lib.hid (RwX.of hz)
  have K := Lib.hid (szs_any w _ a0 cap0 zss 1048576 hm hrl (by omega) (by omega) hz)
  clear hz
  obtain ⟨q, hq⟩ : ∃ q, szR zss 1048576 = q := ⟨_, rfl⟩
  rw [hq] at K
  by_cases hneg : q < 0
  · go_enter Try.func14, Try.ntmps14
    go_wp2_with (go_at_call 50; refine K.out.mono ?_; rintro e w' ⟨rfl, rfl⟩)
    go_ret
    exact ⟨rfl, Below.refl _ _⟩
  have hfit := szR_fit (zss := zss) (by omega)
  have HL : Hid (∀ j, j < zss.length → (gR zss j).length ≤ 1048576) := Lib.hid (fun j hj => by have := totR_row zss hj; omega)
  have HR : Hid (∀ j, j < zss.length → (gR zss j).length ≤ 9223372036854775807) := Lib.hid (fun j hj => Nat.le_trans (HL.out j hj) (by omega))
  have h2 : zss.length ≤ 1048576 := by omega
  have ht2 : totR zss zss.length ≤ 1048576 := by omega
  clear hq hm hfit hrl
  have HB := Lib.hid (Below.refl w.heap.size w)
  go_enter Try.func14, Try.ntmps14
  go_wp2_with (go_at_call 50; refine K.out.mono ?_; rintro e w' ⟨rfl, rfl⟩)
  clear K
  go_wp2_with fail
  refine (tos_any _ _ _ zss h2 HL.out HX.out.rows).mono ?_
  rintro e w1 ⟨GSX, QSX, rfl, ho, hb⟩
  replace HX := Lib.hid (HX.out.on hb)
  replace HB := Lib.hid (bel_end HB.out hb)
  have q1 := hb.size
  have SX := Lib.hid ho
  clear ho hb
  go_wp2_with fail
  refine (sbd_any _ _ _ _ zss rfl (by omega) HR.out SX.out.rows miss).mono ?_
  rintro e w2 ⟨rfl, hb⟩
  replace HX := Lib.hid (HX.out.on hb)
  replace SX := Lib.hid (SX.out.on hb)
  replace HB := Lib.hid (bel_end HB.out hb)
  have q2 := hb.size
  clear hb
  clear SX
  go_wp2_with fail
  refine (tos_any _ _ _ zss h2 HL.out HX.out.rows).mono ?_
  rintro e w3 ⟨GYX, QYX, rfl, ho, hb⟩
  replace HX := Lib.hid (HX.out.on hb)
  replace HB := Lib.hid (bel_end HB.out hb)
  have q3 := hb.size
  have YX := Lib.hid ho
  clear ho hb
  go_wp2_with fail
  refine (isb_any _ _ _ _ zss rfl (by omega) HR.out YX.out.rows miss).mono ?_
  rintro e w4 ⟨rfl, hb⟩
  replace HX := Lib.hid (HX.out.on hb)
  replace YX := Lib.hid (YX.out.on hb)
  replace HB := Lib.hid (bel_end HB.out hb)
  have q4 := hb.size
  clear hb
  go_wp2_with fail
  refine (tos_any _ _ _ zss h2 HL.out HX.out.rows).mono ?_
  rintro e w5 ⟨GC, QC, rfl, ho, hb⟩
  replace HX := Lib.hid (HX.out.on hb)
  replace YX := Lib.hid (YX.out.on hb)
  replace HB := Lib.hid (bel_end HB.out hb)
  have q5 := hb.size
  have C := Lib.hid ho
  clear ho hb
  go_wp2_with fail
  refine (eqS2_any _ _ _ _ _ zss h2 HL.out YX.out.rows C.out.rows).mono ?_
  rintro e w6 ⟨rfl, hb⟩
  replace HX := Lib.hid (HX.out.on hb)
  replace YX := Lib.hid (YX.out.on hb)
  replace C := Lib.hid (C.out.on hb)
  replace HB := Lib.hid (bel_end HB.out hb)
  have q6 := hb.size
  clear hb
  clear C
  go_wp2
  go_ret
  exact ⟨rfl, HB.out⟩
end Go.Proofs.Ytlahgdhofakinaa
