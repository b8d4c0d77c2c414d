/- The walks of the laws FnPairings and FnGreedyPairs over drawn data: each returns true and writes nothing that was there. -/
import Derived.Test.YtlahgdhofakinaaPrR
import Derived.Test.YtlahgdhofakinaaPrJ
import Derived.Test.YtlahgdhofakinaaLys
namespace Go.Proofs.Ytlahgdhofakinaa
open Go.ChangeShapes Go.WideShapes Go.ChangeAt Go.RowKit Go.Shelf Num
set_option linter.unusedVariables false
set_option linter.unusedSimpArgs false
theorem lkP_any (w : World) (a b : Option Addr) (c d : Nat) (xs : List Int) (hl : xs.length ≤ 1048576) (hx : Ints .i64 w w.heap.size a xs) (hy : Ints .i64 w w.heap.size b xs) :
    Calls Try.prog 36 #[.slice a xs.length c, .slice b xs.length d] w fun e w' => e = .returned (.bool true) ∧ Below w.heap.size w w' :=
  (lki_any w w.heap.size a b c d xs hl hx hy).mono (by rintro e w' ⟨rfl, n, rfl⟩; exact ⟨rfl, bel_drewN (Below.refl _ _) _⟩)
/-- what holds where the costs and the miss are valid -/
theorem law_bst {L : List (List Int)} {m : Int} (h : coC L m = 0) : spC L m (bsV L m) = 0 ∧ spV L m (bsV L m) = lsV L m ∧ sumbV L m ≤ lsV L m ∧ (acB L && prB L (bsV L m)) = true ∧ ∀ Z, spC L m Z = 0 → lsV L m ≤ spV L m Z := by
  obtain ⟨ha, m0, m1⟩ := coC_0 h
  obtain ⟨h1, h2⟩ := bst_facts L m
  have e1 : bsV L m = bstP L m := by unfold bsV; rw [if_pos h]
  have e2 : lsV L m = smV L m (bstP L m) := by unfold lsV; rw [if_pos h]
  have e3 : spC L m (bstP L m) = 0 := by rw [coC_spC, if_pos h, if_pos h1]
  refine ⟨by rw [e1]; exact e3, by rw [e1, e2]; unfold spV; rw [if_pos e3], ?_, by rw [e1, h1, show acB L = true from decide_eq_true ha]; rfl, fun Z hZ => ?_⟩
  · rw [e2]
    unfold sumbV
    rw [if_pos h]
    obtain ⟨g1, g2⟩ := prB_t h1
    have := sb_le g2 m0 (bstP L m).length (Nat.le_refl _)
    rw [g1] at this
    unfold smV
    rw [g1]
    exact this
  · have hp : prB L Z = true := by
      rw [coC_spC, if_pos h] at hZ
      split at hZ
      · assumption
      · cases hZ
    rw [e2]
    unfold spV
    rw [if_pos hZ]
    exact h2 Z hp
/-- .. and of the greedy pairing -/
theorem law_gre {L : List (List Int)} {m : Int} (h : coC L m = 0) : fcC L (grW L m) = 0 ∧ spC L m (grW L m) = 0 ∧ lsV L m ≤ spV L m (grW L m) ∧ (grW L m).length = L.length ∧ ∀ i k, i < L.length → k < (gR L i).length → ¬ (pI (grW L m) i < 0 ∧ ((k : Int) ∈ fcV L (grW L m)) ∧ 0 ≤ eAt L i k ∧ eAt L i k < m) := by
  obtain ⟨ha, m0, m1⟩ := coC_0 h
  obtain ⟨h1, h2⟩ := grV_facts L m
  have e1 : grW L m = grV L m := by unfold grW; rw [if_pos h]
  have e0 : acB L = true := decide_eq_true ha
  have e3 : spC L m (grV L m) = 0 := by rw [coC_spC, if_pos h, if_pos h1]
  have e4 : fcC L (grV L m) = 0 := by unfold fcC; rw [e0, if_pos rfl, if_pos h1]
  rw [e1]
  refine ⟨e4, e3, (law_bst h).2.2.2.2 _ e3, (prB_t h1).1, fun i k hi hk => ?_⟩
  rintro ⟨g1, g2, g3, g4⟩
  refine h2 i k hi hk ⟨g1, ?_, g3, g4⟩
  unfold fcV at g2
  rw [if_pos e4, if_pos (show 0 < L.length by omega)] at g2
  exact (fcL_mem.1 g2).2

set_option maxRecDepth 100000 in
set_option maxHeartbeats 16000000 in
theorem lprs (a0 : Option Addr) (len0 cap0 : Nat) (z0 : List Int) (w : World) (w0 : IsRow .u8 w a0 len0 cap0 z0) :
    Calls Try.prog 4 #[.slice a0 len0 cap0] w fun e w' => e = .returned (.bool true) ∧ Below w.heap.size w w' := by
  obtain ⟨hlen, hcode⟩ := Code8.of_row w0
  obtain ⟨zs, hzs⟩ : ∃ zs, z0.take len0 = zs := ⟨_, rfl⟩
  rw [hzs] at hlen hcode
  subst hlen
  clear hzs w0
  have HC := Lib.hid hcode
  clear hcode
  have HB := Lib.hid (Below.refl w.heap.size w)
  by_cases hbig : 4096 < zs.length
  · have hd : decide ((4096 : Int) < (zs.length : Int)) = true := by simp; omega
    go_enter Try.func4, Try.ntmps4
    go_wp2_with (go_at_call 16; refine (big_any _ _ _ _).mono ?_; rw [hd]; rintro e w' ⟨rfl, rfl⟩)
    go_ret
    exact ⟨rfl, Below.refl _ _⟩
  have hd : decide ((4096 : Int) < (zs.length : Int)) = false := by simp; omega
  go_enter Try.func4, Try.ntmps4
  go_wp2_with (go_at_call 16; refine (big_any _ _ _ _).mono ?_; rw [hd]; rintro e w' ⟨rfl, rfl⟩)
  clear hd
  go_wp2_with fail
  refine (dsp_any _ _ _ zs ((HC.out.below HB.out (Nat.le_refl _)).more HB.out.size)).mono ?_
  rintro e w1 ⟨G, c, L, m, g, d, Z, rfl, h8, hr8, hz9, hzd, hx, hz, hb⟩
  replace HB := Lib.hid (bel_end HB.out hb)
  have q1 := hb.size
  have HX := Lib.hid (RwX.of hx)
  have HP := Lib.hid (IntL.of hz)
  have HR : Hid (∀ j, j < L.length → (gR L j).length ≤ 9223372036854775807) := Lib.hid (fun j hj => Nat.le_trans (hr8 j hj) (by omega))
  clear hx hr8 hb hz
  obtain ⟨V, hV⟩ : ∃ u, spV L m Z = u := ⟨_, rfl⟩
  obtain ⟨C, hC⟩ : ∃ u, spC L m Z = u := ⟨_, rfl⟩
  obtain ⟨Q, hQ⟩ : ∃ u, coC L m = u := ⟨_, rfl⟩
  obtain ⟨LS, hLS⟩ : ∃ u, lsV L m = u := ⟨_, rfl⟩
  obtain ⟨SB, hSB⟩ : ∃ u, sumbV L m = u := ⟨_, rfl⟩
  have hln := bsV_len L m
  obtain ⟨LL, hLL⟩ : ∃ u, bsV L m = u := ⟨_, rfl⟩
  rw [hLL] at hln
  have HLW := Lib.hid (fun (h : Q = 0) => law_bst (L := L) (m := m) (by rw [hQ]; exact h))
  rw [hLL, hLS, hSB] at HLW
  have KS : Hid (∀ (W : World) (a b : Option Addr) (c d : Nat), RwL W W.heap.size a L → Ints .i64 W W.heap.size b Z → Calls Try.prog 28 #[.slice a L.length c, .int .i64 m, .slice b Z.length d] W fun e w' => e = .returned (.tuple #[.int .i64 V, .int .i64 C]) ∧ Below W.heap.size W w') := Lib.hid (fun W a b c d h1 h3 => by have := isp_any W a c _ L rfl (by omega) HR.out h1 b d _ Z rfl (by omega) h3 m; rwa [hV, hC] at this)
  have KT : Hid (∀ (W : World) (a b : Option Addr) (c d : Nat), RwL W W.heap.size a L → Z.length ≤ d → Ints .i64 W W.heap.size b Z → Calls Try.prog 29 #[.slice a L.length c, .int .i64 m, .slice b Z.length d] W fun e w' => e = .returned (.tuple #[.int .i64 V, .int .i64 C]) ∧ Below W.heap.size W w') := Lib.hid (fun W a b c d h1 hd h3 => by have := ssp_any W a c _ L rfl (by omega) HR.out h1 m b d _ Z rfl (by omega) hd h3; rwa [hV, hC] at this)
  have KB : Hid (∀ (W : World) (a : Option Addr) (c : Nat), RwL W W.heap.size a L → Calls Try.prog 30 #[.slice a L.length c, .int .i64 m] W fun e w' => ∃ (g : Option Addr) (k : Nat), e = .returned (.tuple #[.slice g LL.length k, .int .i64 Q]) ∧ OwnA w' W.heap.size w'.heap.size g k LL ∧ Below W.heap.size W w') := Lib.hid (fun W a c h1 => by have := ibp_any W a c _ L rfl (by omega) HR.out h1 m; rwa [hLL, hQ] at this)
  have KC : Hid (∀ (W : World) (a : Option Addr) (c : Nat), RwL W W.heap.size a L → Calls Try.prog 31 #[.slice a L.length c, .int .i64 m] W fun e w' => ∃ (g : Option Addr) (k : Nat), e = .returned (.tuple #[.slice g LL.length k, .int .i64 Q]) ∧ OwnA w' W.heap.size w'.heap.size g k LL ∧ Below W.heap.size W w') := Lib.hid (fun W a c h1 => by have := sbp_any W a c _ L rfl (by omega) HR.out h1 m; rwa [hLL, hQ] at this)
  have KL : Hid (∀ (W : World) (a : Option Addr) (c : Nat), RwL W W.heap.size a L → Calls Try.prog 32 #[.slice a L.length c, .int .i64 m] W fun e w' => e = .returned (.tuple #[.int .i64 LS, .int .i64 Q]) ∧ Below W.heap.size W w') := Lib.hid (fun W a c h1 => by have := ilm_any W a c _ L rfl (by omega) HR.out h1 m; rwa [hLS, hQ] at this)
  have KM : Hid (∀ (W : World) (a : Option Addr) (c : Nat), RwL W W.heap.size a L → Calls Try.prog 33 #[.slice a L.length c, .int .i64 m] W fun e w' => e = .returned (.tuple #[.int .i64 LS, .int .i64 Q]) ∧ Below W.heap.size W w') := Lib.hid (fun W a c h1 => by have := slm_any W a c _ L rfl (by omega) HR.out h1 m; rwa [hLS, hQ] at this)
  have KX : Hid (∀ (W : World) (a : Option Addr) (c : Nat), RwL W W.heap.size a L → Calls Try.prog 34 #[.slice a L.length c, .int .i64 m] W fun e w' => e = .returned (.tuple #[.int .i64 SB, .int .i64 Q]) ∧ Below W.heap.size W w') := Lib.hid (fun W a c h1 => by have := isb_any W a c _ L rfl (by omega) HR.out h1 m; rwa [hSB, hQ] at this)
  have KY : Hid (∀ (W : World) (a : Option Addr) (c : Nat), RwL W W.heap.size a L → Calls Try.prog 35 #[.slice a L.length c, .int .i64 m] W fun e w' => e = .returned (.tuple #[.int .i64 SB, .int .i64 Q]) ∧ Below W.heap.size W w') := Lib.hid (fun W a c h1 => by have := sbd_any W a c _ L rfl (by omega) HR.out h1 m; rwa [hSB, hQ] at this)
  have HVC : Hid (Q = 0 → C = 0 → LS ≤ V) := Lib.hid (fun h1 h2 => by have := (HLW.out h1).2.2.2.2 Z (by rw [hC]; exact h2); rwa [hV] at this)
  have KO : Hid (Q = 0 → ∀ (W : World) (a b : Option Addr) (c d : Nat), RwL W W.heap.size a L → Ints .i64 W W.heap.size b LL → Calls Try.prog 28 #[.slice a L.length c, .int .i64 m, .slice b LL.length d] W fun e w' => e = .returned (.tuple #[.int .i64 LS, .int .i64 0]) ∧ Below W.heap.size W w') := Lib.hid (fun h0 W a b c d h1 h3 => by have := isp_any W a c _ L rfl (by omega) HR.out h1 b d _ LL rfl (by omega) h3 m; rwa [(HLW.out h0).1, (HLW.out h0).2.1] at this)
  have KI : Hid (Q = 0 → ∀ (W : World) (a b : Option Addr) (c d : Nat), RwL W W.heap.size a L → Ints .i64 W W.heap.size b LL → Calls Try.prog 37 #[.slice a L.length c, .slice b LL.length d] W fun e w' => e = .returned (.bool true) ∧ Below W.heap.size W w') := Lib.hid (fun h0 W a b c d h1 h3 => by have := ipg_any W a c _ L rfl (by omega) HR.out h1 b d _ LL rfl (by omega) h3; rwa [(HLW.out h0).2.2.2.1] at this)
  have HSB : Hid (Q = 0 → SB ≤ LS) := Lib.hid (fun h => (HLW.out h).2.2.1)
  clear hV hC hQ hLS hSB hLL HLW
  go_wp2_with fail
  refine (KS.out _ _ _ _ _ HX.out.rows HP.out.ints).mono ?_
  rintro e w2 ⟨rfl, hb⟩
  replace HX := Lib.hid (HX.out.on hb)
  replace HP := Lib.hid (HP.out.on hb)
  replace HB := Lib.hid (bel_end HB.out hb)
  have q2 := hb.size
  clear hb
  go_wp2_with fail
  refine (KT.out _ _ _ _ _ HX.out.rows hzd HP.out.ints).mono ?_
  rintro e w3 ⟨rfl, hb⟩
  replace HX := Lib.hid (HX.out.on hb)
  replace HP := Lib.hid (HP.out.on hb)
  replace HB := Lib.hid (bel_end HB.out hb)
  have q3 := hb.size
  clear hb
  go_wp2_with fail
  refine (KB.out _ _ _ HX.out.rows).mono ?_
  rintro e w4 ⟨RGa, RGc, rfl, ho, hb⟩
  replace HX := Lib.hid (HX.out.on hb)
  replace HP := Lib.hid (HP.out.on hb)
  replace HB := Lib.hid (bel_end HB.out hb)
  have q4 := hb.size
  have RG := Lib.hid ho
  clear ho hb
  go_wp2_with fail
  refine (KC.out _ _ _ HX.out.rows).mono ?_
  rintro e w5 ⟨RSa, RSc, rfl, ho, hb⟩
  replace HX := Lib.hid (HX.out.on hb)
  replace HP := Lib.hid (HP.out.on hb)
  replace RG := Lib.hid (RG.out.on hb)
  replace HB := Lib.hid (bel_end HB.out hb)
  have q5 := hb.size
  have RS := Lib.hid ho
  clear ho hb
  go_wp2_with fail
  refine (KL.out _ _ _ HX.out.rows).mono ?_
  rintro e w6 ⟨rfl, hb⟩
  replace HX := Lib.hid (HX.out.on hb)
  replace HP := Lib.hid (HP.out.on hb)
  replace RG := Lib.hid (RG.out.on hb)
  replace RS := Lib.hid (RS.out.on hb)
  replace HB := Lib.hid (bel_end HB.out hb)
  have q6 := hb.size
  clear hb
  go_wp2_with fail
  refine (KM.out _ _ _ HX.out.rows).mono ?_
  rintro e w7 ⟨rfl, hb⟩
  replace HX := Lib.hid (HX.out.on hb)
  replace HP := Lib.hid (HP.out.on hb)
  replace RG := Lib.hid (RG.out.on hb)
  replace RS := Lib.hid (RS.out.on hb)
  replace HB := Lib.hid (bel_end HB.out hb)
  have q7 := hb.size
  clear hb
  go_wp2_with fail
  refine (KX.out _ _ _ HX.out.rows).mono ?_
  rintro e w8 ⟨rfl, hb⟩
  replace HX := Lib.hid (HX.out.on hb)
  replace HP := Lib.hid (HP.out.on hb)
  replace RG := Lib.hid (RG.out.on hb)
  replace RS := Lib.hid (RS.out.on hb)
  replace HB := Lib.hid (bel_end HB.out hb)
  have q8 := hb.size
  clear hb
  go_wp2_with fail
  refine (KY.out _ _ _ HX.out.rows).mono ?_
  rintro e w9 ⟨rfl, hb⟩
  replace HX := Lib.hid (HX.out.on hb)
  replace HP := Lib.hid (HP.out.on hb)
  replace RG := Lib.hid (RG.out.on hb)
  replace RS := Lib.hid (RS.out.on hb)
  replace HB := Lib.hid (bel_end HB.out hb)
  have q9 := hb.size
  clear hb
  go_wp2_with fail
  refine (lkP_any _ _ _ _ _ LL (by omega) RG.out.ints RS.out.ints).mono ?_
  rintro e w10 ⟨rfl, hb⟩
  replace HX := Lib.hid (HX.out.on hb)
  replace HP := Lib.hid (HP.out.on hb)
  replace RG := Lib.hid (RG.out.on hb)
  replace RS := Lib.hid (RS.out.on hb)
  replace HB := Lib.hid (bel_end HB.out hb)
  have q10 := hb.size
  clear hb
  by_cases h0 : Q = 0
  rotate_left
  · have hd : (Q != 0) = true := by simpa using h0
    go_wp2
    go_ret
    exact ⟨rfl, HB.out⟩
  subst h0
  go_wp2_with fail
  refine (KO.out (by trivial) _ _ _ _ _ HX.out.rows RG.out.ints).mono ?_
  rintro e w11 ⟨rfl, hb⟩
  replace HX := Lib.hid (HX.out.on hb)
  replace HP := Lib.hid (HP.out.on hb)
  replace RG := Lib.hid (RG.out.on hb)
  replace RS := Lib.hid (RS.out.on hb)
  replace HB := Lib.hid (bel_end HB.out hb)
  have q11 := hb.size
  clear hb
  have hsb := HSB.out (by trivial)
  have KI1 := Lib.hid (KI.out (by trivial))
  by_cases hc0 : C = 0
  · have hlv := HVC.out (by trivial) hc0
    subst hc0
    go_wp2_with (go_at_call 37; refine (KI1.out _ _ _ _ _ HX.out.rows RG.out.ints).mono ?_; rintro e w' ⟨rfl, hb⟩; replace HB := Lib.hid (bel_end HB.out hb); clear hb)
    go_ret
    exact ⟨rfl, HB.out⟩
  · have hdc : (C != 0) = true := by simpa using hc0
    go_wp2_with (go_at_call 37; refine (KI1.out _ _ _ _ _ HX.out.rows RG.out.ints).mono ?_; rintro e w' ⟨rfl, hb⟩; replace HB := Lib.hid (bel_end HB.out hb); clear hb)
    go_ret
    exact ⟨rfl, HB.out⟩
end Go.Proofs.Ytlahgdhofakinaa
