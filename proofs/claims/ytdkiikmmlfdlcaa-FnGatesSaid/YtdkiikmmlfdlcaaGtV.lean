/- The walk of the law FnGates over drawn data: it returns true and writes nothing that was there. -/
import Derived.Test.YtdkiikmmlfdlcaaGtT
import Derived.Test.YtdkiikmmlfdlcaaLys
import Derived.Test.YtdkiikmmlfdlcaaGtX
import Derived.LoopTactic
import Derived.Deep.RegionHeld3
import Derived.Deep.DeepCutAuto
import Derived.Deep.DrawnRows
import Derived.Deep.RegionWith
namespace Go.Proofs.Ytdkiikmmlfdlcaa
open Go.ChangeShapes Go.WideShapes Go.ChangeAt Go.RowKit Go.Shelf Num
set_option linter.unusedVariables false
set_option linter.unusedSimpArgs false

theorem lkG_any (w : World) (a b : Option Addr) (c d : Nat) (xs : List Int) (hl : xs.length ≤ 1048576) (hx : Ints .i64 w w.heap.size a xs) (hy : Ints .i64 w w.heap.size b xs) :
    Calls Try.prog 35 #[.slice a xs.length c, .slice b xs.length d] w fun e w' => e = .returned (.bool true) ∧ Below w.heap.size w w' :=
  (lki_any w w.heap.size a b c d xs hl hx hy).mono (by rintro e w' ⟨rfl, n, rfl⟩; exact ⟨rfl, bel_drewN (Below.refl _ _) _⟩)
theorem igB_dec {x y u v s p q : Int} (h : igC x y u v s p q = 0) : (gcT x y u v s p q).2 = 0 ∧ igB x y u v s p q = decide ((gcT x y u v s p q).1 ≤ s * s) ∧ 0 ≤ s ∧ s ≤ 10000 := by
  unfold igC at h
  cases hm : (mtB x y u v s && ctB p q)
  · rw [hm] at h; simp at h
  · have hm2 := hm
    rw [Bool.and_eq_true] at hm2
    obtain ⟨-, -, -, s0, s1⟩ := mtB_t hm2.1
    refine ⟨by unfold gcT; rw [hm]; rfl, ?_, s0, s1⟩
    unfold igB gcT
    rw [hm]
    rfl
theorem gcT_ig {x y u v s p q : Int} : (gcT x y u v s p q).2 = igC x y u v s p q := by unfold gcT igC; split <;> rfl

set_option maxRecDepth 100000 in
set_option maxHeartbeats 8000000 in
theorem lgat (a0 : Option Addr) (len0 cap0 : Nat) (z0 : List Int) (w : World) (w0 : IsRow .u8 w a0 len0 cap0 z0) :
    Calls Try.prog 4 #[.slice a0 len0 cap0] w fun e w' => e = .returned (.bool true) ∧ Below w.heap.size w w' := by
  obtain ⟨hlen, hcode⟩ := Code8.of_row w0
  obtain ⟨zs, hzs⟩ : ∃ zs, z0.take len0 = zs := ⟨_, rfl⟩
  rw [hzs] at hlen hcode
  subst hlen
  clear hzs w0
  have HC := Lib.hid hcode
  clear hcode
  have HB := Lib.hid (Below.refl w.heap.size w)
  by_cases hbig : 4096 < zs.length
  · have hd : decide ((4096 : Int) < (zs.length : Int)) = true := by simp; omega
    go_enter Try.func4, Try.ntmps4
    go_wp2_with (go_at_call 14; refine (big_any _ _ _ _).mono ?_; rw [hd]; rintro e w' ⟨rfl, rfl⟩)
    go_ret
    exact ⟨rfl, Below.refl _ _⟩
  · have hd : decide ((4096 : Int) < (zs.length : Int)) = false := by simp; omega
    go_enter Try.func4, Try.ntmps4
    go_wp2_with (go_at_call 14; refine (big_any _ _ _ _).mono ?_; rw [hd]; rintro e w' ⟨rfl, rfl⟩)
    clear hd
    refine (dci_any _ _ _ zs ((HC.out.below HB.out (Nat.le_refl _)).more HB.out.size)).mono ?_
    rintro e w1 ⟨x, y, u, v, t, da, dc, ps, rfl, hl7, hct, hb⟩
    replace HB := Lib.hid (bel_end HB.out hb)
    have HCL := Lib.hid hct
    clear hct
    clear hb
    have r6 := ciT_len x y u v t ps
    have f0 := fun h => nrC_0 (x := x) (y := y) (u := u) (v := v) (s := t) (ps := ps) h
    have f1 := fun h g => nrC_no (x := x) (y := y) (u := u) (v := v) (s := t) (ps := ps) h g
    have f2 := fun h => mcC_0 (x := x) (y := y) (u := u) (v := v) (s := t) (ps := ps) h
    have f3 : ∀ z, z ∈ ciT x y u v t ps → ∃ j : Nat, z = (j : Int) ∧ j < ps.length := fun z hz => by
      unfold ciT at hz
      split at hz
      · obtain ⟨j, e, hj, -⟩ := cinL_mem hz
        exact ⟨j, e, hj⟩
      · simp at hz
    obtain ⟨R, hR⟩ : ∃ qq, ciT x y u v t ps = qq := ⟨_, rfl⟩
    obtain ⟨C, hC⟩ : ∃ qq, mcC x y u v t ps = qq := ⟨_, rfl⟩
    obtain ⟨K, hK⟩ : ∃ qq, nrV x y u v t ps = qq := ⟨_, rfl⟩
    obtain ⟨E, hE⟩ : ∃ qq, nrC x y u v t ps = qq := ⟨_, rfl⟩
    have K1I : Hid (∀ (W : World) (a : Option Addr) (c : Nat), Cts W W.heap.size a ps → Calls Try.prog 26 #[.agg #[.int .i64 x, .int .i64 y, .int .i64 u, .int .i64 v, .int .i64 t], .slice a ps.length c] W fun e w' => ∃ (a' : Option Addr) (c' : Nat), e = .returned (.tuple #[.slice a' R.length c', .int .i64 C]) ∧ OwnA w' W.heap.size w'.heap.size a' c' R ∧ Below W.heap.size W w') := Lib.hid (fun W a c h => by have := ici_any W x y u v t a c ps (by omega) h; rwa [hR, hC] at this)
    have K1S : Hid (∀ (W : World) (a : Option Addr) (c : Nat), Cts W W.heap.size a ps → Calls Try.prog 27 #[.agg #[.int .i64 x, .int .i64 y, .int .i64 u, .int .i64 v, .int .i64 t], .slice a ps.length c] W fun e w' => ∃ (a' : Option Addr) (c' : Nat), e = .returned (.tuple #[.slice a' R.length c', .int .i64 C]) ∧ OwnA w' W.heap.size w'.heap.size a' c' R ∧ Below W.heap.size W w') := Lib.hid (fun W a c h => by have := sci_any W x y u v t a c ps (by omega) h; rwa [hR, hC] at this)
    have K2I : Hid (∀ (W : World) (a : Option Addr) (c : Nat), Cts W W.heap.size a ps → Calls Try.prog 28 #[.agg #[.int .i64 x, .int .i64 y, .int .i64 u, .int .i64 v, .int .i64 t], .slice a ps.length c] W fun e w' => e = .returned (.tuple #[.int .i64 K, .int .i64 E]) ∧ Below W.heap.size W w') := Lib.hid (fun W a c h => by have := inr_any W x y u v t a c ps (by omega) h; rwa [hK, hE] at this)
    have K2S : Hid (∀ (W : World) (a : Option Addr) (c : Nat), Cts W W.heap.size a ps → Calls Try.prog 29 #[.agg #[.int .i64 x, .int .i64 y, .int .i64 u, .int .i64 v, .int .i64 t], .slice a ps.length c] W fun e w' => e = .returned (.tuple #[.int .i64 K, .int .i64 E]) ∧ Below W.heap.size W w') := Lib.hid (fun W a c h => by have := snr_any W x y u v t a c ps (by omega) h; rwa [hK, hE] at this)
    rw [hR] at r6 f3
    rw [hR, hC, hE, hK] at f0
    rw [hR, hC, hE] at f1
    rw [hC] at f2
    have F0 := Lib.hid f0
    have F1 := Lib.hid f1
    have F2 := Lib.hid f2
    have F3 := Lib.hid f3
    clear f0 f1 f2 f3 hR hC hK hE
    go_upto_region 4 with fail
    generalize hW : World.alloc _ _ = wl1
    have hb : Below w1.heap.size w1 wl1 := by rw [← hW]; exact (by repeat (first | exact Below.refl _ _ | (refine Below.alloc ?_ (by simp <;> omega) _) | (refine Below.setCell ?_ (by simp <;> omega) _) | (refine Below.drew ?_) | (refine bel_drewN ?_ _)))
    obtain ⟨gX, hg0⟩ : ∃ g, g = w1.heap.size := ⟨_, rfl⟩
    have bX : Bk wl1 gX #[.int .i64 x, .int .i64 y, .int .i64 u, .int .i64 v, .int .i64 t] 25 := by rw [← hW, hg0]; repeat (first | (refine Bk.new' ?_; (simp; done)) | refine Bk.alloc ?_ _)
    try rw [← hg0]
    clear hW hg0
    replace HCL := Lib.hid (HCL.out.on hb)
    replace HB := Lib.hid (bel_end HB.out hb)
    clear hb
    have bX_0 := bX.cell 0 rfl
    have bX_1 := bX.cell 1 rfl
    have bX_2 := bX.cell 2 rfl
    have bX_3 := bX.cell 3 rfl
    have bX_4 := bX.cell 4 rfl
    have bX_l := bX.lt
    go_wp2_with fail
    refine (K1I.out _ _ _ HCL.out).mono ?_
    rintro e w2 ⟨la, lc, rfl, ho, hb⟩
    replace bX := bX.on hb
    replace HCL := Lib.hid (HCL.out.on hb)
    replace HB := Lib.hid (bel_end HB.out hb)
    have HL := Lib.hid ho
    clear ho
    clear hb
    clear bX_0 bX_1 bX_2 bX_3 bX_4 bX_l
    have bX_0 := bX.cell 0 rfl
    have bX_1 := bX.cell 1 rfl
    have bX_2 := bX.cell 2 rfl
    have bX_3 := bX.cell 3 rfl
    have bX_4 := bX.cell 4 rfl
    have bX_l := bX.lt
    go_wp2_with fail
    refine (K1S.out _ _ _ HCL.out).mono ?_
    rintro e w3 ⟨ma, mc, rfl, ho, hb⟩
    replace bX := bX.on hb
    replace HCL := Lib.hid (HCL.out.on hb)
    replace HL := Lib.hid (HL.out.on hb)
    replace HB := Lib.hid (bel_end HB.out hb)
    have HMd := Lib.hid ho
    clear ho
    clear hb
    clear bX_0 bX_1 bX_2 bX_3 bX_4 bX_l
    have bX_0 := bX.cell 0 rfl
    have bX_1 := bX.cell 1 rfl
    have bX_2 := bX.cell 2 rfl
    have bX_3 := bX.cell 3 rfl
    have bX_4 := bX.cell 4 rfl
    have bX_l := bX.lt
    go_wp2_with fail
    refine (K2I.out _ _ _ HCL.out).mono ?_
    rintro e w4 ⟨rfl, hb⟩
    replace bX := bX.on hb
    replace HCL := Lib.hid (HCL.out.on hb)
    replace HL := Lib.hid (HL.out.on hb)
    replace HMd := Lib.hid (HMd.out.on hb)
    replace HB := Lib.hid (bel_end HB.out hb)
    clear hb
    clear bX_0 bX_1 bX_2 bX_3 bX_4 bX_l
    have bX_0 := bX.cell 0 rfl
    have bX_1 := bX.cell 1 rfl
    have bX_2 := bX.cell 2 rfl
    have bX_3 := bX.cell 3 rfl
    have bX_4 := bX.cell 4 rfl
    have bX_l := bX.lt
    go_wp2_with fail
    refine (K2S.out _ _ _ HCL.out).mono ?_
    rintro e w5 ⟨rfl, hb⟩
    replace bX := bX.on hb
    replace HCL := Lib.hid (HCL.out.on hb)
    replace HL := Lib.hid (HL.out.on hb)
    replace HMd := Lib.hid (HMd.out.on hb)
    replace HB := Lib.hid (bel_end HB.out hb)
    clear hb
    clear bX_0 bX_1 bX_2 bX_3 bX_4 bX_l
    clear K1I K1S K2I K2S
    have bX_0 := bX.cell 0 rfl
    have bX_1 := bX.cell 1 rfl
    have bX_2 := bX.cell 2 rfl
    have bX_3 := bX.cell 3 rfl
    have bX_4 := bX.cell 4 rfl
    have bX_l := bX.lt
    go_wp2_with fail
    refine (dgc_any _ _ _ zs ((HC.out.below HB.out (Nat.le_refl _)).more HB.out.size)).mono ?_
    rintro e w6 ⟨x2, y2, u2, v2, t2, p, q, rfl, hb⟩
    replace bX := bX.on hb
    replace HCL := Lib.hid (HCL.out.on hb)
    replace HL := Lib.hid (HL.out.on hb)
    replace HMd := Lib.hid (HMd.out.on hb)
    replace HB := Lib.hid (bel_end HB.out hb)
    clear hb
    clear bX_0 bX_1 bX_2 bX_3 bX_4 bX_l
    have i0 := fun h => igB_dec (x := x2) (y := y2) (u := u2) (v := v2) (s := t2) (p := p) (q := q) h
    have i1 := gcT_ig (x := x2) (y := y2) (u := u2) (v := v2) (s := t2) (p := p) (q := q)
    obtain ⟨⟨D, H⟩, hT⟩ : ∃ qq, gcT x2 y2 u2 v2 t2 p q = qq := ⟨_, rfl⟩
    obtain ⟨B, hB⟩ : ∃ qq, igB x2 y2 u2 v2 t2 p q = qq := ⟨_, rfl⟩
    obtain ⟨H2, hH2⟩ : ∃ qq, igC x2 y2 u2 v2 t2 p q = qq := ⟨_, rfl⟩
    have K3I : Hid (∀ W : World, Calls Try.prog 31 #[.agg #[.int .i64 x2, .int .i64 y2, .int .i64 u2, .int .i64 v2, .int .i64 t2], .agg #[.int .i64 p, .int .i64 q]] W fun e w' => e = .returned (.tuple #[.int .i64 D, .int .i64 H]) ∧ Below W.heap.size W w') := Lib.hid (fun W => by have := igc_any W x2 y2 u2 v2 t2 p q; rwa [hT] at this)
    have K3S : Hid (∀ W : World, Calls Try.prog 32 #[.agg #[.int .i64 x2, .int .i64 y2, .int .i64 u2, .int .i64 v2, .int .i64 t2], .agg #[.int .i64 p, .int .i64 q]] W fun e w' => e = .returned (.tuple #[.int .i64 D, .int .i64 H]) ∧ Below W.heap.size W w') := Lib.hid (fun W => by have := sgc_any W x2 y2 u2 v2 t2 p q; rwa [hT] at this)
    have K4I : Hid (∀ W : World, Calls Try.prog 33 #[.agg #[.int .i64 x2, .int .i64 y2, .int .i64 u2, .int .i64 v2, .int .i64 t2], .agg #[.int .i64 p, .int .i64 q]] W fun e w' => e = .returned (.tuple #[.bool B, .int .i64 H2]) ∧ Below W.heap.size W w') := Lib.hid (fun W => by have := iig_any W x2 y2 u2 v2 t2 p q; rwa [hB, hH2] at this)
    have K4S : Hid (∀ W : World, Calls Try.prog 34 #[.agg #[.int .i64 x2, .int .i64 y2, .int .i64 u2, .int .i64 v2, .int .i64 t2], .agg #[.int .i64 p, .int .i64 q]] W fun e w' => e = .returned (.tuple #[.bool B, .int .i64 H2]) ∧ Below W.heap.size W w') := Lib.hid (fun W => by have := sig_any W x2 y2 u2 v2 t2 p q; rwa [hB, hH2] at this)
    rw [hT, hH2] at i1
    rw [hT, hB, hH2] at i0
    dsimp only at i0 i1
    obtain rfl : H = H2 := i1
    have I0 := Lib.hid i0
    clear i0 hT hB hH2
    have bX_0 := bX.cell 0 rfl
    have bX_1 := bX.cell 1 rfl
    have bX_2 := bX.cell 2 rfl
    have bX_3 := bX.cell 3 rfl
    have bX_4 := bX.cell 4 rfl
    have bX_l := bX.lt
    go_upto_region 9 with fail
    clear bX_0 bX_1 bX_2 bX_3 bX_4 bX_l
    generalize hW : World.alloc _ _ = wl2
    have hb : Below w6.heap.size w6 wl2 := by rw [← hW]; exact (by repeat (first | exact Below.refl _ _ | (refine Below.alloc ?_ (by simp <;> omega) _) | (refine Below.setCell ?_ (by simp <;> omega) _) | (refine Below.drew ?_) | (refine bel_drewN ?_ _)))
    obtain ⟨gY, hg0⟩ : ∃ g, g = w6.heap.size := ⟨_, rfl⟩
    have bY : Bk wl2 gY #[.int .i64 x2, .int .i64 y2, .int .i64 u2, .int .i64 v2, .int .i64 t2] 25 := by rw [← hW, hg0]; repeat (first | (refine Bk.new' ?_; (simp; done)) | refine Bk.alloc ?_ _)
    obtain ⟨gC, hg1⟩ : ∃ g, g = w6.heap.size + 1 := ⟨_, rfl⟩
    have bC : Bk wl2 gC #[.int .i64 p, .int .i64 q] 45 := by rw [← hW, hg1]; repeat (first | (refine Bk.new' ?_; (simp; done)) | refine Bk.alloc ?_ _)
    try rw [← hg1]
    try rw [← hg0]
    clear hW hg0 hg1
    replace bX := bX.on hb
    replace HCL := Lib.hid (HCL.out.on hb)
    replace HL := Lib.hid (HL.out.on hb)
    replace HMd := Lib.hid (HMd.out.on hb)
    replace HB := Lib.hid (bel_end HB.out hb)
    clear hb
    have bX_0 := bX.cell 0 rfl
    have bX_1 := bX.cell 1 rfl
    have bX_2 := bX.cell 2 rfl
    have bX_3 := bX.cell 3 rfl
    have bX_4 := bX.cell 4 rfl
    have bX_l := bX.lt
    have bY_0 := bY.cell 0 rfl
    have bY_1 := bY.cell 1 rfl
    have bY_2 := bY.cell 2 rfl
    have bY_3 := bY.cell 3 rfl
    have bY_4 := bY.cell 4 rfl
    have bY_l := bY.lt
    have bC_0 := bC.cell 0 rfl
    have bC_1 := bC.cell 1 rfl
    have bC_l := bC.lt
    go_wp2_with fail
    refine (K3I.out _).mono ?_
    rintro e w7 ⟨rfl, hb⟩
    replace bX := bX.on hb
    replace bY := bY.on hb
    replace bC := bC.on hb
    replace HCL := Lib.hid (HCL.out.on hb)
    replace HL := Lib.hid (HL.out.on hb)
    replace HMd := Lib.hid (HMd.out.on hb)
    replace HB := Lib.hid (bel_end HB.out hb)
    clear hb
    clear bX_0 bX_1 bX_2 bX_3 bX_4 bX_l bY_0 bY_1 bY_2 bY_3 bY_4 bY_l bC_0 bC_1 bC_l
    have bX_0 := bX.cell 0 rfl
    have bX_1 := bX.cell 1 rfl
    have bX_2 := bX.cell 2 rfl
    have bX_3 := bX.cell 3 rfl
    have bX_4 := bX.cell 4 rfl
    have bX_l := bX.lt
    have bY_0 := bY.cell 0 rfl
    have bY_1 := bY.cell 1 rfl
    have bY_2 := bY.cell 2 rfl
    have bY_3 := bY.cell 3 rfl
    have bY_4 := bY.cell 4 rfl
    have bY_l := bY.lt
    have bC_0 := bC.cell 0 rfl
    have bC_1 := bC.cell 1 rfl
    have bC_l := bC.lt
    go_wp2_with fail
    refine (K3S.out _).mono ?_
    rintro e w8 ⟨rfl, hb⟩
    replace bX := bX.on hb
    replace bY := bY.on hb
    replace bC := bC.on hb
    replace HCL := Lib.hid (HCL.out.on hb)
    replace HL := Lib.hid (HL.out.on hb)
    replace HMd := Lib.hid (HMd.out.on hb)
    replace HB := Lib.hid (bel_end HB.out hb)
    clear hb
    clear bX_0 bX_1 bX_2 bX_3 bX_4 bX_l bY_0 bY_1 bY_2 bY_3 bY_4 bY_l bC_0 bC_1 bC_l
    have bX_0 := bX.cell 0 rfl
    have bX_1 := bX.cell 1 rfl
    have bX_2 := bX.cell 2 rfl
    have bX_3 := bX.cell 3 rfl
    have bX_4 := bX.cell 4 rfl
    have bX_l := bX.lt
    have bY_0 := bY.cell 0 rfl
    have bY_1 := bY.cell 1 rfl
    have bY_2 := bY.cell 2 rfl
    have bY_3 := bY.cell 3 rfl
    have bY_4 := bY.cell 4 rfl
    have bY_l := bY.lt
    have bC_0 := bC.cell 0 rfl
    have bC_1 := bC.cell 1 rfl
    have bC_l := bC.lt
    go_wp2_with fail
    refine (K4I.out _).mono ?_
    rintro e w9 ⟨rfl, hb⟩
    replace bX := bX.on hb
    replace bY := bY.on hb
    replace bC := bC.on hb
    replace HCL := Lib.hid (HCL.out.on hb)
    replace HL := Lib.hid (HL.out.on hb)
    replace HMd := Lib.hid (HMd.out.on hb)
    replace HB := Lib.hid (bel_end HB.out hb)
    clear hb
    clear bX_0 bX_1 bX_2 bX_3 bX_4 bX_l bY_0 bY_1 bY_2 bY_3 bY_4 bY_l bC_0 bC_1 bC_l
    have bX_0 := bX.cell 0 rfl
    have bX_1 := bX.cell 1 rfl
    have bX_2 := bX.cell 2 rfl
    have bX_3 := bX.cell 3 rfl
    have bX_4 := bX.cell 4 rfl
    have bX_l := bX.lt
    have bY_0 := bY.cell 0 rfl
    have bY_1 := bY.cell 1 rfl
    have bY_2 := bY.cell 2 rfl
    have bY_3 := bY.cell 3 rfl
    have bY_4 := bY.cell 4 rfl
    have bY_l := bY.lt
    have bC_0 := bC.cell 0 rfl
    have bC_1 := bC.cell 1 rfl
    have bC_l := bC.lt
    go_wp2_with fail
    refine (K4S.out _).mono ?_
    rintro e w10 ⟨rfl, hb⟩
    replace bX := bX.on hb
    replace bY := bY.on hb
    replace bC := bC.on hb
    replace HCL := Lib.hid (HCL.out.on hb)
    replace HL := Lib.hid (HL.out.on hb)
    replace HMd := Lib.hid (HMd.out.on hb)
    replace HB := Lib.hid (bel_end HB.out hb)
    clear hb
    clear bX_0 bX_1 bX_2 bX_3 bX_4 bX_l bY_0 bY_1 bY_2 bY_3 bY_4 bY_l bC_0 bC_1 bC_l
    clear K3I K3S K4I K4S bC
    have bX_0 := bX.cell 0 rfl
    have bX_1 := bX.cell 1 rfl
    have bX_2 := bX.cell 2 rfl
    have bX_3 := bX.cell 3 rfl
    have bX_4 := bX.cell 4 rfl
    have bX_l := bX.lt
    have bY_0 := bY.cell 0 rfl
    have bY_1 := bY.cell 1 rfl
    have bY_2 := bY.cell 2 rfl
    have bY_3 := bY.cell 3 rfl
    have bY_4 := bY.cell 4 rfl
    have bY_l := bY.lt
    go_wp2_with fail
    refine (lkG_any _ _ _ _ _ R (by omega) HL.out.ints HMd.out.ints).mono ?_
    rintro e w11 ⟨rfl, hb⟩
    replace bX := bX.on hb
    replace bY := bY.on hb
    replace HCL := Lib.hid (HCL.out.on hb)
    replace HL := Lib.hid (HL.out.on hb)
    replace HMd := Lib.hid (HMd.out.on hb)
    replace HB := Lib.hid (bel_end HB.out hb)
    clear hb
    clear bX_0 bX_1 bX_2 bX_3 bX_4 bX_l bY_0 bY_1 bY_2 bY_3 bY_4 bY_l
    have bX_0 := bX.cell 0 rfl
    have bX_1 := bX.cell 1 rfl
    have bX_2 := bX.cell 2 rfl
    have bX_3 := bX.cell 3 rfl
    have bX_4 := bX.cell 4 rfl
    have bX_l := bX.lt
    have bY_0 := bY.cell 0 rfl
    have bY_1 := bY.cell 1 rfl
    have bY_2 := bY.cell 2 rfl
    have bY_3 := bY.cell 3 rfl
    have bY_4 := bY.cell 4 rfl
    have bY_l := bY.lt
    go_upto_region 15 with fail
    clear bX_0 bX_1 bX_2 bX_3 bX_4 bX_l bY_0 bY_1 bY_2 bY_3 bY_4 bY_l
    by_cases hH : H = 0
    case pos =>
      obtain ⟨-, hi, t0, t1⟩ := I0.out hH
      subst hH
      have sq := sq_bd (a := t2) (A := 10000) (by omega)
      have e1 : IntKind.wrap .i64 (t2 * t2) = t2 * t2 := IntWalk.i64_in _ (by omega)
      clear I0 sq t0 t1
      subst hi
      have bX_0 := bX.cell 0 rfl
      have bX_1 := bX.cell 1 rfl
      have bX_2 := bX.cell 2 rfl
      have bX_3 := bX.cell 3 rfl
      have bX_4 := bX.cell 4 rfl
      have bX_l := bX.lt
      have bY_0 := bY.cell 0 rfl
      have bY_1 := bY.cell 1 rfl
      have bY_2 := bY.cell 2 rfl
      have bY_3 := bY.cell 3 rfl
      have bY_4 := bY.cell 4 rfl
      have bY_l := bY.lt
      go_upto_region 17 with fail
      clear bX_0 bX_1 bX_2 bX_3 bX_4 bX_l bY_0 bY_1 bY_2 bY_3 bY_4 bY_l
      clear bY
      by_cases h0 : C = 0
      case neg =>
        have h1 : (C != 0) = true := by simpa using h0
        clear h0
        have bX_0 := bX.cell 0 rfl
        have bX_1 := bX.cell 1 rfl
        have bX_2 := bX.cell 2 rfl
        have bX_3 := bX.cell 3 rfl
        have bX_4 := bX.cell 4 rfl
        have bX_l := bX.lt
        go_wp2
        go_ret
        exact ⟨rfl, HB.out⟩
      case pos =>
        obtain ⟨hm, ha, h6⟩ := F2.out h0
        obtain ⟨hxy, -, -, s0, s1⟩ := mtB_t hm
        have HC0 := Lib.hid h0
        subst h0
        by_cases h0 : E = 0
        case neg =>
          have h1 : (E != 0) = true := by simpa using h0
          have h2 := F1.out h0 HC0.out
          subst h2
          clear h0
          have bX_0 := bX.cell 0 rfl
          have bX_1 := bX.cell 1 rfl
          have bX_2 := bX.cell 2 rfl
          have bX_3 := bX.cell 3 rfl
          have bX_4 := bX.cell 4 rfl
          have bX_l := bX.lt
          go_wp2
          go_ret
          exact ⟨rfl, HB.out⟩
        case pos =>
          obtain ⟨-, m, hmp, rfl, hmem, hle⟩ := F0.out h0
          subst h0
          have HLE := Lib.hid hle
          have HMEM := Lib.hid hmem
          clear F0 F1 F2 hle hmem
          have KG : Hid (∀ (j : Nat), j < ps.length → ∀ W : World, Calls Try.prog 31 #[.agg #[.int .i64 x, .int .i64 y, .int .i64 u, .int .i64 v, .int .i64 t], .agg #[.int .i64 (pX ps j), .int .i64 (pY ps j)]] W fun e w' => e = .returned (.tuple #[.int .i64 (gK x y ps j), .int .i64 0]) ∧ Below W.heap.size W w') := Lib.hid (fun j hj W => by
            have := igc_any W x y u v t (pX ps j) (pY ps j)
            rwa [show gcT x y u v t (pX ps j) (pY ps j) = (gK x y ps j, 0) by unfold gcT; rw [hm, show ctB (pX ps j) (pY ps j) = true from allC_at ha hj]; rfl] at this)
          clear hm ha hxy s0 s1 h6
          have bX_0 := bX.cell 0 rfl
          have bX_1 := bX.cell 1 rfl
          have bX_2 := bX.cell 2 rfl
          have bX_3 := bX.cell 3 rfl
          have bX_4 := bX.cell 4 rfl
          have bX_l := bX.lt
          go_upto_region 21 with fail
          clear bX_0 bX_1 bX_2 bX_3 bX_4 bX_l
          obtain ⟨b, off, p1, q1, rfl, hBk, hpq, hc0, hc1⟩ := HCL.out.at_ hmp
          have K5 := Lib.hid (KG.out m hmp)
          rw [show pX ps m = p1 by unfold pX; rw [hpq], show pY ps m = q1 by unfold pY; rw [hpq]] at K5
          obtain ⟨G, hG⟩ : ∃ z, gK x y ps m = z := ⟨_, rfl⟩
          rw [hG] at K5
          have HGm := Lib.hid hG
          have hml : (m : Int) < (ps.length : Int) := by omega
          clear hpq hG hBk
          have bX_0 := bX.cell 0 rfl
          have bX_1 := bX.cell 1 rfl
          have bX_2 := bX.cell 2 rfl
          have bX_3 := bX.cell 3 rfl
          have bX_4 := bX.cell 4 rfl
          have bX_l := bX.lt
          go_upto_region 21 with fail
          clear bX_0 bX_1 bX_2 bX_3 bX_4 bX_l
          go_cut [23, 24] from 147 to 155 (fun s23 s24 wx => s23 = .int .i64 G ∧ s24 = .int .i64 0 ∧ Below w11.heap.size w11 wx)
          case first =>
            have HW : Hid (Below w11.heap.size w11 w11) := Lib.hid (Below.refl _ _)
            obtain ⟨S, hSd⟩ : ∃ S : World → Prop, ∀ w', S w' ↔ (w'.cell? ⟨gX, 0, none⟩ = some (.int .i64 x) ∧ w'.cell? ⟨gX, 1, none⟩ = some (.int .i64 y) ∧ w'.cell? ⟨gX, 2, none⟩ = some (.int .i64 u) ∧ w'.cell? ⟨gX, 3, none⟩ = some (.int .i64 v) ∧ w'.cell? ⟨gX, 4, none⟩ = some (.int .i64 t) ∧ w'.cell? ⟨b, off + m * 2, none⟩ = some (.int .i64 p1) ∧ w'.cell? ⟨b, off + m * 2 + 1, none⟩ = some (.int .i64 q1)) := ⟨_, fun _ => Iff.rfl⟩
            have HSp : Hid (∀ w' : World, Bk w' (gX) #[.int .i64 x, .int .i64 y, .int .i64 u, .int .i64 v, .int .i64 t] 25 → w'.cell? ⟨b, off + m * 2, none⟩ = some (.int .i64 p1) → w'.cell? ⟨b, off + m * 2 + 1, none⟩ = some (.int .i64 q1) → S w') := Lib.hid (fun w' bX y0 y1 => (hSd w').2 ⟨bX.cell 0 rfl, bX.cell 1 rfl, bX.cell 2 rfl, bX.cell 3 rfl, bX.cell 4 rfl, y0, y1⟩)
            have HSd := Lib.hid hSd
            clear hSd
            refine wp_region_held_drew (S := S) (by kernel_rfl) ?_ (fun hH => ?_)
            · exact (HSp.out _ bX hc0 hc1 : S (World.drew w11))
            clear hH
            generalize hX : World.drew w11 = V0
            replace bX : Bk V0 (gX) #[.int .i64 x, .int .i64 y, .int .i64 u, .int .i64 v, .int .i64 t] 25 := by rw [← hX]; exact bX
            have hb : Below w11.heap.size w11 V0 := by rw [← hX]; exact (Below.refl _ _).drew
            clear hX
            replace hc0 := kcG hc0 hb
            replace hc1 := kcG hc1 hb
            replace HW := Lib.hid (bel_end HW.out hb)
            clear hb
            have hS := HSp.out _ bX hc0 hc1
            refine wpAnyH_take (i := 0) (oi := { dst := some 148, op := Go.Op.load 25 (Go.Operand.tmp 3), type := 25, pos := "laws.go:326", after := #[], guard := none }) (v := ?_) rfl (by kernel_rfl) (by kernel_rfl) (by kernel_rfl) (fun _ _ _ h => h) (Or.inl ⟨by rfl, ?_⟩) hS ?_
            rotate_left
            · (intro w hSw; have hSw := (HSd.out w).1 hSw; go_split_ands; go_simp) <;> with_reducible rfl
            clear hS
            try simp only [Act.put, List.setIfInBounds_toArray, List.set_cons_zero, List.set_cons_succ]
            have hS := HSp.out _ bX hc0 hc1
            refine wpAnyH_take (i := 1) (oi := { dst := some 149, op := Go.Op.move (Go.Operand.tmp 4), type := 29, pos := "laws.go:326", after := #[], guard := none }) (v := ?_) rfl (by kernel_rfl) (by kernel_rfl) (by kernel_rfl) (fun _ _ _ h => h) (Or.inl ⟨by rfl, ?_⟩) hS ?_
            rotate_left
            · (intro w hSw; have hSw := (HSd.out w).1 hSw; go_split_ands; go_simp) <;> with_reducible rfl
            clear hS
            try simp only [Act.put, List.setIfInBounds_toArray, List.set_cons_zero, List.set_cons_succ]
            have hS := HSp.out _ bX hc0 hc1
            refine wpAnyH_take (i := 2) (oi := { dst := some 150, op := Go.Op.move (Go.Operand.tmp 11), type := 2, pos := "laws.go:326", after := #[], guard := none }) (v := ?_) rfl (by kernel_rfl) (by kernel_rfl) (by kernel_rfl) (fun _ _ _ h => h) (Or.inl ⟨by rfl, ?_⟩) hS ?_
            rotate_left
            · (intro w hSw; have hSw := (HSd.out w).1 hSw; go_split_ands; go_simp) <;> with_reducible rfl
            clear hS
            try simp only [Act.put, List.setIfInBounds_toArray, List.set_cons_zero, List.set_cons_succ]
            have hS := HSp.out _ bX hc0 hc1
            refine wpAnyH_take (i := 3) (oi := { dst := some 151, op := Go.Op.indexAddr 29 (Go.Operand.tmp 149) (Go.Operand.tmp 150), type := 0, pos := "laws.go:326", after := #[{ on := 1, ground := Go.Ground.data }, { on := 2, ground := Go.Ground.data }], guard := none }) (v := ?_) rfl (by kernel_rfl) (by kernel_rfl) (by kernel_rfl) (fun _ _ _ h => h) (Or.inl ⟨by rfl, ?_⟩) hS ?_
            rotate_left
            · (intro w hSw; have hSw := (HSd.out w).1 hSw; go_split_ands; go_simp) <;> with_reducible rfl
            clear hS
            try simp only [Act.put, List.setIfInBounds_toArray, List.set_cons_zero, List.set_cons_succ]
            have hS := HSp.out _ bX hc0 hc1
            refine wpAnyH_take (i := 4) (oi := { dst := some 152, op := Go.Op.load 45 (Go.Operand.tmp 151), type := 45, pos := "laws.go:326", after := #[{ on := 3, ground := Go.Ground.data }], guard := none }) (v := ?_) rfl (by kernel_rfl) (by kernel_rfl) (by kernel_rfl) (fun _ _ _ h => h) (Or.inl ⟨by rfl, ?_⟩) hS ?_
            rotate_left
            · (intro w hSw; have hSw := (HSd.out w).1 hSw; go_split_ands; go_simp) <;> with_reducible rfl
            clear hS
            try simp only [Act.put, List.setIfInBounds_toArray, List.set_cons_zero, List.set_cons_succ]
            refine wpAnyH_ready (rs := [5]) (by decide +kernel) (by simp) ?_
            refine AllReadyH.cons (o := { dst := some 153, op := Go.Op.call { callee := Go.Callee.value (Go.Operand.func 31), args := #[Go.Operand.tmp 148, Go.Operand.tmp 152], argTypes := #[25, 45] }, type := 42, pos := "laws.go:326", after := #[{ on := 0, ground := Go.Ground.data }, { on := 4, ground := Go.Ground.data }], guard := none }) rfl (fun Kn hK => ?_) AllReadyH.nil
            first | go_at_call 31 | (go_simp; go_at_call 31)
            (with_reducible refine Calls.mono (K5.out  _) ?_)
            rintro e V1 ⟨rfl, hb⟩
            try dsimp only
            try simp only [Act.put, List.setIfInBounds_toArray, List.set_cons_zero, List.set_cons_succ]
            replace bX := bX.on hb
            replace hc0 := kcG hc0 hb
            replace hc1 := kcG hc1 hb
            replace HW := Lib.hid (bel_end HW.out hb)
            clear hb
            refine hK.out _ _ (HSp.out _ bX hc0 hc1) (fun _ => ?_)
            clear hK Kn
            have hS := HSp.out _ bX hc0 hc1
            refine wpAnyH_take (i := 6) (oi := { dst := some 147, op := Go.Op.move (Go.Operand.tmp 153), type := 42, pos := "laws.go:326", after := #[{ on := 5, ground := Go.Ground.data }], guard := none }) (v := ?_) rfl (by kernel_rfl) (by kernel_rfl) (by kernel_rfl) (fun _ _ _ h => h) (Or.inl ⟨by rfl, ?_⟩) hS ?_
            rotate_left
            · (intro w hSw; have hSw := (HSd.out w).1 hSw; go_split_ands; go_simp) <;> with_reducible rfl
            clear hS
            try simp only [Act.put, List.setIfInBounds_toArray, List.set_cons_zero, List.set_cons_succ]
            have hS := HSp.out _ bX hc0 hc1
            refine wpAnyH_take (i := 7) (oi := { dst := some 154, op := Go.Op.extract (Go.Operand.tmp 147) 0, type := 2, pos := "laws.go:326", after := #[{ on := 6, ground := Go.Ground.data }], guard := none }) (v := ?_) rfl (by kernel_rfl) (by kernel_rfl) (by kernel_rfl) (fun _ _ _ h => h) (Or.inl ⟨by rfl, ?_⟩) hS ?_
            rotate_left
            · (intro w hSw; have hSw := (HSd.out w).1 hSw; go_split_ands; go_simp) <;> with_reducible rfl
            clear hS
            try simp only [Act.put, List.setIfInBounds_toArray, List.set_cons_zero, List.set_cons_succ]
            have hS := HSp.out _ bX hc0 hc1
            refine wpAnyH_take (i := 8) (oi := { dst := some 155, op := Go.Op.extract (Go.Operand.tmp 147) 1, type := 2, pos := "laws.go:326", after := #[{ on := 6, ground := Go.Ground.data }, { on := 9, ground := Go.Ground.gcOnly Go.Departure.lateStores }], guard := none }) (v := ?_) rfl (by kernel_rfl) (by kernel_rfl) (by kernel_rfl) (fun _ _ _ h => h) (Or.inl ⟨by rfl, ?_⟩) hS ?_
            rotate_left
            · (intro w hSw; have hSw := (HSd.out w).1 hSw; go_split_ands; go_simp) <;> with_reducible rfl
            clear hS
            try simp only [Act.put, List.setIfInBounds_toArray, List.set_cons_zero, List.set_cons_succ]
            have hS := HSp.out _ bX hc0 hc1
            refine wpAnyH_take (i := 9) (oi := { dst := some 23, op := Go.Op.assign (Go.Operand.tmp 154), type := 2, pos := "laws.go:326", after := #[{ on := 7, ground := Go.Ground.data }, { on := 5, ground := Go.Ground.chain }, { on := 0, ground := Go.Ground.phase }, { on := 1, ground := Go.Ground.phase }, { on := 2, ground := Go.Ground.phase }, { on := 3, ground := Go.Ground.phase }, { on := 4, ground := Go.Ground.phase }, { on := 5, ground := Go.Ground.phase }, { on := 6, ground := Go.Ground.phase }, { on := 7, ground := Go.Ground.phase }, { on := 8, ground := Go.Ground.textOnly Go.Departure.lateStores }], guard := none }) (v := ?_) rfl (by kernel_rfl) (by kernel_rfl) (by kernel_rfl) (fun _ _ _ h => h) (Or.inl ⟨by rfl, ?_⟩) hS ?_
            rotate_left
            · (intro w hSw; have hSw := (HSd.out w).1 hSw; go_split_ands; go_simp) <;> with_reducible rfl
            clear hS
            try simp only [Act.put, List.setIfInBounds_toArray, List.set_cons_zero, List.set_cons_succ]
            have hS := HSp.out _ bX hc0 hc1
            refine wpAnyH_take (i := 10) (oi := { dst := some 24, op := Go.Op.assign (Go.Operand.tmp 155), type := 2, pos := "laws.go:326", after := #[{ on := 8, ground := Go.Ground.data }, { on := 9, ground := Go.Ground.chain }, { on := 0, ground := Go.Ground.phase }, { on := 1, ground := Go.Ground.phase }, { on := 2, ground := Go.Ground.phase }, { on := 3, ground := Go.Ground.phase }, { on := 4, ground := Go.Ground.phase }, { on := 5, ground := Go.Ground.phase }, { on := 6, ground := Go.Ground.phase }, { on := 7, ground := Go.Ground.phase }, { on := 8, ground := Go.Ground.phase }, { on := 9, ground := Go.Ground.phase }], guard := none }) (v := ?_) rfl (by kernel_rfl) (by kernel_rfl) (by kernel_rfl) (fun _ _ _ h => h) (Or.inl ⟨by rfl, ?_⟩) hS ?_
            rotate_left
            · (intro w hSw; have hSw := (HSd.out w).1 hSw; go_split_ands; go_simp) <;> with_reducible rfl
            clear hS
            try simp only [Act.put, List.setIfInBounds_toArray, List.set_cons_zero, List.set_cons_succ]
            refine wpAnyH_done (by kernel_rfl) ?_ _
            go_wp2_with fail
            go_meet
            exact ⟨rfl, rfl, HW.out⟩
          case rest =>
            obtain ⟨rfl, rfl, hb⟩ := hcut
            replace bX := bX.on hb
            replace HCL := Lib.hid (HCL.out.on hb)
            replace HL := Lib.hid (HL.out.on hb)
            replace HMd := Lib.hid (HMd.out.on hb)
            replace HB := Lib.hid (bel_end HB.out hb)
            clear hb
            clear hc0 hc1 K5
            have bX_0 := bX.cell 0 rfl
            have bX_1 := bX.cell 1 rfl
            have bX_2 := bX.cell 2 rfl
            have bX_3 := bX.cell 3 rfl
            have bX_4 := bX.cell 4 rfl
            have bX_l := bX.lt
            go_wp2_with fail
            clear bX_0 bX_1 bX_2 bX_3 bX_4 bX_l
            have HX := Lib.hid bX
            clear bX
            have HCL0 := Lib.hid HCL.out
            have HMd0 := Lib.hid HMd.out
            go_loopw [25] (fun i wr => ∃ k : Nat, k ≤ R.length ∧ i = .int .i64 k ∧ Below wc.heap.size wc wr) (fun i _ => R.length - (intOf i).toNat)
            case atStart => exact ⟨0, by omega, rfl, Below.refl _ _⟩
            case round =>
              obtain ⟨k, hk, rfl, hbr⟩ := hrel
              have HBR := Lib.hid hbr
              clear hbr
              by_cases hlt : k < R.length
              case pos =>
                have hrm : R.getD k 0 ∈ R := by rw [List.getD_eq_getElem?_getD, List.getElem?_eq_getElem hlt]; exact List.getElem_mem hlt
                obtain ⟨j, hz, hj⟩ := F3.out _ hrm
                rw [hz] at hrm
                have hge := HLE.out j hrm
                rw [HGm.out] at hge
                obtain ⟨b3, o3, rfl, -, hr0⟩ := (HMd0.out.on HBR.out).ints.at_ hlt
                rw [hz] at hr0
                obtain ⟨b2, off2, p2, q2, rb, -, hpq, hd0, hd1⟩ := (HCL0.out.on HBR.out).at_ hj
                simp only [Option.some.injEq, Addr.mk.injEq, and_true] at rb
                obtain ⟨rb1, rb2⟩ := rb
                subst rb1 rb2
                have K6 := Lib.hid (KG.out j hj)
                rw [show pX ps j = p2 by unfold pX; rw [hpq], show pY ps j = q2 by unfold pY; rw [hpq]] at K6
                obtain ⟨G2, hG2⟩ : ∃ z, gK x y ps j = z := ⟨_, rfl⟩
                rw [hG2] at K6 hge
                have hgn : ¬ G2 < G := by omega
                have hjl : (j : Int) < (ps.length : Int) := by omega
                have hkl : (k : Int) < (R.length : Int) := by omega
                clear hpq hG2 hz hrm hge
                have bX := HX.out.on HBR.out
                have bX_0 := bX.cell 0 rfl
                have bX_1 := bX.cell 1 rfl
                have bX_2 := bX.cell 2 rfl
                have bX_3 := bX.cell 3 rfl
                have bX_4 := bX.cell 4 rfl
                have bX_l := bX.lt
                go_upto_region 25 with fail
                clear bX_0 bX_1 bX_2 bX_3 bX_4 bX_l
                go_cut [26, 27] from 162 to 173 (fun s26 s27 wx => s26 = .int .i64 G2 ∧ s27 = .int .i64 0 ∧ Below wr.heap.size wr wx)
                case first =>
                  have HW : Hid (Below wr.heap.size wr wr) := Lib.hid (Below.refl _ _)
                  obtain ⟨S, hSd⟩ : ∃ S : World → Prop, ∀ w', S w' ↔ (w'.cell? ⟨gX, 0, none⟩ = some (.int .i64 x) ∧ w'.cell? ⟨gX, 1, none⟩ = some (.int .i64 y) ∧ w'.cell? ⟨gX, 2, none⟩ = some (.int .i64 u) ∧ w'.cell? ⟨gX, 3, none⟩ = some (.int .i64 v) ∧ w'.cell? ⟨gX, 4, none⟩ = some (.int .i64 t) ∧ w'.cell? ⟨b3, o3 + k, none⟩ = some (.int .i64 (j : Int)) ∧ w'.cell? ⟨b, off + j * 2, none⟩ = some (.int .i64 p2) ∧ w'.cell? ⟨b, off + j * 2 + 1, none⟩ = some (.int .i64 q2)) := ⟨_, fun _ => Iff.rfl⟩
                  have HSp : Hid (∀ w' : World, Bk w' (gX) #[.int .i64 x, .int .i64 y, .int .i64 u, .int .i64 v, .int .i64 t] 25 → w'.cell? ⟨b3, o3 + k, none⟩ = some (.int .i64 (j : Int)) → w'.cell? ⟨b, off + j * 2, none⟩ = some (.int .i64 p2) → w'.cell? ⟨b, off + j * 2 + 1, none⟩ = some (.int .i64 q2) → S w') := Lib.hid (fun w' bX y0 y1 y2 => (hSd w').2 ⟨bX.cell 0 rfl, bX.cell 1 rfl, bX.cell 2 rfl, bX.cell 3 rfl, bX.cell 4 rfl, y0, y1, y2⟩)
                  have HSd := Lib.hid hSd
                  clear hSd
                  refine wp_region_held_drew (S := S) (by kernel_rfl) ?_ (fun hH => ?_)
                  · exact (HSp.out _ bX hr0 hd0 hd1 : S (World.drew wr))
                  clear hH
                  generalize hX : World.drew wr = V0
                  replace bX : Bk V0 (gX) #[.int .i64 x, .int .i64 y, .int .i64 u, .int .i64 v, .int .i64 t] 25 := by rw [← hX]; exact bX
                  have hb : Below wr.heap.size wr V0 := by rw [← hX]; exact (Below.refl _ _).drew
                  clear hX
                  replace hr0 := kcG hr0 hb
                  replace hd0 := kcG hd0 hb
                  replace hd1 := kcG hd1 hb
                  replace HW := Lib.hid (bel_end HW.out hb)
                  clear hb
                  have hS := HSp.out _ bX hr0 hd0 hd1
                  refine wpAnyH_take (i := 0) (oi := { dst := some 163, op := Go.Op.load 25 (Go.Operand.tmp 3), type := 25, pos := "laws.go:328", after := #[], guard := none }) (v := ?_) rfl (by kernel_rfl) (by kernel_rfl) (by kernel_rfl) (fun _ _ _ h => h) (Or.inl ⟨by rfl, ?_⟩) hS ?_
                  rotate_left
                  · (intro w hSw; have hSw := (HSd.out w).1 hSw; go_split_ands; go_simp) <;> with_reducible rfl
                  clear hS
                  try simp only [Act.put, List.setIfInBounds_toArray, List.set_cons_zero, List.set_cons_succ]
                  have hS := HSp.out _ bX hr0 hd0 hd1
                  refine wpAnyH_take (i := 1) (oi := { dst := some 164, op := Go.Op.move (Go.Operand.tmp 4), type := 29, pos := "laws.go:328", after := #[], guard := none }) (v := ?_) rfl (by kernel_rfl) (by kernel_rfl) (by kernel_rfl) (fun _ _ _ h => h) (Or.inl ⟨by rfl, ?_⟩) hS ?_
                  rotate_left
                  · (intro w hSw; have hSw := (HSd.out w).1 hSw; go_split_ands; go_simp) <;> with_reducible rfl
                  clear hS
                  try simp only [Act.put, List.setIfInBounds_toArray, List.set_cons_zero, List.set_cons_succ]
                  have hS := HSp.out _ bX hr0 hd0 hd1
                  refine wpAnyH_take (i := 2) (oi := { dst := some 165, op := Go.Op.move (Go.Operand.tmp 7), type := 39, pos := "laws.go:328", after := #[], guard := none }) (v := ?_) rfl (by kernel_rfl) (by kernel_rfl) (by kernel_rfl) (fun _ _ _ h => h) (Or.inl ⟨by rfl, ?_⟩) hS ?_
                  rotate_left
                  · (intro w hSw; have hSw := (HSd.out w).1 hSw; go_split_ands; go_simp) <;> with_reducible rfl
                  clear hS
                  try simp only [Act.put, List.setIfInBounds_toArray, List.set_cons_zero, List.set_cons_succ]
                  have hS := HSp.out _ bX hr0 hd0 hd1
                  refine wpAnyH_take (i := 3) (oi := { dst := some 166, op := Go.Op.move (Go.Operand.tmp 25), type := 3, pos := "laws.go:328", after := #[], guard := none }) (v := ?_) rfl (by kernel_rfl) (by kernel_rfl) (by kernel_rfl) (fun _ _ _ h => h) (Or.inl ⟨by rfl, ?_⟩) hS ?_
                  rotate_left
                  · (intro w hSw; have hSw := (HSd.out w).1 hSw; go_split_ands; go_simp) <;> with_reducible rfl
                  clear hS
                  try simp only [Act.put, List.setIfInBounds_toArray, List.set_cons_zero, List.set_cons_succ]
                  have hS := HSp.out _ bX hr0 hd0 hd1
                  refine wpAnyH_take (i := 4) (oi := { dst := some 167, op := Go.Op.indexAddr 39 (Go.Operand.tmp 165) (Go.Operand.tmp 166), type := 0, pos := "laws.go:328", after := #[{ on := 2, ground := Go.Ground.data }, { on := 3, ground := Go.Ground.data }], guard := none }) (v := ?_) rfl (by kernel_rfl) (by kernel_rfl) (by kernel_rfl) (fun _ _ _ h => h) (Or.inl ⟨by rfl, ?_⟩) hS ?_
                  rotate_left
                  · (intro w hSw; have hSw := (HSd.out w).1 hSw; go_split_ands; go_simp) <;> with_reducible rfl
                  clear hS
                  try simp only [Act.put, List.setIfInBounds_toArray, List.set_cons_zero, List.set_cons_succ]
                  have hS := HSp.out _ bX hr0 hd0 hd1
                  refine wpAnyH_take (i := 5) (oi := { dst := some 168, op := Go.Op.load 2 (Go.Operand.tmp 167), type := 2, pos := "laws.go:328", after := #[{ on := 4, ground := Go.Ground.data }], guard := none }) (v := ?_) rfl (by kernel_rfl) (by kernel_rfl) (by kernel_rfl) (fun _ _ _ h => h) (Or.inl ⟨by rfl, ?_⟩) hS ?_
                  rotate_left
                  · (intro w hSw; have hSw := (HSd.out w).1 hSw; go_split_ands; go_simp) <;> with_reducible rfl
                  clear hS
                  try simp only [Act.put, List.setIfInBounds_toArray, List.set_cons_zero, List.set_cons_succ]
                  have hS := HSp.out _ bX hr0 hd0 hd1
                  refine wpAnyH_take (i := 6) (oi := { dst := some 169, op := Go.Op.indexAddr 29 (Go.Operand.tmp 164) (Go.Operand.tmp 168), type := 0, pos := "laws.go:328", after := #[{ on := 1, ground := Go.Ground.data }, { on := 5, ground := Go.Ground.data }], guard := none }) (v := ?_) rfl (by kernel_rfl) (by kernel_rfl) (by kernel_rfl) (fun _ _ _ h => h) (Or.inl ⟨by rfl, ?_⟩) hS ?_
                  rotate_left
                  · (intro w hSw; have hSw := (HSd.out w).1 hSw; go_split_ands; go_simp) <;> with_reducible rfl
                  clear hS
                  try simp only [Act.put, List.setIfInBounds_toArray, List.set_cons_zero, List.set_cons_succ]
                  have hS := HSp.out _ bX hr0 hd0 hd1
                  refine wpAnyH_take (i := 7) (oi := { dst := some 170, op := Go.Op.load 45 (Go.Operand.tmp 169), type := 45, pos := "laws.go:328", after := #[{ on := 6, ground := Go.Ground.data }], guard := none }) (v := ?_) rfl (by kernel_rfl) (by kernel_rfl) (by kernel_rfl) (fun _ _ _ h => h) (Or.inl ⟨by rfl, ?_⟩) hS ?_
                  rotate_left
                  · (intro w hSw; have hSw := (HSd.out w).1 hSw; go_split_ands; go_simp) <;> with_reducible rfl
                  clear hS
                  try simp only [Act.put, List.setIfInBounds_toArray, List.set_cons_zero, List.set_cons_succ]
                  refine wpAnyH_ready (rs := [8]) (by decide +kernel) (by simp) ?_
                  refine AllReadyH.cons (o := { dst := some 171, op := Go.Op.call { callee := Go.Callee.value (Go.Operand.func 31), args := #[Go.Operand.tmp 163, Go.Operand.tmp 170], argTypes := #[25, 45] }, type := 42, pos := "laws.go:328", after := #[{ on := 0, ground := Go.Ground.data }, { on := 7, ground := Go.Ground.data }], guard := none }) rfl (fun Kn hK => ?_) AllReadyH.nil
                  first | go_at_call 31 | (go_simp; go_at_call 31)
                  (with_reducible refine Calls.mono (K6.out  _) ?_)
                  rintro e V1 ⟨rfl, hb⟩
                  try dsimp only
                  try simp only [Act.put, List.setIfInBounds_toArray, List.set_cons_zero, List.set_cons_succ]
                  replace bX := bX.on hb
                  replace hr0 := kcG hr0 hb
                  replace hd0 := kcG hd0 hb
                  replace hd1 := kcG hd1 hb
                  replace HW := Lib.hid (bel_end HW.out hb)
                  clear hb
                  refine hK.out _ _ (HSp.out _ bX hr0 hd0 hd1) (fun _ => ?_)
                  clear hK Kn
                  have hS := HSp.out _ bX hr0 hd0 hd1
                  refine wpAnyH_take (i := 9) (oi := { dst := some 162, op := Go.Op.move (Go.Operand.tmp 171), type := 42, pos := "laws.go:328", after := #[{ on := 8, ground := Go.Ground.data }], guard := none }) (v := ?_) rfl (by kernel_rfl) (by kernel_rfl) (by kernel_rfl) (fun _ _ _ h => h) (Or.inl ⟨by rfl, ?_⟩) hS ?_
                  rotate_left
                  · (intro w hSw; have hSw := (HSd.out w).1 hSw; go_split_ands; go_simp) <;> with_reducible rfl
                  clear hS
                  try simp only [Act.put, List.setIfInBounds_toArray, List.set_cons_zero, List.set_cons_succ]
                  have hS := HSp.out _ bX hr0 hd0 hd1
                  refine wpAnyH_take (i := 10) (oi := { dst := some 172, op := Go.Op.extract (Go.Operand.tmp 162) 0, type := 2, pos := "laws.go:328", after := #[{ on := 9, ground := Go.Ground.data }], guard := none }) (v := ?_) rfl (by kernel_rfl) (by kernel_rfl) (by kernel_rfl) (fun _ _ _ h => h) (Or.inl ⟨by rfl, ?_⟩) hS ?_
                  rotate_left
                  · (intro w hSw; have hSw := (HSd.out w).1 hSw; go_split_ands; go_simp) <;> with_reducible rfl
                  clear hS
                  try simp only [Act.put, List.setIfInBounds_toArray, List.set_cons_zero, List.set_cons_succ]
                  have hS := HSp.out _ bX hr0 hd0 hd1
                  refine wpAnyH_take (i := 11) (oi := { dst := some 173, op := Go.Op.extract (Go.Operand.tmp 162) 1, type := 2, pos := "laws.go:328", after := #[{ on := 9, ground := Go.Ground.data }, { on := 12, ground := Go.Ground.gcOnly Go.Departure.lateStores }], guard := none }) (v := ?_) rfl (by kernel_rfl) (by kernel_rfl) (by kernel_rfl) (fun _ _ _ h => h) (Or.inl ⟨by rfl, ?_⟩) hS ?_
                  rotate_left
                  · (intro w hSw; have hSw := (HSd.out w).1 hSw; go_split_ands; go_simp) <;> with_reducible rfl
                  clear hS
                  try simp only [Act.put, List.setIfInBounds_toArray, List.set_cons_zero, List.set_cons_succ]
                  have hS := HSp.out _ bX hr0 hd0 hd1
                  refine wpAnyH_take (i := 12) (oi := { dst := some 26, op := Go.Op.assign (Go.Operand.tmp 172), type := 2, pos := "laws.go:328", after := #[{ on := 10, ground := Go.Ground.data }, { on := 8, ground := Go.Ground.chain }, { on := 0, ground := Go.Ground.phase }, { on := 1, ground := Go.Ground.phase }, { on := 2, ground := Go.Ground.phase }, { on := 3, ground := Go.Ground.phase }, { on := 4, ground := Go.Ground.phase }, { on := 5, ground := Go.Ground.phase }, { on := 6, ground := Go.Ground.phase }, { on := 7, ground := Go.Ground.phase }, { on := 8, ground := Go.Ground.phase }, { on := 9, ground := Go.Ground.phase }, { on := 10, ground := Go.Ground.phase }, { on := 11, ground := Go.Ground.textOnly Go.Departure.lateStores }], guard := none }) (v := ?_) rfl (by kernel_rfl) (by kernel_rfl) (by kernel_rfl) (fun _ _ _ h => h) (Or.inl ⟨by rfl, ?_⟩) hS ?_
                  rotate_left
                  · (intro w hSw; have hSw := (HSd.out w).1 hSw; go_split_ands; go_simp) <;> with_reducible rfl
                  clear hS
                  try simp only [Act.put, List.setIfInBounds_toArray, List.set_cons_zero, List.set_cons_succ]
                  have hS := HSp.out _ bX hr0 hd0 hd1
                  refine wpAnyH_take (i := 13) (oi := { dst := some 27, op := Go.Op.assign (Go.Operand.tmp 173), type := 2, pos := "laws.go:328", after := #[{ on := 11, ground := Go.Ground.data }, { on := 12, ground := Go.Ground.chain }, { on := 0, ground := Go.Ground.phase }, { on := 1, ground := Go.Ground.phase }, { on := 2, ground := Go.Ground.phase }, { on := 3, ground := Go.Ground.phase }, { on := 4, ground := Go.Ground.phase }, { on := 5, ground := Go.Ground.phase }, { on := 6, ground := Go.Ground.phase }, { on := 7, ground := Go.Ground.phase }, { on := 8, ground := Go.Ground.phase }, { on := 9, ground := Go.Ground.phase }, { on := 10, ground := Go.Ground.phase }, { on := 11, ground := Go.Ground.phase }, { on := 12, ground := Go.Ground.phase }], guard := none }) (v := ?_) rfl (by kernel_rfl) (by kernel_rfl) (by kernel_rfl) (fun _ _ _ h => h) (Or.inl ⟨by rfl, ?_⟩) hS ?_
                  rotate_left
                  · (intro w hSw; have hSw := (HSd.out w).1 hSw; go_split_ands; go_simp) <;> with_reducible rfl
                  clear hS
                  try simp only [Act.put, List.setIfInBounds_toArray, List.set_cons_zero, List.set_cons_succ]
                  refine wpAnyH_done (by kernel_rfl) ?_ _
                  go_wp2_with fail
                  go_meet
                  exact ⟨rfl, rfl, HW.out⟩
                case rest =>
                  obtain ⟨rfl, rfl, hb⟩ := hcut
                  replace bX := bX.on hb
                  replace HBR := Lib.hid (bel_end HBR.out hb)
                  clear hb
                  clear bX hr0 hd0 hd1 K6
                  go_wp2_with fail
                  go_roundw
                  case rel => exact ⟨k + 1, by omega, by go_num, HBR.out⟩
                  case measure => simp [intOf]; omega
              case neg =>
                have KH := Lib.hid (hsi_any wr wr.heap.size la lc R (m : Int) (by omega) (HL.out.on HBR.out).ints)
                rw [decide_eq_true HMEM.out] at KH
                go_wp2_with fail
                (with_reducible refine Calls.mono KH.out ?_)
                rintro e v3 ⟨rfl, rfl⟩
                go_wp2
                go_ret
                exact ⟨rfl, bel_end HB.out HBR.out⟩
    case neg =>
      have hH2 : (H == 0) = false := by simpa using hH
      clear hH I0
      have bX_0 := bX.cell 0 rfl
      have bX_1 := bX.cell 1 rfl
      have bX_2 := bX.cell 2 rfl
      have bX_3 := bX.cell 3 rfl
      have bX_4 := bX.cell 4 rfl
      have bX_l := bX.lt
      have bY_0 := bY.cell 0 rfl
      have bY_1 := bY.cell 1 rfl
      have bY_2 := bY.cell 2 rfl
      have bY_3 := bY.cell 3 rfl
      have bY_4 := bY.cell 4 rfl
      have bY_l := bY.lt
      go_upto_region 17 with fail
      clear bX_0 bX_1 bX_2 bX_3 bX_4 bX_l bY_0 bY_1 bY_2 bY_3 bY_4 bY_l
      clear bY
      by_cases h0 : C = 0
      case neg =>
        have h1 : (C != 0) = true := by simpa using h0
        clear h0
        have bX_0 := bX.cell 0 rfl
        have bX_1 := bX.cell 1 rfl
        have bX_2 := bX.cell 2 rfl
        have bX_3 := bX.cell 3 rfl
        have bX_4 := bX.cell 4 rfl
        have bX_l := bX.lt
        go_wp2
        go_ret
        exact ⟨rfl, HB.out⟩
      case pos =>
        obtain ⟨hm, ha, h6⟩ := F2.out h0
        obtain ⟨hxy, -, -, s0, s1⟩ := mtB_t hm
        have HC0 := Lib.hid h0
        subst h0
        by_cases h0 : E = 0
        case neg =>
          have h1 : (E != 0) = true := by simpa using h0
          have h2 := F1.out h0 HC0.out
          subst h2
          clear h0
          have bX_0 := bX.cell 0 rfl
          have bX_1 := bX.cell 1 rfl
          have bX_2 := bX.cell 2 rfl
          have bX_3 := bX.cell 3 rfl
          have bX_4 := bX.cell 4 rfl
          have bX_l := bX.lt
          go_wp2
          go_ret
          exact ⟨rfl, HB.out⟩
        case pos =>
          obtain ⟨-, m, hmp, rfl, hmem, hle⟩ := F0.out h0
          subst h0
          have HLE := Lib.hid hle
          have HMEM := Lib.hid hmem
          clear F0 F1 F2 hle hmem
          have KG : Hid (∀ (j : Nat), j < ps.length → ∀ W : World, Calls Try.prog 31 #[.agg #[.int .i64 x, .int .i64 y, .int .i64 u, .int .i64 v, .int .i64 t], .agg #[.int .i64 (pX ps j), .int .i64 (pY ps j)]] W fun e w' => e = .returned (.tuple #[.int .i64 (gK x y ps j), .int .i64 0]) ∧ Below W.heap.size W w') := Lib.hid (fun j hj W => by
            have := igc_any W x y u v t (pX ps j) (pY ps j)
            rwa [show gcT x y u v t (pX ps j) (pY ps j) = (gK x y ps j, 0) by unfold gcT; rw [hm, show ctB (pX ps j) (pY ps j) = true from allC_at ha hj]; rfl] at this)
          clear hm ha hxy s0 s1 h6
          have bX_0 := bX.cell 0 rfl
          have bX_1 := bX.cell 1 rfl
          have bX_2 := bX.cell 2 rfl
          have bX_3 := bX.cell 3 rfl
          have bX_4 := bX.cell 4 rfl
          have bX_l := bX.lt
          go_upto_region 21 with fail
          clear bX_0 bX_1 bX_2 bX_3 bX_4 bX_l
          obtain ⟨b, off, p1, q1, rfl, hBk, hpq, hc0, hc1⟩ := HCL.out.at_ hmp
          have K5 := Lib.hid (KG.out m hmp)
          rw [show pX ps m = p1 by unfold pX; rw [hpq], show pY ps m = q1 by unfold pY; rw [hpq]] at K5
          obtain ⟨G, hG⟩ : ∃ z, gK x y ps m = z := ⟨_, rfl⟩
          rw [hG] at K5
          have HGm := Lib.hid hG
          have hml : (m : Int) < (ps.length : Int) := by omega
          clear hpq hG hBk
          have bX_0 := bX.cell 0 rfl
          have bX_1 := bX.cell 1 rfl
          have bX_2 := bX.cell 2 rfl
          have bX_3 := bX.cell 3 rfl
          have bX_4 := bX.cell 4 rfl
          have bX_l := bX.lt
          go_upto_region 21 with fail
          clear bX_0 bX_1 bX_2 bX_3 bX_4 bX_l
          go_cut [23, 24] from 147 to 155 (fun s23 s24 wx => s23 = .int .i64 G ∧ s24 = .int .i64 0 ∧ Below w11.heap.size w11 wx)
          case first =>
            have HW : Hid (Below w11.heap.size w11 w11) := Lib.hid (Below.refl _ _)
            obtain ⟨S, hSd⟩ : ∃ S : World → Prop, ∀ w', S w' ↔ (w'.cell? ⟨gX, 0, none⟩ = some (.int .i64 x) ∧ w'.cell? ⟨gX, 1, none⟩ = some (.int .i64 y) ∧ w'.cell? ⟨gX, 2, none⟩ = some (.int .i64 u) ∧ w'.cell? ⟨gX, 3, none⟩ = some (.int .i64 v) ∧ w'.cell? ⟨gX, 4, none⟩ = some (.int .i64 t) ∧ w'.cell? ⟨b, off + m * 2, none⟩ = some (.int .i64 p1) ∧ w'.cell? ⟨b, off + m * 2 + 1, none⟩ = some (.int .i64 q1)) := ⟨_, fun _ => Iff.rfl⟩
            have HSp : Hid (∀ w' : World, Bk w' (gX) #[.int .i64 x, .int .i64 y, .int .i64 u, .int .i64 v, .int .i64 t] 25 → w'.cell? ⟨b, off + m * 2, none⟩ = some (.int .i64 p1) → w'.cell? ⟨b, off + m * 2 + 1, none⟩ = some (.int .i64 q1) → S w') := Lib.hid (fun w' bX y0 y1 => (hSd w').2 ⟨bX.cell 0 rfl, bX.cell 1 rfl, bX.cell 2 rfl, bX.cell 3 rfl, bX.cell 4 rfl, y0, y1⟩)
            have HSd := Lib.hid hSd
            clear hSd
            refine wp_region_held_drew (S := S) (by kernel_rfl) ?_ (fun hH => ?_)
            · exact (HSp.out _ bX hc0 hc1 : S (World.drew w11))
            clear hH
            generalize hX : World.drew w11 = V0
            replace bX : Bk V0 (gX) #[.int .i64 x, .int .i64 y, .int .i64 u, .int .i64 v, .int .i64 t] 25 := by rw [← hX]; exact bX
            have hb : Below w11.heap.size w11 V0 := by rw [← hX]; exact (Below.refl _ _).drew
            clear hX
            replace hc0 := kcG hc0 hb
            replace hc1 := kcG hc1 hb
            replace HW := Lib.hid (bel_end HW.out hb)
            clear hb
            have hS := HSp.out _ bX hc0 hc1
            refine wpAnyH_take (i := 0) (oi := { dst := some 148, op := Go.Op.load 25 (Go.Operand.tmp 3), type := 25, pos := "laws.go:326", after := #[], guard := none }) (v := ?_) rfl (by kernel_rfl) (by kernel_rfl) (by kernel_rfl) (fun _ _ _ h => h) (Or.inl ⟨by rfl, ?_⟩) hS ?_
            rotate_left
            · (intro w hSw; have hSw := (HSd.out w).1 hSw; go_split_ands; go_simp) <;> with_reducible rfl
            clear hS
            try simp only [Act.put, List.setIfInBounds_toArray, List.set_cons_zero, List.set_cons_succ]
            have hS := HSp.out _ bX hc0 hc1
            refine wpAnyH_take (i := 1) (oi := { dst := some 149, op := Go.Op.move (Go.Operand.tmp 4), type := 29, pos := "laws.go:326", after := #[], guard := none }) (v := ?_) rfl (by kernel_rfl) (by kernel_rfl) (by kernel_rfl) (fun _ _ _ h => h) (Or.inl ⟨by rfl, ?_⟩) hS ?_
            rotate_left
            · (intro w hSw; have hSw := (HSd.out w).1 hSw; go_split_ands; go_simp) <;> with_reducible rfl
            clear hS
            try simp only [Act.put, List.setIfInBounds_toArray, List.set_cons_zero, List.set_cons_succ]
            have hS := HSp.out _ bX hc0 hc1
            refine wpAnyH_take (i := 2) (oi := { dst := some 150, op := Go.Op.move (Go.Operand.tmp 11), type := 2, pos := "laws.go:326", after := #[], guard := none }) (v := ?_) rfl (by kernel_rfl) (by kernel_rfl) (by kernel_rfl) (fun _ _ _ h => h) (Or.inl ⟨by rfl, ?_⟩) hS ?_
            rotate_left
            · (intro w hSw; have hSw := (HSd.out w).1 hSw; go_split_ands; go_simp) <;> with_reducible rfl
            clear hS
            try simp only [Act.put, List.setIfInBounds_toArray, List.set_cons_zero, List.set_cons_succ]
            have hS := HSp.out _ bX hc0 hc1
            refine wpAnyH_take (i := 3) (oi := { dst := some 151, op := Go.Op.indexAddr 29 (Go.Operand.tmp 149) (Go.Operand.tmp 150), type := 0, pos := "laws.go:326", after := #[{ on := 1, ground := Go.Ground.data }, { on := 2, ground := Go.Ground.data }], guard := none }) (v := ?_) rfl (by kernel_rfl) (by kernel_rfl) (by kernel_rfl) (fun _ _ _ h => h) (Or.inl ⟨by rfl, ?_⟩) hS ?_
            rotate_left
            · (intro w hSw; have hSw := (HSd.out w).1 hSw; go_split_ands; go_simp) <;> with_reducible rfl
            clear hS
            try simp only [Act.put, List.setIfInBounds_toArray, List.set_cons_zero, List.set_cons_succ]
            have hS := HSp.out _ bX hc0 hc1
            refine wpAnyH_take (i := 4) (oi := { dst := some 152, op := Go.Op.load 45 (Go.Operand.tmp 151), type := 45, pos := "laws.go:326", after := #[{ on := 3, ground := Go.Ground.data }], guard := none }) (v := ?_) rfl (by kernel_rfl) (by kernel_rfl) (by kernel_rfl) (fun _ _ _ h => h) (Or.inl ⟨by rfl, ?_⟩) hS ?_
            rotate_left
            · (intro w hSw; have hSw := (HSd.out w).1 hSw; go_split_ands; go_simp) <;> with_reducible rfl
            clear hS
            try simp only [Act.put, List.setIfInBounds_toArray, List.set_cons_zero, List.set_cons_succ]
            refine wpAnyH_ready (rs := [5]) (by decide +kernel) (by simp) ?_
            refine AllReadyH.cons (o := { dst := some 153, op := Go.Op.call { callee := Go.Callee.value (Go.Operand.func 31), args := #[Go.Operand.tmp 148, Go.Operand.tmp 152], argTypes := #[25, 45] }, type := 42, pos := "laws.go:326", after := #[{ on := 0, ground := Go.Ground.data }, { on := 4, ground := Go.Ground.data }], guard := none }) rfl (fun Kn hK => ?_) AllReadyH.nil
            first | go_at_call 31 | (go_simp; go_at_call 31)
            (with_reducible refine Calls.mono (K5.out  _) ?_)
            rintro e V1 ⟨rfl, hb⟩
            try dsimp only
            try simp only [Act.put, List.setIfInBounds_toArray, List.set_cons_zero, List.set_cons_succ]
            replace bX := bX.on hb
            replace hc0 := kcG hc0 hb
            replace hc1 := kcG hc1 hb
            replace HW := Lib.hid (bel_end HW.out hb)
            clear hb
            refine hK.out _ _ (HSp.out _ bX hc0 hc1) (fun _ => ?_)
            clear hK Kn
            have hS := HSp.out _ bX hc0 hc1
            refine wpAnyH_take (i := 6) (oi := { dst := some 147, op := Go.Op.move (Go.Operand.tmp 153), type := 42, pos := "laws.go:326", after := #[{ on := 5, ground := Go.Ground.data }], guard := none }) (v := ?_) rfl (by kernel_rfl) (by kernel_rfl) (by kernel_rfl) (fun _ _ _ h => h) (Or.inl ⟨by rfl, ?_⟩) hS ?_
            rotate_left
            · (intro w hSw; have hSw := (HSd.out w).1 hSw; go_split_ands; go_simp) <;> with_reducible rfl
            clear hS
            try simp only [Act.put, List.setIfInBounds_toArray, List.set_cons_zero, List.set_cons_succ]
            have hS := HSp.out _ bX hc0 hc1
            refine wpAnyH_take (i := 7) (oi := { dst := some 154, op := Go.Op.extract (Go.Operand.tmp 147) 0, type := 2, pos := "laws.go:326", after := #[{ on := 6, ground := Go.Ground.data }], guard := none }) (v := ?_) rfl (by kernel_rfl) (by kernel_rfl) (by kernel_rfl) (fun _ _ _ h => h) (Or.inl ⟨by rfl, ?_⟩) hS ?_
            rotate_left
            · (intro w hSw; have hSw := (HSd.out w).1 hSw; go_split_ands; go_simp) <;> with_reducible rfl
            clear hS
            try simp only [Act.put, List.setIfInBounds_toArray, List.set_cons_zero, List.set_cons_succ]
            have hS := HSp.out _ bX hc0 hc1
            refine wpAnyH_take (i := 8) (oi := { dst := some 155, op := Go.Op.extract (Go.Operand.tmp 147) 1, type := 2, pos := "laws.go:326", after := #[{ on := 6, ground := Go.Ground.data }, { on := 9, ground := Go.Ground.gcOnly Go.Departure.lateStores }], guard := none }) (v := ?_) rfl (by kernel_rfl) (by kernel_rfl) (by kernel_rfl) (fun _ _ _ h => h) (Or.inl ⟨by rfl, ?_⟩) hS ?_
            rotate_left
            · (intro w hSw; have hSw := (HSd.out w).1 hSw; go_split_ands; go_simp) <;> with_reducible rfl
            clear hS
            try simp only [Act.put, List.setIfInBounds_toArray, List.set_cons_zero, List.set_cons_succ]
            have hS := HSp.out _ bX hc0 hc1
            refine wpAnyH_take (i := 9) (oi := { dst := some 23, op := Go.Op.assign (Go.Operand.tmp 154), type := 2, pos := "laws.go:326", after := #[{ on := 7, ground := Go.Ground.data }, { on := 5, ground := Go.Ground.chain }, { on := 0, ground := Go.Ground.phase }, { on := 1, ground := Go.Ground.phase }, { on := 2, ground := Go.Ground.phase }, { on := 3, ground := Go.Ground.phase }, { on := 4, ground := Go.Ground.phase }, { on := 5, ground := Go.Ground.phase }, { on := 6, ground := Go.Ground.phase }, { on := 7, ground := Go.Ground.phase }, { on := 8, ground := Go.Ground.textOnly Go.Departure.lateStores }], guard := none }) (v := ?_) rfl (by kernel_rfl) (by kernel_rfl) (by kernel_rfl) (fun _ _ _ h => h) (Or.inl ⟨by rfl, ?_⟩) hS ?_
            rotate_left
            · (intro w hSw; have hSw := (HSd.out w).1 hSw; go_split_ands; go_simp) <;> with_reducible rfl
            clear hS
            try simp only [Act.put, List.setIfInBounds_toArray, List.set_cons_zero, List.set_cons_succ]
            have hS := HSp.out _ bX hc0 hc1
            refine wpAnyH_take (i := 10) (oi := { dst := some 24, op := Go.Op.assign (Go.Operand.tmp 155), type := 2, pos := "laws.go:326", after := #[{ on := 8, ground := Go.Ground.data }, { on := 9, ground := Go.Ground.chain }, { on := 0, ground := Go.Ground.phase }, { on := 1, ground := Go.Ground.phase }, { on := 2, ground := Go.Ground.phase }, { on := 3, ground := Go.Ground.phase }, { on := 4, ground := Go.Ground.phase }, { on := 5, ground := Go.Ground.phase }, { on := 6, ground := Go.Ground.phase }, { on := 7, ground := Go.Ground.phase }, { on := 8, ground := Go.Ground.phase }, { on := 9, ground := Go.Ground.phase }], guard := none }) (v := ?_) rfl (by kernel_rfl) (by kernel_rfl) (by kernel_rfl) (fun _ _ _ h => h) (Or.inl ⟨by rfl, ?_⟩) hS ?_
            rotate_left
            · (intro w hSw; have hSw := (HSd.out w).1 hSw; go_split_ands; go_simp) <;> with_reducible rfl
            clear hS
            try simp only [Act.put, List.setIfInBounds_toArray, List.set_cons_zero, List.set_cons_succ]
            refine wpAnyH_done (by kernel_rfl) ?_ _
            go_wp2_with fail
            go_meet
            exact ⟨rfl, rfl, HW.out⟩
          case rest =>
            obtain ⟨rfl, rfl, hb⟩ := hcut
            replace bX := bX.on hb
            replace HCL := Lib.hid (HCL.out.on hb)
            replace HL := Lib.hid (HL.out.on hb)
            replace HMd := Lib.hid (HMd.out.on hb)
            replace HB := Lib.hid (bel_end HB.out hb)
            clear hb
            clear hc0 hc1 K5
            have bX_0 := bX.cell 0 rfl
            have bX_1 := bX.cell 1 rfl
            have bX_2 := bX.cell 2 rfl
            have bX_3 := bX.cell 3 rfl
            have bX_4 := bX.cell 4 rfl
            have bX_l := bX.lt
            go_wp2_with fail
            clear bX_0 bX_1 bX_2 bX_3 bX_4 bX_l
            have HX := Lib.hid bX
            clear bX
            have HCL0 := Lib.hid HCL.out
            have HMd0 := Lib.hid HMd.out
            go_loopw [25] (fun i wr => ∃ k : Nat, k ≤ R.length ∧ i = .int .i64 k ∧ Below wc.heap.size wc wr) (fun i _ => R.length - (intOf i).toNat)
            case atStart => exact ⟨0, by omega, rfl, Below.refl _ _⟩
            case round =>
              obtain ⟨k, hk, rfl, hbr⟩ := hrel
              have HBR := Lib.hid hbr
              clear hbr
              by_cases hlt : k < R.length
              case pos =>
                have hrm : R.getD k 0 ∈ R := by rw [List.getD_eq_getElem?_getD, List.getElem?_eq_getElem hlt]; exact List.getElem_mem hlt
                obtain ⟨j, hz, hj⟩ := F3.out _ hrm
                rw [hz] at hrm
                have hge := HLE.out j hrm
                rw [HGm.out] at hge
                obtain ⟨b3, o3, rfl, -, hr0⟩ := (HMd0.out.on HBR.out).ints.at_ hlt
                rw [hz] at hr0
                obtain ⟨b2, off2, p2, q2, rb, -, hpq, hd0, hd1⟩ := (HCL0.out.on HBR.out).at_ hj
                simp only [Option.some.injEq, Addr.mk.injEq, and_true] at rb
                obtain ⟨rb1, rb2⟩ := rb
                subst rb1 rb2
                have K6 := Lib.hid (KG.out j hj)
                rw [show pX ps j = p2 by unfold pX; rw [hpq], show pY ps j = q2 by unfold pY; rw [hpq]] at K6
                obtain ⟨G2, hG2⟩ : ∃ z, gK x y ps j = z := ⟨_, rfl⟩
                rw [hG2] at K6 hge
                have hgn : ¬ G2 < G := by omega
                have hjl : (j : Int) < (ps.length : Int) := by omega
                have hkl : (k : Int) < (R.length : Int) := by omega
                clear hpq hG2 hz hrm hge
                have bX := HX.out.on HBR.out
                have bX_0 := bX.cell 0 rfl
                have bX_1 := bX.cell 1 rfl
                have bX_2 := bX.cell 2 rfl
                have bX_3 := bX.cell 3 rfl
                have bX_4 := bX.cell 4 rfl
                have bX_l := bX.lt
                go_upto_region 25 with fail
                clear bX_0 bX_1 bX_2 bX_3 bX_4 bX_l
                go_cut [26, 27] from 162 to 173 (fun s26 s27 wx => s26 = .int .i64 G2 ∧ s27 = .int .i64 0 ∧ Below wr.heap.size wr wx)
                case first =>
                  have HW : Hid (Below wr.heap.size wr wr) := Lib.hid (Below.refl _ _)
                  obtain ⟨S, hSd⟩ : ∃ S : World → Prop, ∀ w', S w' ↔ (w'.cell? ⟨gX, 0, none⟩ = some (.int .i64 x) ∧ w'.cell? ⟨gX, 1, none⟩ = some (.int .i64 y) ∧ w'.cell? ⟨gX, 2, none⟩ = some (.int .i64 u) ∧ w'.cell? ⟨gX, 3, none⟩ = some (.int .i64 v) ∧ w'.cell? ⟨gX, 4, none⟩ = some (.int .i64 t) ∧ w'.cell? ⟨b3, o3 + k, none⟩ = some (.int .i64 (j : Int)) ∧ w'.cell? ⟨b, off + j * 2, none⟩ = some (.int .i64 p2) ∧ w'.cell? ⟨b, off + j * 2 + 1, none⟩ = some (.int .i64 q2)) := ⟨_, fun _ => Iff.rfl⟩
                  have HSp : Hid (∀ w' : World, Bk w' (gX) #[.int .i64 x, .int .i64 y, .int .i64 u, .int .i64 v, .int .i64 t] 25 → w'.cell? ⟨b3, o3 + k, none⟩ = some (.int .i64 (j : Int)) → w'.cell? ⟨b, off + j * 2, none⟩ = some (.int .i64 p2) → w'.cell? ⟨b, off + j * 2 + 1, none⟩ = some (.int .i64 q2) → S w') := Lib.hid (fun w' bX y0 y1 y2 => (hSd w').2 ⟨bX.cell 0 rfl, bX.cell 1 rfl, bX.cell 2 rfl, bX.cell 3 rfl, bX.cell 4 rfl, y0, y1, y2⟩)
                  have HSd := Lib.hid hSd
                  clear hSd
                  refine wp_region_held_drew (S := S) (by kernel_rfl) ?_ (fun hH => ?_)
                  · exact (HSp.out _ bX hr0 hd0 hd1 : S (World.drew wr))
                  clear hH
                  generalize hX : World.drew wr = V0
                  replace bX : Bk V0 (gX) #[.int .i64 x, .int .i64 y, .int .i64 u, .int .i64 v, .int .i64 t] 25 := by rw [← hX]; exact bX
                  have hb : Below wr.heap.size wr V0 := by rw [← hX]; exact (Below.refl _ _).drew
                  clear hX
                  replace hr0 := kcG hr0 hb
                  replace hd0 := kcG hd0 hb
                  replace hd1 := kcG hd1 hb
                  replace HW := Lib.hid (bel_end HW.out hb)
                  clear hb
                  have hS := HSp.out _ bX hr0 hd0 hd1
                  refine wpAnyH_take (i := 0) (oi := { dst := some 163, op := Go.Op.load 25 (Go.Operand.tmp 3), type := 25, pos := "laws.go:328", after := #[], guard := none }) (v := ?_) rfl (by kernel_rfl) (by kernel_rfl) (by kernel_rfl) (fun _ _ _ h => h) (Or.inl ⟨by rfl, ?_⟩) hS ?_
                  rotate_left
                  · (intro w hSw; have hSw := (HSd.out w).1 hSw; go_split_ands; go_simp) <;> with_reducible rfl
                  clear hS
                  try simp only [Act.put, List.setIfInBounds_toArray, List.set_cons_zero, List.set_cons_succ]
                  have hS := HSp.out _ bX hr0 hd0 hd1
                  refine wpAnyH_take (i := 1) (oi := { dst := some 164, op := Go.Op.move (Go.Operand.tmp 4), type := 29, pos := "laws.go:328", after := #[], guard := none }) (v := ?_) rfl (by kernel_rfl) (by kernel_rfl) (by kernel_rfl) (fun _ _ _ h => h) (Or.inl ⟨by rfl, ?_⟩) hS ?_
                  rotate_left
                  · (intro w hSw; have hSw := (HSd.out w).1 hSw; go_split_ands; go_simp) <;> with_reducible rfl
                  clear hS
                  try simp only [Act.put, List.setIfInBounds_toArray, List.set_cons_zero, List.set_cons_succ]
                  have hS := HSp.out _ bX hr0 hd0 hd1
                  refine wpAnyH_take (i := 2) (oi := { dst := some 165, op := Go.Op.move (Go.Operand.tmp 7), type := 39, pos := "laws.go:328", after := #[], guard := none }) (v := ?_) rfl (by kernel_rfl) (by kernel_rfl) (by kernel_rfl) (fun _ _ _ h => h) (Or.inl ⟨by rfl, ?_⟩) hS ?_
                  rotate_left
                  · (intro w hSw; have hSw := (HSd.out w).1 hSw; go_split_ands; go_simp) <;> with_reducible rfl
                  clear hS
                  try simp only [Act.put, List.setIfInBounds_toArray, List.set_cons_zero, List.set_cons_succ]
                  have hS := HSp.out _ bX hr0 hd0 hd1
                  refine wpAnyH_take (i := 3) (oi := { dst := some 166, op := Go.Op.move (Go.Operand.tmp 25), type := 3, pos := "laws.go:328", after := #[], guard := none }) (v := ?_) rfl (by kernel_rfl) (by kernel_rfl) (by kernel_rfl) (fun _ _ _ h => h) (Or.inl ⟨by rfl, ?_⟩) hS ?_
                  rotate_left
                  · (intro w hSw; have hSw := (HSd.out w).1 hSw; go_split_ands; go_simp) <;> with_reducible rfl
                  clear hS
                  try simp only [Act.put, List.setIfInBounds_toArray, List.set_cons_zero, List.set_cons_succ]
                  have hS := HSp.out _ bX hr0 hd0 hd1
                  refine wpAnyH_take (i := 4) (oi := { dst := some 167, op := Go.Op.indexAddr 39 (Go.Operand.tmp 165) (Go.Operand.tmp 166), type := 0, pos := "laws.go:328", after := #[{ on := 2, ground := Go.Ground.data }, { on := 3, ground := Go.Ground.data }], guard := none }) (v := ?_) rfl (by kernel_rfl) (by kernel_rfl) (by kernel_rfl) (fun _ _ _ h => h) (Or.inl ⟨by rfl, ?_⟩) hS ?_
                  rotate_left
                  · (intro w hSw; have hSw := (HSd.out w).1 hSw; go_split_ands; go_simp) <;> with_reducible rfl
                  clear hS
                  try simp only [Act.put, List.setIfInBounds_toArray, List.set_cons_zero, List.set_cons_succ]
                  have hS := HSp.out _ bX hr0 hd0 hd1
                  refine wpAnyH_take (i := 5) (oi := { dst := some 168, op := Go.Op.load 2 (Go.Operand.tmp 167), type := 2, pos := "laws.go:328", after := #[{ on := 4, ground := Go.Ground.data }], guard := none }) (v := ?_) rfl (by kernel_rfl) (by kernel_rfl) (by kernel_rfl) (fun _ _ _ h => h) (Or.inl ⟨by rfl, ?_⟩) hS ?_
                  rotate_left
                  · (intro w hSw; have hSw := (HSd.out w).1 hSw; go_split_ands; go_simp) <;> with_reducible rfl
                  clear hS
                  try simp only [Act.put, List.setIfInBounds_toArray, List.set_cons_zero, List.set_cons_succ]
                  have hS := HSp.out _ bX hr0 hd0 hd1
                  refine wpAnyH_take (i := 6) (oi := { dst := some 169, op := Go.Op.indexAddr 29 (Go.Operand.tmp 164) (Go.Operand.tmp 168), type := 0, pos := "laws.go:328", after := #[{ on := 1, ground := Go.Ground.data }, { on := 5, ground := Go.Ground.data }], guard := none }) (v := ?_) rfl (by kernel_rfl) (by kernel_rfl) (by kernel_rfl) (fun _ _ _ h => h) (Or.inl ⟨by rfl, ?_⟩) hS ?_
                  rotate_left
                  · (intro w hSw; have hSw := (HSd.out w).1 hSw; go_split_ands; go_simp) <;> with_reducible rfl
                  clear hS
                  try simp only [Act.put, List.setIfInBounds_toArray, List.set_cons_zero, List.set_cons_succ]
                  have hS := HSp.out _ bX hr0 hd0 hd1
                  refine wpAnyH_take (i := 7) (oi := { dst := some 170, op := Go.Op.load 45 (Go.Operand.tmp 169), type := 45, pos := "laws.go:328", after := #[{ on := 6, ground := Go.Ground.data }], guard := none }) (v := ?_) rfl (by kernel_rfl) (by kernel_rfl) (by kernel_rfl) (fun _ _ _ h => h) (Or.inl ⟨by rfl, ?_⟩) hS ?_
                  rotate_left
                  · (intro w hSw; have hSw := (HSd.out w).1 hSw; go_split_ands; go_simp) <;> with_reducible rfl
                  clear hS
                  try simp only [Act.put, List.setIfInBounds_toArray, List.set_cons_zero, List.set_cons_succ]
                  refine wpAnyH_ready (rs := [8]) (by decide +kernel) (by simp) ?_
                  refine AllReadyH.cons (o := { dst := some 171, op := Go.Op.call { callee := Go.Callee.value (Go.Operand.func 31), args := #[Go.Operand.tmp 163, Go.Operand.tmp 170], argTypes := #[25, 45] }, type := 42, pos := "laws.go:328", after := #[{ on := 0, ground := Go.Ground.data }, { on := 7, ground := Go.Ground.data }], guard := none }) rfl (fun Kn hK => ?_) AllReadyH.nil
                  first | go_at_call 31 | (go_simp; go_at_call 31)
                  (with_reducible refine Calls.mono (K6.out  _) ?_)
                  rintro e V1 ⟨rfl, hb⟩
                  try dsimp only
                  try simp only [Act.put, List.setIfInBounds_toArray, List.set_cons_zero, List.set_cons_succ]
                  replace bX := bX.on hb
                  replace hr0 := kcG hr0 hb
                  replace hd0 := kcG hd0 hb
                  replace hd1 := kcG hd1 hb
                  replace HW := Lib.hid (bel_end HW.out hb)
                  clear hb
                  refine hK.out _ _ (HSp.out _ bX hr0 hd0 hd1) (fun _ => ?_)
                  clear hK Kn
                  have hS := HSp.out _ bX hr0 hd0 hd1
                  refine wpAnyH_take (i := 9) (oi := { dst := some 162, op := Go.Op.move (Go.Operand.tmp 171), type := 42, pos := "laws.go:328", after := #[{ on := 8, ground := Go.Ground.data }], guard := none }) (v := ?_) rfl (by kernel_rfl) (by kernel_rfl) (by kernel_rfl) (fun _ _ _ h => h) (Or.inl ⟨by rfl, ?_⟩) hS ?_
                  rotate_left
                  · (intro w hSw; have hSw := (HSd.out w).1 hSw; go_split_ands; go_simp) <;> with_reducible rfl
                  clear hS
                  try simp only [Act.put, List.setIfInBounds_toArray, List.set_cons_zero, List.set_cons_succ]
                  have hS := HSp.out _ bX hr0 hd0 hd1
                  refine wpAnyH_take (i := 10) (oi := { dst := some 172, op := Go.Op.extract (Go.Operand.tmp 162) 0, type := 2, pos := "laws.go:328", after := #[{ on := 9, ground := Go.Ground.data }], guard := none }) (v := ?_) rfl (by kernel_rfl) (by kernel_rfl) (by kernel_rfl) (fun _ _ _ h => h) (Or.inl ⟨by rfl, ?_⟩) hS ?_
                  rotate_left
                  · (intro w hSw; have hSw := (HSd.out w).1 hSw; go_split_ands; go_simp) <;> with_reducible rfl
                  clear hS
                  try simp only [Act.put, List.setIfInBounds_toArray, List.set_cons_zero, List.set_cons_succ]
                  have hS := HSp.out _ bX hr0 hd0 hd1
                  refine wpAnyH_take (i := 11) (oi := { dst := some 173, op := Go.Op.extract (Go.Operand.tmp 162) 1, type := 2, pos := "laws.go:328", after := #[{ on := 9, ground := Go.Ground.data }, { on := 12, ground := Go.Ground.gcOnly Go.Departure.lateStores }], guard := none }) (v := ?_) rfl (by kernel_rfl) (by kernel_rfl) (by kernel_rfl) (fun _ _ _ h => h) (Or.inl ⟨by rfl, ?_⟩) hS ?_
                  rotate_left
                  · (intro w hSw; have hSw := (HSd.out w).1 hSw; go_split_ands; go_simp) <;> with_reducible rfl
                  clear hS
                  try simp only [Act.put, List.setIfInBounds_toArray, List.set_cons_zero, List.set_cons_succ]
                  have hS := HSp.out _ bX hr0 hd0 hd1
                  refine wpAnyH_take (i := 12) (oi := { dst := some 26, op := Go.Op.assign (Go.Operand.tmp 172), type := 2, pos := "laws.go:328", after := #[{ on := 10, ground := Go.Ground.data }, { on := 8, ground := Go.Ground.chain }, { on := 0, ground := Go.Ground.phase }, { on := 1, ground := Go.Ground.phase }, { on := 2, ground := Go.Ground.phase }, { on := 3, ground := Go.Ground.phase }, { on := 4, ground := Go.Ground.phase }, { on := 5, ground := Go.Ground.phase }, { on := 6, ground := Go.Ground.phase }, { on := 7, ground := Go.Ground.phase }, { on := 8, ground := Go.Ground.phase }, { on := 9, ground := Go.Ground.phase }, { on := 10, ground := Go.Ground.phase }, { on := 11, ground := Go.Ground.textOnly Go.Departure.lateStores }], guard := none }) (v := ?_) rfl (by kernel_rfl) (by kernel_rfl) (by kernel_rfl) (fun _ _ _ h => h) (Or.inl ⟨by rfl, ?_⟩) hS ?_
                  rotate_left
                  · (intro w hSw; have hSw := (HSd.out w).1 hSw; go_split_ands; go_simp) <;> with_reducible rfl
                  clear hS
                  try simp only [Act.put, List.setIfInBounds_toArray, List.set_cons_zero, List.set_cons_succ]
                  have hS := HSp.out _ bX hr0 hd0 hd1
                  refine wpAnyH_take (i := 13) (oi := { dst := some 27, op := Go.Op.assign (Go.Operand.tmp 173), type := 2, pos := "laws.go:328", after := #[{ on := 11, ground := Go.Ground.data }, { on := 12, ground := Go.Ground.chain }, { on := 0, ground := Go.Ground.phase }, { on := 1, ground := Go.Ground.phase }, { on := 2, ground := Go.Ground.phase }, { on := 3, ground := Go.Ground.phase }, { on := 4, ground := Go.Ground.phase }, { on := 5, ground := Go.Ground.phase }, { on := 6, ground := Go.Ground.phase }, { on := 7, ground := Go.Ground.phase }, { on := 8, ground := Go.Ground.phase }, { on := 9, ground := Go.Ground.phase }, { on := 10, ground := Go.Ground.phase }, { on := 11, ground := Go.Ground.phase }, { on := 12, ground := Go.Ground.phase }], guard := none }) (v := ?_) rfl (by kernel_rfl) (by kernel_rfl) (by kernel_rfl) (fun _ _ _ h => h) (Or.inl ⟨by rfl, ?_⟩) hS ?_
                  rotate_left
                  · (intro w hSw; have hSw := (HSd.out w).1 hSw; go_split_ands; go_simp) <;> with_reducible rfl
                  clear hS
                  try simp only [Act.put, List.setIfInBounds_toArray, List.set_cons_zero, List.set_cons_succ]
                  refine wpAnyH_done (by kernel_rfl) ?_ _
                  go_wp2_with fail
                  go_meet
                  exact ⟨rfl, rfl, HW.out⟩
                case rest =>
                  obtain ⟨rfl, rfl, hb⟩ := hcut
                  replace bX := bX.on hb
                  replace HBR := Lib.hid (bel_end HBR.out hb)
                  clear hb
                  clear bX hr0 hd0 hd1 K6
                  go_wp2_with fail
                  go_roundw
                  case rel => exact ⟨k + 1, by omega, by go_num, HBR.out⟩
                  case measure => simp [intOf]; omega
              case neg =>
                have KH := Lib.hid (hsi_any wr wr.heap.size la lc R (m : Int) (by omega) (HL.out.on HBR.out).ints)
                rw [decide_eq_true HMEM.out] at KH
                go_wp2_with fail
                (with_reducible refine Calls.mono KH.out ?_)
                rintro e v3 ⟨rfl, rfl⟩
                go_wp2
                go_ret
                exact ⟨rfl, bel_end HB.out HBR.out⟩
end Go.Proofs.Ytdkiikmmlfdlcaa
