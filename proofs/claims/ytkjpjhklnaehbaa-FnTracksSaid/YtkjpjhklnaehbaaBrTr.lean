/- The walk of the law FnTracks over drawn data: it returns true and writes nothing that was there. -/
import Derived.Test.YtkjpjhklnaehbaaBrT
import Derived.Test.YtkjpjhklnaehbaaBrW
import Derived.Deep.RegionHeld3
import Derived.Deep.DeepCutAuto
import Derived.Deep.DrawnRows
import Derived.Deep.RegionWith
import Derived.Test.YtkjpjhklnaehbaaBrG
namespace Go.Proofs.Ytkjpjhklnaehbaa
open Go.ChangeShapes Go.WideShapes Go.ChangeAt Go.RowKit Go.Shelf Num
set_option linter.unusedVariables false
set_option linter.unusedSimpArgs false

set_option maxRecDepth 100000 in
set_option maxHeartbeats 8000000 in
theorem ltrk (a0 : Option Addr) (len0 cap0 : Nat) (z0 : List Int) (w : World) (w0 : IsRow .u8 w a0 len0 cap0 z0) :
    Calls Try.prog 14 #[.slice a0 len0 cap0] w fun e w' => e = .returned (.bool true) ∧ Below w.heap.size w w' := by
  obtain ⟨hlen, hcode⟩ := Code8.of_row w0
  obtain ⟨zs, hzs⟩ : ∃ zs, z0.take len0 = zs := ⟨_, rfl⟩
  rw [hzs] at hlen hcode
  subst hlen
  clear hzs w0
  have HC := Lib.hid hcode
  clear hcode
  have HB := Lib.hid (Below.refl w.heap.size w)
  by_cases hbig : 4096 < zs.length
  · have hd : decide ((4096 : Int) < (zs.length : Int)) = true := by simp; omega
    go_enter Try.func14, Try.ntmps14
    go_wp2_with (go_at_call 38; refine (big_any _ _ _ _).mono ?_; rw [hd]; rintro e w' ⟨rfl, rfl⟩)
    go_ret
    exact ⟨rfl, Below.refl _ _⟩
  · have hd : decide ((4096 : Int) < (zs.length : Int)) = false := by simp; omega
    go_enter Try.func14, Try.ntmps14
    go_wp2_with (go_at_call 38; refine (big_any _ _ _ _).mono ?_; rw [hd]; rintro e w' ⟨rfl, rfl⟩)
    clear hd
    refine (dpo_any _ _ _ zs ((HC.out.below HB.out (Nat.le_refl _)).more HB.out.size)).mono ?_
    rintro e w1 ⟨x, y, s, t, u, rfl, hb⟩
    replace HB := Lib.hid (bel_end HB.out hb)
    clear hb
    have pv := fun h => po_val (x := x) (y := y) (s := s) (t := t) (u := u) h
    have pb := fun p q p2 q2 h g => po_before (x := x) (y := y) (s := s) (t := t) (u := u) (p := p) (q := q) (p2 := p2) (q2 := q2) h g
    obtain ⟨⟨p, q, c⟩, hT⟩ : ∃ qq, poT x y s t u = qq := ⟨_, rfl⟩
    obtain ⟨⟨p2, q2, c2⟩, hT2⟩ : ∃ qq, poT x y s t (u - 1) = qq := ⟨_, rfl⟩
    have K1S : Hid (∀ W : World, Calls Try.prog 26 #[.agg #[.int .i64 x, .int .i64 y, .int .i64 s, .int .i64 t], .int .i64 u] W fun e w' => e = .returned (.tuple #[.agg #[.int .i64 p, .int .i64 q], .int .i64 c]) ∧ Below W.heap.size W w') := Lib.hid (fun W => by have := spo_any W x y s t u; rwa [hT] at this)
    have K1I : Hid (∀ W : World, Calls Try.prog 28 #[.agg #[.int .i64 x, .int .i64 y, .int .i64 s, .int .i64 t], .int .i64 u] W fun e w' => e = .returned (.tuple #[.agg #[.int .i64 p, .int .i64 q], .int .i64 c]) ∧ Below W.heap.size W w') := Lib.hid (fun W => by have := ipo_any W x y s t u; rwa [hT] at this)
    have KP : Hid (∀ W : World, Calls Try.prog 28 #[.agg #[.int .i64 x, .int .i64 y, .int .i64 s, .int .i64 t], .int .i64 (u - 1)] W fun e w' => e = .returned (.tuple #[.agg #[.int .i64 p2, .int .i64 q2], .int .i64 c2]) ∧ Below W.heap.size W w') := Lib.hid (fun W => by have := ipo_any W x y s t (u - 1); rwa [hT2] at this)
    have FU : Hid (c = 0 → 0 ≤ u ∧ u ≤ 1000) := Lib.hid (fun h => (pv (by rw [hT]; exact h)).2.1)
    have FP : Hid (c = 0 → c2 = 0 → (p2 + s = p ∧ q2 + t = q) ∧ (-100000 ≤ p2 ∧ p2 ≤ 100000 ∧ -100000 ≤ q2 ∧ q2 ≤ 100000) ∧ (-1000 ≤ s ∧ s ≤ 1000 ∧ -1000 ≤ t ∧ t ≤ 1000)) := Lib.hid (fun h g => pb p q p2 q2 (by rw [hT, h]) (by rw [hT2, g]))
    clear pv pb hT hT2
    go_upto_region 4 with fail
    generalize hW : World.alloc _ _ = wl1
    have hb : Below w1.heap.size w1 wl1 := by rw [← hW]; exact (by repeat (first | exact Below.refl _ _ | (refine Below.alloc ?_ (by simp <;> omega) _) | (refine Below.setCell ?_ (by simp <;> omega) _) | (refine Below.drew ?_) | (refine bel_drewN ?_ _)))
    obtain ⟨gT, hg0⟩ : ∃ g, g = w1.heap.size := ⟨_, rfl⟩
    have bT : Bk wl1 gT #[.int .i64 x, .int .i64 y, .int .i64 s, .int .i64 t] 44 := by rw [← hW, hg0]; repeat (first | (refine Bk.new' ?_; (simp; done)) | refine Bk.alloc ?_ _)
    try rw [← hg0]
    clear hW hg0
    replace HB := Lib.hid (bel_end HB.out hb)
    clear hb
    have bT_0 := bT.cell 0 rfl
    have bT_1 := bT.cell 1 rfl
    have bT_2 := bT.cell 2 rfl
    have bT_3 := bT.cell 3 rfl
    have bT_l := bT.lt
    go_wp2_with fail
    refine (K1I.out _).mono ?_
    rintro e w2 ⟨rfl, hb⟩
    replace bT := bT.on hb
    replace HB := Lib.hid (bel_end HB.out hb)
    clear hb
    clear bT_0 bT_1 bT_2 bT_3 bT_l
    have bT_0 := bT.cell 0 rfl
    have bT_1 := bT.cell 1 rfl
    have bT_2 := bT.cell 2 rfl
    have bT_3 := bT.cell 3 rfl
    have bT_l := bT.lt
    go_upto_region 5 with fail
    clear bT_0 bT_1 bT_2 bT_3 bT_l
    generalize hW : World.alloc _ _ = wl2
    have hb : Below w2.heap.size w2 wl2 := by rw [← hW]; exact (by repeat (first | exact Below.refl _ _ | (refine Below.alloc ?_ (by simp <;> omega) _) | (refine Below.setCell ?_ (by simp <;> omega) _) | (refine Below.drew ?_) | (refine bel_drewN ?_ _)))
    obtain ⟨gP1, hg0⟩ : ∃ g, g = w2.heap.size := ⟨_, rfl⟩
    have bP1 : Bk wl2 gP1 #[.int .i64 p, .int .i64 q] 25 := by rw [← hW, hg0]; repeat (first | (refine Bk.new' ?_; (simp; done)) | refine Bk.alloc ?_ _)
    try rw [← hg0]
    clear hW hg0
    replace bT := bT.on hb
    replace HB := Lib.hid (bel_end HB.out hb)
    clear hb
    have bT_0 := bT.cell 0 rfl
    have bT_1 := bT.cell 1 rfl
    have bT_2 := bT.cell 2 rfl
    have bT_3 := bT.cell 3 rfl
    have bT_l := bT.lt
    have bP1_0 := bP1.cell 0 rfl
    have bP1_1 := bP1.cell 1 rfl
    have bP1_l := bP1.lt
    go_wp2_with fail
    refine (K1S.out _).mono ?_
    rintro e w3 ⟨rfl, hb⟩
    replace bT := bT.on hb
    replace bP1 := bP1.on hb
    replace HB := Lib.hid (bel_end HB.out hb)
    clear hb
    clear bT_0 bT_1 bT_2 bT_3 bT_l bP1_0 bP1_1 bP1_l
    have bT_0 := bT.cell 0 rfl
    have bT_1 := bT.cell 1 rfl
    have bT_2 := bT.cell 2 rfl
    have bT_3 := bT.cell 3 rfl
    have bT_l := bT.lt
    have bP1_0 := bP1.cell 0 rfl
    have bP1_1 := bP1.cell 1 rfl
    have bP1_l := bP1.lt
    go_upto_region 6 with fail
    clear bT_0 bT_1 bT_2 bT_3 bT_l bP1_0 bP1_1 bP1_l
    generalize hW : World.alloc _ _ = wl3
    have hb : Below w3.heap.size w3 wl3 := by rw [← hW]; exact (by repeat (first | exact Below.refl _ _ | (refine Below.alloc ?_ (by simp <;> omega) _) | (refine Below.setCell ?_ (by simp <;> omega) _) | (refine Below.drew ?_) | (refine bel_drewN ?_ _)))
    obtain ⟨gP2, hg0⟩ : ∃ g, g = w3.heap.size := ⟨_, rfl⟩
    have bP2 : Bk wl3 gP2 #[.int .i64 p, .int .i64 q] 25 := by rw [← hW, hg0]; repeat (first | (refine Bk.new' ?_; (simp; done)) | refine Bk.alloc ?_ _)
    try rw [← hg0]
    clear hW hg0
    replace bT := bT.on hb
    replace bP1 := bP1.on hb
    replace HB := Lib.hid (bel_end HB.out hb)
    clear hb
    have bT_0 := bT.cell 0 rfl
    have bT_1 := bT.cell 1 rfl
    have bT_2 := bT.cell 2 rfl
    have bT_3 := bT.cell 3 rfl
    have bT_l := bT.lt
    have bP1_0 := bP1.cell 0 rfl
    have bP1_1 := bP1.cell 1 rfl
    have bP1_l := bP1.lt
    have bP2_0 := bP2.cell 0 rfl
    have bP2_1 := bP2.cell 1 rfl
    have bP2_l := bP2.lt
    go_wp2_with fail
    refine (dbd_any _ _ _ zs ((HC.out.below HB.out (Nat.le_refl _)).more HB.out.size)).mono ?_
    rintro e w4 ⟨a1, a2, a3, a4, b1, b2, b3, b4, m, rfl, hb⟩
    replace bT := bT.on hb
    replace bP1 := bP1.on hb
    replace bP2 := bP2.on hb
    replace HB := Lib.hid (bel_end HB.out hb)
    clear hb
    clear bT_0 bT_1 bT_2 bT_3 bT_l bP1_0 bP1_1 bP1_l bP2_0 bP2_1 bP2_l
    have bf := fun h => bd_facts (a1 := a1) (a2 := a2) (a3 := a3) (a4 := a4) (b1 := b1) (b2 := b2) (b3 := b3) (b4 := b4) (u := m) h
    obtain ⟨Z, hZ⟩ : ∃ qq, bdR a1 a2 a3 a4 b1 b2 b3 b4 m = qq := ⟨_, rfl⟩
    obtain ⟨E, hE⟩ : ∃ qq, bdC a1 a2 a3 a4 b1 b2 b3 b4 m = qq := ⟨_, rfl⟩
    rw [hZ, hE] at bf
    have K2S : Hid (∀ W : World, Calls Try.prog 34 #[.agg #[.int .i64 a1, .int .i64 a2, .int .i64 a3, .int .i64 a4], .agg #[.int .i64 b1, .int .i64 b2, .int .i64 b3, .int .i64 b4], .int .i64 m] W fun e w' => e = .returned (.tuple #[.int .i64 Z, .int .i64 E]) ∧ Below W.heap.size W w') := Lib.hid (fun W => by have := sbd_any W a1 a2 a3 a4 b1 b2 b3 b4 m; rwa [hZ, hE] at this)
    have K2I : Hid (∀ W : World, Calls Try.prog 35 #[.agg #[.int .i64 a1, .int .i64 a2, .int .i64 a3, .int .i64 a4], .agg #[.int .i64 b1, .int .i64 b2, .int .i64 b3, .int .i64 b4], .int .i64 m] W fun e w' => e = .returned (.tuple #[.int .i64 Z, .int .i64 E]) ∧ Below W.heap.size W w') := Lib.hid (fun W => by have := ibd_any W a1 a2 a3 a4 b1 b2 b3 b4 m; rwa [hZ, hE] at this)
    have K3 : Hid (E = 0 → ∀ W : World, Calls Try.prog 35 #[.agg #[.int .i64 a1, .int .i64 a2, .int .i64 a3, .int .i64 a4], .agg #[.int .i64 b1, .int .i64 b2, .int .i64 b3, .int .i64 b4], .int .i64 0] W fun e w' => e = .returned (.tuple #[.int .i64 Z, .int .i64 0]) ∧ Below W.heap.size W w') := Lib.hid (fun h W => by have := ibd_any W a1 a2 a3 a4 b1 b2 b3 b4 0; rwa [(bf h).1.1, (bf h).1.2] at this)
    have K4 : Hid (E = 0 → ∀ W : World, Calls Try.prog 35 #[.agg #[.int .i64 b1, .int .i64 b2, .int .i64 b3, .int .i64 b4], .agg #[.int .i64 a1, .int .i64 a2, .int .i64 a3, .int .i64 a4], .int .i64 m] W fun e w' => e = .returned (.tuple #[.int .i64 Z, .int .i64 0]) ∧ Below W.heap.size W w') := Lib.hid (fun h W => by have := ibd_any W b1 b2 b3 b4 a1 a2 a3 a4 m; rwa [(bf h).2.1, (bf h).2.2] at this)
    clear hZ hE bf
    have bT_0 := bT.cell 0 rfl
    have bT_1 := bT.cell 1 rfl
    have bT_2 := bT.cell 2 rfl
    have bT_3 := bT.cell 3 rfl
    have bT_l := bT.lt
    have bP1_0 := bP1.cell 0 rfl
    have bP1_1 := bP1.cell 1 rfl
    have bP1_l := bP1.lt
    have bP2_0 := bP2.cell 0 rfl
    have bP2_1 := bP2.cell 1 rfl
    have bP2_l := bP2.lt
    go_upto_region 7 with fail
    clear bT_0 bT_1 bT_2 bT_3 bT_l bP1_0 bP1_1 bP1_l bP2_0 bP2_1 bP2_l
    generalize hW : World.alloc _ _ = wl4
    have hb : Below w4.heap.size w4 wl4 := by rw [← hW]; exact (by repeat (first | exact Below.refl _ _ | (refine Below.alloc ?_ (by simp <;> omega) _) | (refine Below.setCell ?_ (by simp <;> omega) _) | (refine Below.drew ?_) | (refine bel_drewN ?_ _)))
    obtain ⟨gA, hg0⟩ : ∃ g, g = w4.heap.size := ⟨_, rfl⟩
    have bA : Bk wl4 gA #[.int .i64 a1, .int .i64 a2, .int .i64 a3, .int .i64 a4] 44 := by rw [← hW, hg0]; repeat (first | (refine Bk.new' ?_; (simp; done)) | refine Bk.alloc ?_ _)
    obtain ⟨gB, hg1⟩ : ∃ g, g = w4.heap.size + 1 := ⟨_, rfl⟩
    have bB : Bk wl4 gB #[.int .i64 b1, .int .i64 b2, .int .i64 b3, .int .i64 b4] 44 := by rw [← hW, hg1]; repeat (first | (refine Bk.new' ?_; (simp; done)) | refine Bk.alloc ?_ _)
    try rw [← hg1]
    try rw [← hg0]
    clear hW hg0 hg1
    replace bT := bT.on hb
    replace bP1 := bP1.on hb
    replace bP2 := bP2.on hb
    replace HB := Lib.hid (bel_end HB.out hb)
    clear hb
    have bT_0 := bT.cell 0 rfl
    have bT_1 := bT.cell 1 rfl
    have bT_2 := bT.cell 2 rfl
    have bT_3 := bT.cell 3 rfl
    have bT_l := bT.lt
    have bP1_0 := bP1.cell 0 rfl
    have bP1_1 := bP1.cell 1 rfl
    have bP1_l := bP1.lt
    have bP2_0 := bP2.cell 0 rfl
    have bP2_1 := bP2.cell 1 rfl
    have bP2_l := bP2.lt
    have bA_0 := bA.cell 0 rfl
    have bA_1 := bA.cell 1 rfl
    have bA_2 := bA.cell 2 rfl
    have bA_3 := bA.cell 3 rfl
    have bA_l := bA.lt
    have bB_0 := bB.cell 0 rfl
    have bB_1 := bB.cell 1 rfl
    have bB_2 := bB.cell 2 rfl
    have bB_3 := bB.cell 3 rfl
    have bB_l := bB.lt
    go_wp2_with fail
    refine (K2I.out _).mono ?_
    rintro e w5 ⟨rfl, hb⟩
    replace bT := bT.on hb
    replace bP1 := bP1.on hb
    replace bP2 := bP2.on hb
    replace bA := bA.on hb
    replace bB := bB.on hb
    replace HB := Lib.hid (bel_end HB.out hb)
    clear hb
    clear bT_0 bT_1 bT_2 bT_3 bT_l bP1_0 bP1_1 bP1_l bP2_0 bP2_1 bP2_l bA_0 bA_1 bA_2 bA_3 bA_l bB_0 bB_1 bB_2 bB_3 bB_l
    have bT_0 := bT.cell 0 rfl
    have bT_1 := bT.cell 1 rfl
    have bT_2 := bT.cell 2 rfl
    have bT_3 := bT.cell 3 rfl
    have bT_l := bT.lt
    have bP1_0 := bP1.cell 0 rfl
    have bP1_1 := bP1.cell 1 rfl
    have bP1_l := bP1.lt
    have bP2_0 := bP2.cell 0 rfl
    have bP2_1 := bP2.cell 1 rfl
    have bP2_l := bP2.lt
    have bA_0 := bA.cell 0 rfl
    have bA_1 := bA.cell 1 rfl
    have bA_2 := bA.cell 2 rfl
    have bA_3 := bA.cell 3 rfl
    have bA_l := bA.lt
    have bB_0 := bB.cell 0 rfl
    have bB_1 := bB.cell 1 rfl
    have bB_2 := bB.cell 2 rfl
    have bB_3 := bB.cell 3 rfl
    have bB_l := bB.lt
    go_wp2_with fail
    refine (K2S.out _).mono ?_
    rintro e w6 ⟨rfl, hb⟩
    replace bT := bT.on hb
    replace bP1 := bP1.on hb
    replace bP2 := bP2.on hb
    replace bA := bA.on hb
    replace bB := bB.on hb
    replace HB := Lib.hid (bel_end HB.out hb)
    clear hb
    clear bT_0 bT_1 bT_2 bT_3 bT_l bP1_0 bP1_1 bP1_l bP2_0 bP2_1 bP2_l bA_0 bA_1 bA_2 bA_3 bA_l bB_0 bB_1 bB_2 bB_3 bB_l
    by_cases hE : E = 0
    case pos =>
      have K5 := Lib.hid (K3.out hE)
      have K6 := Lib.hid (K4.out hE)
      subst hE
      clear K3 K4
      have bT_0 := bT.cell 0 rfl
      have bT_1 := bT.cell 1 rfl
      have bT_2 := bT.cell 2 rfl
      have bT_3 := bT.cell 3 rfl
      have bT_l := bT.lt
      have bP1_0 := bP1.cell 0 rfl
      have bP1_1 := bP1.cell 1 rfl
      have bP1_l := bP1.lt
      have bP2_0 := bP2.cell 0 rfl
      have bP2_1 := bP2.cell 1 rfl
      have bP2_l := bP2.lt
      have bA_0 := bA.cell 0 rfl
      have bA_1 := bA.cell 1 rfl
      have bA_2 := bA.cell 2 rfl
      have bA_3 := bA.cell 3 rfl
      have bA_l := bA.lt
      have bB_0 := bB.cell 0 rfl
      have bB_1 := bB.cell 1 rfl
      have bB_2 := bB.cell 2 rfl
      have bB_3 := bB.cell 3 rfl
      have bB_l := bB.lt
      go_wp2_with fail
      refine (K5.out _).mono ?_
      rintro e w7 ⟨rfl, hb⟩
      replace bT := bT.on hb
      replace bP1 := bP1.on hb
      replace bP2 := bP2.on hb
      replace bA := bA.on hb
      replace bB := bB.on hb
      replace HB := Lib.hid (bel_end HB.out hb)
      clear hb
      clear bT_0 bT_1 bT_2 bT_3 bT_l bP1_0 bP1_1 bP1_l bP2_0 bP2_1 bP2_l bA_0 bA_1 bA_2 bA_3 bA_l bB_0 bB_1 bB_2 bB_3 bB_l
      have bT_0 := bT.cell 0 rfl
      have bT_1 := bT.cell 1 rfl
      have bT_2 := bT.cell 2 rfl
      have bT_3 := bT.cell 3 rfl
      have bT_l := bT.lt
      have bP1_0 := bP1.cell 0 rfl
      have bP1_1 := bP1.cell 1 rfl
      have bP1_l := bP1.lt
      have bP2_0 := bP2.cell 0 rfl
      have bP2_1 := bP2.cell 1 rfl
      have bP2_l := bP2.lt
      have bA_0 := bA.cell 0 rfl
      have bA_1 := bA.cell 1 rfl
      have bA_2 := bA.cell 2 rfl
      have bA_3 := bA.cell 3 rfl
      have bA_l := bA.lt
      have bB_0 := bB.cell 0 rfl
      have bB_1 := bB.cell 1 rfl
      have bB_2 := bB.cell 2 rfl
      have bB_3 := bB.cell 3 rfl
      have bB_l := bB.lt
      go_wp2_with fail
      refine (K6.out _).mono ?_
      rintro e w8 ⟨rfl, hb⟩
      replace bT := bT.on hb
      replace bP1 := bP1.on hb
      replace bP2 := bP2.on hb
      replace bA := bA.on hb
      replace bB := bB.on hb
      replace HB := Lib.hid (bel_end HB.out hb)
      clear hb
      clear bT_0 bT_1 bT_2 bT_3 bT_l bP1_0 bP1_1 bP1_l bP2_0 bP2_1 bP2_l bA_0 bA_1 bA_2 bA_3 bA_l bB_0 bB_1 bB_2 bB_3 bB_l
      by_cases h0 : c = 0
      case neg =>
        have h1 : (c != 0) = true := by simpa using h0
        clear h0
        have bT_0 := bT.cell 0 rfl
        have bT_1 := bT.cell 1 rfl
        have bT_2 := bT.cell 2 rfl
        have bT_3 := bT.cell 3 rfl
        have bT_l := bT.lt
        have bP1_0 := bP1.cell 0 rfl
        have bP1_1 := bP1.cell 1 rfl
        have bP1_l := bP1.lt
        have bP2_0 := bP2.cell 0 rfl
        have bP2_1 := bP2.cell 1 rfl
        have bP2_l := bP2.lt
        have bA_0 := bA.cell 0 rfl
        have bA_1 := bA.cell 1 rfl
        have bA_2 := bA.cell 2 rfl
        have bA_3 := bA.cell 3 rfl
        have bA_l := bA.lt
        have bB_0 := bB.cell 0 rfl
        have bB_1 := bB.cell 1 rfl
        have bB_2 := bB.cell 2 rfl
        have bB_3 := bB.cell 3 rfl
        have bB_l := bB.lt
        go_wp2
        go_ret
        exact ⟨rfl, HB.out⟩
      case pos =>
        have fu := FU.out h0
        have FQ := Lib.hid (FP.out h0)
        subst h0
        clear FU FP
        by_cases h0 : u = 0
        case pos =>
          subst h0
          have bT_0 := bT.cell 0 rfl
          have bT_1 := bT.cell 1 rfl
          have bT_2 := bT.cell 2 rfl
          have bT_3 := bT.cell 3 rfl
          have bT_l := bT.lt
          have bP1_0 := bP1.cell 0 rfl
          have bP1_1 := bP1.cell 1 rfl
          have bP1_l := bP1.lt
          have bP2_0 := bP2.cell 0 rfl
          have bP2_1 := bP2.cell 1 rfl
          have bP2_l := bP2.lt
          have bA_0 := bA.cell 0 rfl
          have bA_1 := bA.cell 1 rfl
          have bA_2 := bA.cell 2 rfl
          have bA_3 := bA.cell 3 rfl
          have bA_l := bA.lt
          have bB_0 := bB.cell 0 rfl
          have bB_1 := bB.cell 1 rfl
          have bB_2 := bB.cell 2 rfl
          have bB_3 := bB.cell 3 rfl
          have bB_l := bB.lt
          go_wp2
          go_ret
          exact ⟨rfl, HB.out⟩
        case neg =>
          have h1 : (u == 0) = false := by simpa using h0
          have eu : IntKind.wrap .i64 (u - 1) = u - 1 := IntWalk.i64_in _ (by omega)
          clear fu h0
          have bT_0 := bT.cell 0 rfl
          have bT_1 := bT.cell 1 rfl
          have bT_2 := bT.cell 2 rfl
          have bT_3 := bT.cell 3 rfl
          have bT_l := bT.lt
          have bP1_0 := bP1.cell 0 rfl
          have bP1_1 := bP1.cell 1 rfl
          have bP1_l := bP1.lt
          have bP2_0 := bP2.cell 0 rfl
          have bP2_1 := bP2.cell 1 rfl
          have bP2_l := bP2.lt
          have bA_0 := bA.cell 0 rfl
          have bA_1 := bA.cell 1 rfl
          have bA_2 := bA.cell 2 rfl
          have bA_3 := bA.cell 3 rfl
          have bA_l := bA.lt
          have bB_0 := bB.cell 0 rfl
          have bB_1 := bB.cell 1 rfl
          have bB_2 := bB.cell 2 rfl
          have bB_3 := bB.cell 3 rfl
          have bB_l := bB.lt
          go_wp2_with fail
          refine (KP.out _).mono ?_
          rintro e w9 ⟨rfl, hb⟩
          replace bT := bT.on hb
          replace bP1 := bP1.on hb
          replace bP2 := bP2.on hb
          replace bA := bA.on hb
          replace bB := bB.on hb
          replace HB := Lib.hid (bel_end HB.out hb)
          clear hb
          clear bT_0 bT_1 bT_2 bT_3 bT_l bP1_0 bP1_1 bP1_l bP2_0 bP2_1 bP2_l bA_0 bA_1 bA_2 bA_3 bA_l bB_0 bB_1 bB_2 bB_3 bB_l
          clear eu h1
          have bT_0 := bT.cell 0 rfl
          have bT_1 := bT.cell 1 rfl
          have bT_2 := bT.cell 2 rfl
          have bT_3 := bT.cell 3 rfl
          have bT_l := bT.lt
          have bP1_0 := bP1.cell 0 rfl
          have bP1_1 := bP1.cell 1 rfl
          have bP1_l := bP1.lt
          have bP2_0 := bP2.cell 0 rfl
          have bP2_1 := bP2.cell 1 rfl
          have bP2_l := bP2.lt
          have bA_0 := bA.cell 0 rfl
          have bA_1 := bA.cell 1 rfl
          have bA_2 := bA.cell 2 rfl
          have bA_3 := bA.cell 3 rfl
          have bA_l := bA.lt
          have bB_0 := bB.cell 0 rfl
          have bB_1 := bB.cell 1 rfl
          have bB_2 := bB.cell 2 rfl
          have bB_3 := bB.cell 3 rfl
          have bB_l := bB.lt
          go_upto_region 19 with fail
          clear bT_0 bT_1 bT_2 bT_3 bT_l bP1_0 bP1_1 bP1_l bP2_0 bP2_1 bP2_l bA_0 bA_1 bA_2 bA_3 bA_l bB_0 bB_1 bB_2 bB_3 bB_l
          generalize hW : World.alloc _ _ = wl5
          have hb : Below w9.heap.size w9 wl5 := by rw [← hW]; exact (by repeat (first | exact Below.refl _ _ | (refine Below.alloc ?_ (by simp <;> omega) _) | (refine Below.setCell ?_ (by simp <;> omega) _) | (refine Below.drew ?_) | (refine bel_drewN ?_ _)))
          obtain ⟨gP3, hg0⟩ : ∃ g, g = w9.heap.size := ⟨_, rfl⟩
          have bP3 : Bk wl5 gP3 #[.int .i64 p2, .int .i64 q2] 25 := by rw [← hW, hg0]; repeat (first | (refine Bk.new' ?_; (simp; done)) | refine Bk.alloc ?_ _)
          try rw [← hg0]
          clear hW hg0
          replace bT := bT.on hb
          replace bP1 := bP1.on hb
          replace bP2 := bP2.on hb
          replace bA := bA.on hb
          replace bB := bB.on hb
          replace HB := Lib.hid (bel_end HB.out hb)
          clear hb
          by_cases h0 : c2 = 0
          case neg =>
            have h1 : (c2 != 0) = true := by simpa using h0
            clear h0
            have bT_0 := bT.cell 0 rfl
            have bT_1 := bT.cell 1 rfl
            have bT_2 := bT.cell 2 rfl
            have bT_3 := bT.cell 3 rfl
            have bT_l := bT.lt
            have bP1_0 := bP1.cell 0 rfl
            have bP1_1 := bP1.cell 1 rfl
            have bP1_l := bP1.lt
            have bP2_0 := bP2.cell 0 rfl
            have bP2_1 := bP2.cell 1 rfl
            have bP2_l := bP2.lt
            have bA_0 := bA.cell 0 rfl
            have bA_1 := bA.cell 1 rfl
            have bA_2 := bA.cell 2 rfl
            have bA_3 := bA.cell 3 rfl
            have bA_l := bA.lt
            have bB_0 := bB.cell 0 rfl
            have bB_1 := bB.cell 1 rfl
            have bB_2 := bB.cell 2 rfl
            have bB_3 := bB.cell 3 rfl
            have bB_l := bB.lt
            have bP3_0 := bP3.cell 0 rfl
            have bP3_1 := bP3.cell 1 rfl
            have bP3_l := bP3.lt
            go_wp2
            go_ret
            exact ⟨rfl, HB.out⟩
          case pos =>
            obtain ⟨⟨f1, f2⟩, f3, f4⟩ := FQ.out h0
            have e1 : IntKind.wrap .i64 (p2 + s) = p := by rw [f1.symm]; exact IntWalk.i64_in _ (by omega)
            have e2 : IntKind.wrap .i64 (q2 + t) = q := by rw [f2.symm]; exact IntWalk.i64_in _ (by omega)
            subst h0
            clear f1 f2 f3 f4 FQ
            have bT_0 := bT.cell 0 rfl
            have bT_1 := bT.cell 1 rfl
            have bT_2 := bT.cell 2 rfl
            have bT_3 := bT.cell 3 rfl
            have bT_l := bT.lt
            have bP1_0 := bP1.cell 0 rfl
            have bP1_1 := bP1.cell 1 rfl
            have bP1_l := bP1.lt
            have bP2_0 := bP2.cell 0 rfl
            have bP2_1 := bP2.cell 1 rfl
            have bP2_l := bP2.lt
            have bA_0 := bA.cell 0 rfl
            have bA_1 := bA.cell 1 rfl
            have bA_2 := bA.cell 2 rfl
            have bA_3 := bA.cell 3 rfl
            have bA_l := bA.lt
            have bB_0 := bB.cell 0 rfl
            have bB_1 := bB.cell 1 rfl
            have bB_2 := bB.cell 2 rfl
            have bB_3 := bB.cell 3 rfl
            have bB_l := bB.lt
            have bP3_0 := bP3.cell 0 rfl
            have bP3_1 := bP3.cell 1 rfl
            have bP3_l := bP3.lt
            go_wp2
            go_ret
            exact ⟨rfl, HB.out⟩
    case neg =>
      have hE2 : (E == 0) = false := by simpa using hE
      clear hE
      by_cases h0 : c = 0
      case neg =>
        have h1 : (c != 0) = true := by simpa using h0
        clear h0
        have bT_0 := bT.cell 0 rfl
        have bT_1 := bT.cell 1 rfl
        have bT_2 := bT.cell 2 rfl
        have bT_3 := bT.cell 3 rfl
        have bT_l := bT.lt
        have bP1_0 := bP1.cell 0 rfl
        have bP1_1 := bP1.cell 1 rfl
        have bP1_l := bP1.lt
        have bP2_0 := bP2.cell 0 rfl
        have bP2_1 := bP2.cell 1 rfl
        have bP2_l := bP2.lt
        have bA_0 := bA.cell 0 rfl
        have bA_1 := bA.cell 1 rfl
        have bA_2 := bA.cell 2 rfl
        have bA_3 := bA.cell 3 rfl
        have bA_l := bA.lt
        have bB_0 := bB.cell 0 rfl
        have bB_1 := bB.cell 1 rfl
        have bB_2 := bB.cell 2 rfl
        have bB_3 := bB.cell 3 rfl
        have bB_l := bB.lt
        go_wp2
        go_ret
        exact ⟨rfl, HB.out⟩
      case pos =>
        have fu := FU.out h0
        have FQ := Lib.hid (FP.out h0)
        subst h0
        clear FU FP
        by_cases h0 : u = 0
        case pos =>
          subst h0
          have bT_0 := bT.cell 0 rfl
          have bT_1 := bT.cell 1 rfl
          have bT_2 := bT.cell 2 rfl
          have bT_3 := bT.cell 3 rfl
          have bT_l := bT.lt
          have bP1_0 := bP1.cell 0 rfl
          have bP1_1 := bP1.cell 1 rfl
          have bP1_l := bP1.lt
          have bP2_0 := bP2.cell 0 rfl
          have bP2_1 := bP2.cell 1 rfl
          have bP2_l := bP2.lt
          have bA_0 := bA.cell 0 rfl
          have bA_1 := bA.cell 1 rfl
          have bA_2 := bA.cell 2 rfl
          have bA_3 := bA.cell 3 rfl
          have bA_l := bA.lt
          have bB_0 := bB.cell 0 rfl
          have bB_1 := bB.cell 1 rfl
          have bB_2 := bB.cell 2 rfl
          have bB_3 := bB.cell 3 rfl
          have bB_l := bB.lt
          go_wp2
          go_ret
          exact ⟨rfl, HB.out⟩
        case neg =>
          have h1 : (u == 0) = false := by simpa using h0
          have eu : IntKind.wrap .i64 (u - 1) = u - 1 := IntWalk.i64_in _ (by omega)
          clear fu h0
          have bT_0 := bT.cell 0 rfl
          have bT_1 := bT.cell 1 rfl
          have bT_2 := bT.cell 2 rfl
          have bT_3 := bT.cell 3 rfl
          have bT_l := bT.lt
          have bP1_0 := bP1.cell 0 rfl
          have bP1_1 := bP1.cell 1 rfl
          have bP1_l := bP1.lt
          have bP2_0 := bP2.cell 0 rfl
          have bP2_1 := bP2.cell 1 rfl
          have bP2_l := bP2.lt
          have bA_0 := bA.cell 0 rfl
          have bA_1 := bA.cell 1 rfl
          have bA_2 := bA.cell 2 rfl
          have bA_3 := bA.cell 3 rfl
          have bA_l := bA.lt
          have bB_0 := bB.cell 0 rfl
          have bB_1 := bB.cell 1 rfl
          have bB_2 := bB.cell 2 rfl
          have bB_3 := bB.cell 3 rfl
          have bB_l := bB.lt
          go_wp2_with fail
          refine (KP.out _).mono ?_
          rintro e w7 ⟨rfl, hb⟩
          replace bT := bT.on hb
          replace bP1 := bP1.on hb
          replace bP2 := bP2.on hb
          replace bA := bA.on hb
          replace bB := bB.on hb
          replace HB := Lib.hid (bel_end HB.out hb)
          clear hb
          clear bT_0 bT_1 bT_2 bT_3 bT_l bP1_0 bP1_1 bP1_l bP2_0 bP2_1 bP2_l bA_0 bA_1 bA_2 bA_3 bA_l bB_0 bB_1 bB_2 bB_3 bB_l
          clear eu h1
          have bT_0 := bT.cell 0 rfl
          have bT_1 := bT.cell 1 rfl
          have bT_2 := bT.cell 2 rfl
          have bT_3 := bT.cell 3 rfl
          have bT_l := bT.lt
          have bP1_0 := bP1.cell 0 rfl
          have bP1_1 := bP1.cell 1 rfl
          have bP1_l := bP1.lt
          have bP2_0 := bP2.cell 0 rfl
          have bP2_1 := bP2.cell 1 rfl
          have bP2_l := bP2.lt
          have bA_0 := bA.cell 0 rfl
          have bA_1 := bA.cell 1 rfl
          have bA_2 := bA.cell 2 rfl
          have bA_3 := bA.cell 3 rfl
          have bA_l := bA.lt
          have bB_0 := bB.cell 0 rfl
          have bB_1 := bB.cell 1 rfl
          have bB_2 := bB.cell 2 rfl
          have bB_3 := bB.cell 3 rfl
          have bB_l := bB.lt
          go_upto_region 19 with fail
          clear bT_0 bT_1 bT_2 bT_3 bT_l bP1_0 bP1_1 bP1_l bP2_0 bP2_1 bP2_l bA_0 bA_1 bA_2 bA_3 bA_l bB_0 bB_1 bB_2 bB_3 bB_l
          generalize hW : World.alloc _ _ = wl5
          have hb : Below w7.heap.size w7 wl5 := by rw [← hW]; exact (by repeat (first | exact Below.refl _ _ | (refine Below.alloc ?_ (by simp <;> omega) _) | (refine Below.setCell ?_ (by simp <;> omega) _) | (refine Below.drew ?_) | (refine bel_drewN ?_ _)))
          obtain ⟨gP3, hg0⟩ : ∃ g, g = w7.heap.size := ⟨_, rfl⟩
          have bP3 : Bk wl5 gP3 #[.int .i64 p2, .int .i64 q2] 25 := by rw [← hW, hg0]; repeat (first | (refine Bk.new' ?_; (simp; done)) | refine Bk.alloc ?_ _)
          try rw [← hg0]
          clear hW hg0
          replace bT := bT.on hb
          replace bP1 := bP1.on hb
          replace bP2 := bP2.on hb
          replace bA := bA.on hb
          replace bB := bB.on hb
          replace HB := Lib.hid (bel_end HB.out hb)
          clear hb
          by_cases h0 : c2 = 0
          case neg =>
            have h1 : (c2 != 0) = true := by simpa using h0
            clear h0
            have bT_0 := bT.cell 0 rfl
            have bT_1 := bT.cell 1 rfl
            have bT_2 := bT.cell 2 rfl
            have bT_3 := bT.cell 3 rfl
            have bT_l := bT.lt
            have bP1_0 := bP1.cell 0 rfl
            have bP1_1 := bP1.cell 1 rfl
            have bP1_l := bP1.lt
            have bP2_0 := bP2.cell 0 rfl
            have bP2_1 := bP2.cell 1 rfl
            have bP2_l := bP2.lt
            have bA_0 := bA.cell 0 rfl
            have bA_1 := bA.cell 1 rfl
            have bA_2 := bA.cell 2 rfl
            have bA_3 := bA.cell 3 rfl
            have bA_l := bA.lt
            have bB_0 := bB.cell 0 rfl
            have bB_1 := bB.cell 1 rfl
            have bB_2 := bB.cell 2 rfl
            have bB_3 := bB.cell 3 rfl
            have bB_l := bB.lt
            have bP3_0 := bP3.cell 0 rfl
            have bP3_1 := bP3.cell 1 rfl
            have bP3_l := bP3.lt
            go_wp2
            go_ret
            exact ⟨rfl, HB.out⟩
          case pos =>
            obtain ⟨⟨f1, f2⟩, f3, f4⟩ := FQ.out h0
            have e1 : IntKind.wrap .i64 (p2 + s) = p := by rw [f1.symm]; exact IntWalk.i64_in _ (by omega)
            have e2 : IntKind.wrap .i64 (q2 + t) = q := by rw [f2.symm]; exact IntWalk.i64_in _ (by omega)
            subst h0
            clear f1 f2 f3 f4 FQ
            have bT_0 := bT.cell 0 rfl
            have bT_1 := bT.cell 1 rfl
            have bT_2 := bT.cell 2 rfl
            have bT_3 := bT.cell 3 rfl
            have bT_l := bT.lt
            have bP1_0 := bP1.cell 0 rfl
            have bP1_1 := bP1.cell 1 rfl
            have bP1_l := bP1.lt
            have bP2_0 := bP2.cell 0 rfl
            have bP2_1 := bP2.cell 1 rfl
            have bP2_l := bP2.lt
            have bA_0 := bA.cell 0 rfl
            have bA_1 := bA.cell 1 rfl
            have bA_2 := bA.cell 2 rfl
            have bA_3 := bA.cell 3 rfl
            have bA_l := bA.lt
            have bB_0 := bB.cell 0 rfl
            have bB_1 := bB.cell 1 rfl
            have bB_2 := bB.cell 2 rfl
            have bB_3 := bB.cell 3 rfl
            have bB_l := bB.lt
            have bP3_0 := bP3.cell 0 rfl
            have bP3_1 := bP3.cell 1 rfl
            have bP3_l := bP3.lt
            go_wp2
            go_ret
            exact ⟨rfl, HB.out⟩
end Go.Proofs.Ytkjpjhklnaehbaa
