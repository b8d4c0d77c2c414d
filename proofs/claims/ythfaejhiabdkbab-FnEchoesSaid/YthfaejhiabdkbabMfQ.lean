/- Contracts of peaks: marks of a trace, the first of them, the peak, the program's and the model's. -/
import Derived.Test.YthfaejhiabdkbabMfP
import Derived.Deep.QuietTactic
import Derived.BigQuiet
namespace Go.Proofs.Ythfaejhiabdkbab
open Go.ChangeShapes Go.WideShapes Go.ChangeAt Go.RowKit Go.Shelf Num
set_option linter.unusedVariables false
set_option linter.unusedSimpArgs false
/-- the marks of a trace in memory -/
def MkR (W : World) (g : Nat) (zs : List Int) : Prop := g < W.heap.size ∧ ∀ j, j < zs.length → W.cell? ⟨g, j * 2, none⟩ = some (.int .i64 (j : Int)) ∧ W.cell? ⟨g, j * 2 + 1, none⟩ = some (.int .i64 (zs.getD j 0))
theorem MkR.on {W W' : World} {g : Nat} {zs : List Int} (h : MkR W g zs) (hb : Below W.heap.size W W') : MkR W' g zs :=
  ⟨Nat.lt_of_lt_of_le h.1 hb.size, fun j hj => ⟨(hb.cell (p := ⟨g, j * 2, none⟩) h.1).trans (h.2 j hj).1, (hb.cell (p := ⟨g, j * 2 + 1, none⟩) h.1).trans (h.2 j hj).2⟩⟩
/-- a list of marks, of one's own -/
def MkL (w : World) (zs : List Int) (e : Ending) (w' : World) : Prop := ∃ g : Nat, e = .returned (.slice (some ⟨g, 0, none⟩) zs.length zs.length) ∧ MkR w' g zs ∧ w.heap.size ≤ g ∧ Below w.heap.size w w'
theorem info_mrk : (Try.prog.info? 69).map (fun i => (i.zero, i.size, i.bytes)) = some (some (.agg #[.int .i64 0, .int .i64 0]), 2, 16) := by kernel_rfl
set_option maxRecDepth 100000 in
set_option maxHeartbeats 2000000 in
theorem mko_any (w : World) (a : Option Addr) (cap : Nat) (zs : List Int) (hl : zs.length ≤ 1048576) (hz : Ints .i64 w w.heap.size a zs) :
    Calls Try.prog 70 #[.slice a zs.length cap] w (MkL w zs) := by
  have HZ := Lib.hid hz
  clear hz
  have hmk : ∀ w, (Instr.makeSlice 81 (.int .i64 (zs.length : Int)) (.int .i64 (zs.length : Int))).run Try.prog w = .ok (.slice (some ⟨w.heap.size, 0, none⟩) zs.length zs.length) (w.alloc (.cells (madeCells #[.int .i64 0, .int .i64 0] (zs.length * 2)) 69)) := fun w => by
    obtain ⟨i, hi, hz0, hs, hb⟩ := info_parts info_mrk
    have h := run_make (P := Try.prog) (w := w) 81 69 i _ Try.underlying81 hi hz0 .i64 .i64 (zs.length : Int) (zs.length : Int) (by omega) (Int.le_refl _) (by rw [hb]; omega) (by omega)
    simpa only [Int.toNat_natCast, hs, Value.cells] using h
  go_enter Try.func70, Try.ntmps70
  go_upto_region 2 with fail
  clear hmk
  obtain ⟨W, hW⟩ : ∃ X, X = w.alloc (.cells (madeCells #[.int .i64 0, .int .i64 0] (zs.length * 2)) 69) := ⟨_, rfl⟩
  obtain ⟨G, hG⟩ : ∃ G, w.heap.size = G := ⟨_, rfl⟩
  have hB0 : Bk W G (madeCells #[.int .i64 0, .int .i64 0] (zs.length * 2)) 69 := by rw [hW, ← hG]; exact Bk.new _ _ _
  have hW0 : Below w.heap.size w W := by rw [hW]; exact (by repeat (first | exact Below.refl _ _ | (refine Below.alloc ?_ (by simp <;> omega) _) | (refine Below.setCell ?_ (by simp <;> omega) _) | (refine Below.drew ?_) | (refine bel_drewN ?_ _)))
  have HGs := Lib.hid hG
  have HB0 := Lib.hid hB0
  have HW0 := Lib.hid hW0
  rw [← hW]
  rw [hG]
  clear hW hG hB0 hW0
  go_wp2_with fail
  go_loopw [11] (fun i wr => ∃ (k : Nat) (cs : Array Value), k ≤ zs.length ∧ i = .int .i64 k ∧ Bk wr G cs 69 ∧ Below w.heap.size w wr ∧ cs.size = zs.length * 2 ∧ ∀ j, j < k → cs[j * 2]? = some (.int .i64 (j : Int)) ∧ cs[j * 2 + 1]? = some (.int .i64 (zs.getD j 0))) (fun i _ => zs.length - (intOf i).toNat)
  case atStart => exact ⟨0, _, by omega, rfl, HB0.out, HW0.out, size_madeCells _ _, fun j hj => absurd hj (Nat.not_lt_zero _)⟩
  case round =>
    obtain ⟨k, cs, hk, rfl, hB, hw, hsz, hc⟩ := hrel
    rename_i wr
    have HC := Lib.hid hc
    have HW := Lib.hid hw
    clear hc hw HB0 HW0
    by_cases hlt : k < zs.length
    · obtain ⟨b1, o1, ra, -, hc1⟩ := (HZ.out.below HW.out).at_ hlt
      subst ra
      obtain ⟨x, hx⟩ : ∃ x, zs.getD k 0 = x := ⟨_, rfl⟩
      rw [hx] at hc1
      have HX := Lib.hid hx
      clear hx
      obtain ⟨u0, hu0⟩ : ∃ u, cs[k * 2]? = some u := ⟨_, Array.getElem?_eq_getElem (by omega)⟩
      obtain ⟨u1, hu1⟩ : ∃ u, cs[k * 2 + 1]? = some u := ⟨_, Array.getElem?_eq_getElem (by omega)⟩
      have c0 := hB.cell _ hu0
      have c1 := hB.cell _ hu1
      have f0 := hB.frozen (k * 2)
      have f1 := hB.frozen (k * 2 + 1)
      have H0 := Lib.hid ((hB.set (k * 2) (.int .i64 (k : Int)) rfl).set (k * 2 + 1) (.int .i64 x) rfl)
      have HS := Lib.hid hsz
      clear hu0 hu1 hB hsz
      go_wp2_with fail
      go_roundw
      case rel => exact ⟨k + 1, _, by omega, by go_num, H0.out, (HW.out.setCell (by have := HGs.out; simp; omega) _).setCell (by have := HGs.out; simp; omega) _, by simp [HS.out], fun j hj => by
        have hs := HS.out
        rcases Nat.lt_or_ge j k with h | h
        · obtain ⟨e0, e1⟩ := HC.out j h
          rw [Array.getElem?_setIfInBounds, Array.getElem?_setIfInBounds, Array.getElem?_setIfInBounds, Array.getElem?_setIfInBounds, if_neg (by omega), if_neg (by omega), if_neg (by omega), if_neg (by omega)]
          exact ⟨e0, e1⟩
        · obtain rfl : j = k := by omega
          rw [Array.getElem?_setIfInBounds, Array.getElem?_setIfInBounds, Array.getElem?_setIfInBounds, if_neg (by omega), if_pos rfl, if_pos (by omega), if_pos rfl, if_pos (by simp [hs]; omega), HX.out]
          exact ⟨rfl, rfl⟩⟩
      case measure => simp [intOf]; omega
    · obtain rfl : k = zs.length := by omega
      have HBk := Lib.hid hB
      clear hB hsz
      go_wp2
      go_ret
      exact ⟨G, rfl, ⟨HBk.out.lt, fun j hj => ⟨HBk.out.cell _ (HC.out j hj).1, HBk.out.cell _ (HC.out j hj).2⟩⟩, by have := HGs.out; omega, HW.out⟩
/-- the mark at the peak -/
def PkM (w : World) (zs : List Int) (e : Ending) (w' : World) : Prop := e = .returned (.agg #[.int .i64 ((pkV zs : Nat) : Int), .int .i64 (zs.getD (pkV zs) 0)]) ∧ Below w.heap.size w w'
set_option maxRecDepth 100000 in
set_option maxHeartbeats 2000000 in
theorem mnf_any (w : World) (g : Nat) (zs : List Int) (h0 : 0 < zs.length) (hl : zs.length ≤ 1048576) (hs : smlL 1000000000000 zs) (hm : MkR w g zs) :
    Calls Try.prog 69 #[.slice (some ⟨g, 0, none⟩) zs.length zs.length, .func (.func 71) #[] #[]] w (PkM w zs) := by
  have HM := Lib.hid hm
  have HS := Lib.hid hs
  have HE : Hid (pkV zs = pkT zs (zs.length - 1)) := Lib.hid rfl
  obtain ⟨m0, m1⟩ := hm.2 0 h0
  rw [Nat.zero_mul] at m0 m1
  rw [Nat.zero_add] at m1
  have hlt0 : g < w.heap.size := hm.1
  clear hm hs
  obtain ⟨x0, hx0⟩ : ∃ x, zs.getD 0 0 = x := ⟨_, rfl⟩
  rw [hx0] at m1
  have HX0 := Lib.hid hx0
  clear hx0
  go_enter Try.func69, Try.ntmps69
  go_upto_region 4 with fail
  obtain ⟨W, hW⟩ : ∃ X, X = (w.alloc (.cells #[.int .i64 0, .int .i64 0] 69)).alloc (.cells #[.int .i64 0, .int .i64 x0] 69) := ⟨_, rfl⟩
  obtain ⟨R, hR⟩ : ∃ R, w.heap.size = R := ⟨_, rfl⟩
  have hbR : Bk W R #[.int .i64 0, .int .i64 0] 69 := by rw [hW, ← hR]; exact (Bk.new' rfl).alloc _
  have hbM : Bk W (R + 1) #[.int .i64 0, .int .i64 x0] 69 := by rw [hW, ← hR]; exact Bk.new' (by simp)
  have hW0 : Below w.heap.size w W := by rw [hW]; exact (by repeat (first | exact Below.refl _ _ | (refine Below.alloc ?_ (by simp <;> omega) _) | (refine Below.setCell ?_ (by simp <;> omega) _) | (refine Below.drew ?_) | (refine bel_drewN ?_ _)))
  have HRs := Lib.hid hR
  have HBR := Lib.hid hbR
  have HBM := Lib.hid hbM
  have HW0 := Lib.hid hW0
  rw [← hW]
  rw [hR]
  clear hW hR hbR hbM hW0 m0 m1
  go_wp2_with fail
  go_loopw [6] (fun i wr => ∃ k : Nat, k + 1 ≤ zs.length ∧ i = .int .i64 ((k : Int) + 1) ∧ Bk wr R #[.int .i64 0, .int .i64 0] 69 ∧ Bk wr (R + 1) #[.int .i64 ((pkT zs k : Nat) : Int), .int .i64 (zs.getD (pkT zs k) 0)] 69 ∧ Below w.heap.size w wr) (fun i _ => zs.length - (intOf i).toNat)
  case atStart => exact ⟨0, by omega, rfl, HBR.out, by rw [show pkT zs 0 = 0 from rfl, HX0.out]; exact HBM.out, HW0.out⟩
  case round =>
    obtain ⟨k, hk, rfl, hbR, hbM, hw⟩ := hrel
    rename_i wr
    have HW := Lib.hid hw
    have HBR := Lib.hid hbR
    have HBM := Lib.hid hbM
    have hmm := HM.out.on (hw.mono (Nat.le_refl _))
    clear hw hbR HW0
    by_cases hlt : k + 1 < zs.length
    · obtain ⟨n0, n1⟩ := hmm.2 (k + 1) hlt
      have hT := fun h => pkT_t (zs := zs) (m := k) h
      have hF := fun h => pkT_f (zs := zs) (m := k) h
      have hple := pkT_le zs k
      obtain ⟨y1, y2⟩ := HS.out (k + 1)
      obtain ⟨z1, z2⟩ := HS.out (pkT zs k)
      have q0 := hbM.cell 0 rfl
      have q1 := hbM.cell 1 rfl
      obtain ⟨y, hy⟩ : ∃ y, zs.getD (k + 1) 0 = y := ⟨_, rfl⟩
      obtain ⟨p, hp⟩ : ∃ p, pkT zs k = p := ⟨_, rfl⟩
      rw [hp] at hple z1 z2 q1 q0 hT hF HBM
      obtain ⟨z, hz⟩ : ∃ z, zs.getD p 0 = z := ⟨_, rfl⟩
      rw [hy] at y1 y2 n1 hT hF
      rw [hz] at z1 z2 q1 hT hF HBM
      have HY := Lib.hid hy
      have HZ := Lib.hid hz
      have HT := Lib.hid hT
      have HF := Lib.hid hF
      clear hy hz hT hF hmm hbM hp
      have hk0 : (0 : Int) ≤ (k : Int) + 1 := by omega
      have hkn : ((k : Int) + 1).toNat = k + 1 := by omega
      go_wp2_with fail
      go_still_tail 6, (by kernel_rfl)
      go_wp2_with fail
      refine (sfi_any _ ((k : Int) + 1) y (p : Int) z (by omega) (by omega) (by omega) (by omega)).mono ?_
      rintro e w1 ⟨rfl, hb⟩
      have hbd : Below wr.heap.size wr w1 := (Below.refl _ _).drew.trans hb
      replace HBR := Lib.hid (HBR.out.on hbd)
      have hbM := HBM.out.on hbd
      replace HBM := Lib.hid hbM
      replace HW := Lib.hid (bel_end HW.out hbd)
      have hmm := HM.out.on (HW.out.mono (Nat.le_refl _))
      obtain ⟨n0, n1⟩ := hmm.2 (k + 1) hlt
      rw [HY.out] at n1
      have q0 := hbM.cell 0 rfl
      have q1 := hbM.cell 1 rfl
      have u0 := hbM.frozen 0
      have u1 := hbM.frozen 1
      have e9 : ((k + 1 : Nat) : Int) = (k : Int) + 1 := by omega
      have HE9 := Lib.hid e9
      clear hb hbd hmm hbM e9
      by_cases hc : (z.natAbs : Int) < (y.natAbs : Int)
      · have e1 := sfV_up (i1 := (k : Int) + 1) (i2 := (p : Int)) hc
        replace HT := Lib.hid (HT.out (by omega))
        rw [e1]
        clear e1 hc
        go_wp2_with fail
        go_roundw
        case rel => exact ⟨k + 1, by omega, by go_num, HBR.out.other (by omega) _ _ |>.other (by omega) _ _, by rw [HT.out, HY.out, HE9.out]; exact (HBM.out.set 0 _ rfl).set 1 _ rfl, (HW.out.setCell (by have := HRs.out; simp; omega) _).setCell (by have := HRs.out; simp; omega) _⟩
        case measure => simp [intOf]; omega
      · have e1 := sfV_late (i1 := (k : Int) + 1) (i2 := (p : Int)) hc (by omega)
        replace HF := Lib.hid (HF.out (by omega))
        rw [e1]
        clear e1 hc
        go_wp2_with fail
        go_roundw
        case rel => exact ⟨k + 1, by omega, by go_num, HBR.out, by rw [HF.out, HZ.out]; exact HBM.out, HW.out⟩
        case measure => simp [intOf]; omega
    · obtain rfl : k = zs.length - 1 := by omega
      obtain ⟨p, hp⟩ : ∃ p, pkT zs (zs.length - 1) = p := ⟨_, rfl⟩
      rw [hp] at HBM HE
      obtain ⟨z, hz⟩ : ∃ z, zs.getD p 0 = z := ⟨_, rfl⟩
      rw [hz] at HBM
      have HZ := Lib.hid hz
      have q0 := HBM.out.cell 0 rfl
      have q1 := HBM.out.cell 1 rfl
      have c0 := HBR.out.cell 0 rfl
      have c1 := HBR.out.cell 1 rfl
      have u0 := HBR.out.frozen 0
      have u1 := HBR.out.frozen 1
      clear hz hp hmm hbM
      go_wp2
      refine bodyPost_ret (v := .agg #[.int .i64 (p : Int), .int .i64 z]) (by simp [results, Try.results69, go_sem, c0, c1]) rfl ⟨?_, ?_⟩
      · rw [HE.out, HZ.out]
      · exact (HW.out.setCell (by have := HRs.out; simp; omega) _).setCell (by have := HRs.out; simp; omega) _
set_option maxHeartbeats 1000000 in
theorem ipo2_any (w : World) (a : Option Addr) (cap : Nat) (zs : List Int) (h0 : 0 < zs.length) (hl : zs.length ≤ 1048576) (hs : smlL 1000000000000 zs) (hz : Ints .i64 w w.heap.size a zs) :
    Calls Try.prog 56 #[.slice a zs.length cap] w (PkM w zs) := by
  have HZ := Lib.hid hz
  have HS := Lib.hid hs
  clear hz hs
  go_enter Try.func56, Try.ntmps56
  go_upto_region 1 with fail
  obtain ⟨W, hW⟩ : ∃ X, X = w.alloc (.cells #[.int .i64 0, .int .i64 0] 69) := ⟨_, rfl⟩
  obtain ⟨R, hR⟩ : ∃ R, w.heap.size = R := ⟨_, rfl⟩
  have hbR : Bk W R #[.int .i64 0, .int .i64 0] 69 := by rw [hW, ← hR]; exact Bk.new' rfl
  have hW0 : Below w.heap.size w W := by rw [hW]; exact (by repeat (first | exact Below.refl _ _ | (refine Below.alloc ?_ (by simp <;> omega) _) | (refine Below.setCell ?_ (by simp <;> omega) _) | (refine Below.drew ?_) | (refine bel_drewN ?_ _)))
  have HZ1 := Lib.hid ((HZ.out.below hW0).more hW0.size)
  have HRs := Lib.hid hR
  have HBR := Lib.hid hbR
  have HW := Lib.hid hW0
  rw [← hW]
  rw [hR]
  clear hW hR hbR hW0
  go_wp2_with fail
  refine (mko_any W a cap zs hl HZ1.out).mono ?_
  rintro e w1 ⟨g, rfl, hm, -, hb⟩
  have HM := Lib.hid hm
  replace HBR := Lib.hid (HBR.out.on hb)
  replace HW := Lib.hid (bel_end HW.out hb)
  clear hm hb
  go_wp2_with fail
  refine (mnf_any w1 g zs h0 hl HS.out HM.out).mono ?_
  rintro e w2 ⟨rfl, hb⟩
  replace HBR := Lib.hid (HBR.out.on hb)
  replace HW := Lib.hid (bel_end HW.out hb)
  clear hb
  obtain ⟨p, hp⟩ : ∃ p, pkV zs = p := ⟨_, rfl⟩
  obtain ⟨z, hz⟩ : ∃ z, zs.getD p 0 = z := ⟨_, rfl⟩
  have HP := Lib.hid hp
  have HZ := Lib.hid hz
  rw [hp, hz]
  clear hz hp
  have c0 := HBR.out.cell 0 rfl
  have c1 := HBR.out.cell 1 rfl
  have u0 := HBR.out.frozen 0
  have u1 := HBR.out.frozen 1
  go_wp2
  refine bodyPost_ret (v := .agg #[.int .i64 (p : Int), .int .i64 z]) (by simp [results, Try.results56, go_sem, c0, c1]) rfl ⟨?_, ?_⟩
  · rw [HP.out, HZ.out]
  · exact (HW.out.setCell (by have := HRs.out; simp; omega) _).setCell (by have := HRs.out; simp; omega) _
set_option maxRecDepth 100000 in
set_option maxHeartbeats 1000000 in
theorem lpk_any (w : World) (a : Option Addr) (cap : Nat) (zs : List Int) (h0 : 0 < zs.length) (hl : zs.length ≤ 1048576) (hs : smlL 1000000000000 zs) (hz : Ints .i64 w w.heap.size a zs) :
    Calls Try.prog 43 #[.slice a zs.length cap] w fun e w' => e = .returned (.int .i64 ((pkV zs : Nat) : Int)) ∧ Below w.heap.size w w' := by
  have HS := Lib.hid hs
  have HE : Hid (pkV zs = pkT zs (zs.length - 1)) := Lib.hid rfl
  have HZ := Lib.hid hz
  clear hs hz
  go_enter Try.func43, Try.ntmps43
  go_wp2
  go_loopw [3, 4] (fun s i wr => ∃ k : Nat, Below w.heap.size w wr ∧ k + 1 ≤ zs.length ∧ i = .int .i64 ((k : Int) + 1) ∧ s = .int .i64 ((pkT zs k : Nat) : Int)) (fun _ i _ => zs.length - (intOf i).toNat)
  case atStart => exact ⟨0, Below.refl _ _, by omega, rfl, rfl⟩
  case round =>
    obtain ⟨k, hB, hk, rfl, rfl⟩ := hrel
    rename_i wr
    have HB := Lib.hid hB
    clear hB
    have hple := pkT_le zs k
    by_cases hlt : k + 1 < zs.length
    · obtain ⟨b1, o1, ra, -, hc1⟩ := (HZ.out.below HB.out).at_ (j := k + 1) hlt
      obtain ⟨b2, o2, he, -, hc2⟩ := (HZ.out.below HB.out).at_ (j := pkT zs k) (by omega)
      subst ra
      simp only [Option.some.injEq, Addr.mk.injEq, and_true] at he
      obtain ⟨e1, e2⟩ := he
      subst e1 e2
      have hT := fun h => pkT_t (zs := zs) (m := k) h
      have hF := fun h => pkT_f (zs := zs) (m := k) h
      obtain ⟨y1, y2⟩ := HS.out (k + 1)
      obtain ⟨z1, z2⟩ := HS.out (pkT zs k)
      obtain ⟨y, hy⟩ : ∃ y, zs.getD (k + 1) 0 = y := ⟨_, rfl⟩
      obtain ⟨p, hp⟩ : ∃ p, pkT zs k = p := ⟨_, rfl⟩
      rw [hp] at hple z1 z2 hc2 hT hF ⊢
      obtain ⟨z, hz2⟩ : ∃ z, zs.getD p 0 = z := ⟨_, rfl⟩
      rw [hy] at y1 y2 hc1 hT hF
      rw [hz2] at z1 z2 hc2 hT hF
      have HT := Lib.hid hT
      have HF := Lib.hid hF
      have hk0 : (0 : Int) ≤ (k : Int) + 1 := by omega
      have hkn : ((k : Int) + 1).toNat = k + 1 := by omega
      have hpl : p < zs.length := by omega
      have e9 : ((k + 1 : Nat) : Int) = (k : Int) + 1 := by omega
      have HE9 := Lib.hid e9
      have K1 := Lib.hid (fun (n : Nat) => (lab_any y (by omega) (by omega) (wr.drewN n)))
      have K2 := Lib.hid (fun (n : Nat) => (lab_any z (by omega) (by omega) (wr.drewN n)))
      clear hy hz2 hT hF hp e9
      by_cases hc : (z.natAbs : Int) < (y.natAbs : Int)
      · replace HT := Lib.hid (HT.out hc)
        go_wp2_with fail
        go_quiet ((go_at_call 44; first | exact Calls.quiet_of_same ((K1.out _).mono fun _ _ h => ⟨h.1, h.2.symm⟩) | exact Calls.quiet_of_same ((K2.out _).mono fun _ _ h => ⟨h.1, h.2.symm⟩)))
        go_wp2_with fail
        go_roundw
        case rel => exact ⟨k + 1, bel_end HB.out (below_drewN (Below.refl _ _) _), by omega, by go_num, by rw [HT.out, HE9.out]⟩
        case measure => simp [intOf]; omega
      · replace HF := Lib.hid (HF.out hc)
        go_wp2_with fail
        go_quiet ((go_at_call 44; first | exact Calls.quiet_of_same ((K1.out _).mono fun _ _ h => ⟨h.1, h.2.symm⟩) | exact Calls.quiet_of_same ((K2.out _).mono fun _ _ h => ⟨h.1, h.2.symm⟩)))
        go_wp2_with fail
        go_roundw
        case rel => exact ⟨k + 1, bel_end HB.out (below_drewN (Below.refl _ _) _), by omega, by go_num, by rw [HF.out]⟩
        case measure => simp [intOf]; omega
    · obtain rfl : k = zs.length - 1 := by omega
      have HE2 : Hid (pkT zs (zs.length - 1) = pkV zs) := Lib.hid HE.out.symm
      rw [HE2.out]
      go_wp2
      go_ret
      exact ⟨rfl, HB.out⟩
theorem fld_mk (x y : Value) (w : World) : (Instr.field 69 (.agg #[x, y]) 0).run Try.prog w = .ok x w := by kernel_rfl
end Go.Proofs.Ythfaejhiabdkbab
