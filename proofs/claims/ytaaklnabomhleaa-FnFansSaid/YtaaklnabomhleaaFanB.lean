/- Contracts of the directions of a fan, the program's and the model's. -/
import Derived.Test.YtaaklnabomhleaaFanA
import Derived.Handy
import Derived.Outline
import Derived.LoopTactic
import Derived.Deep.AppendLies
import Derived.Laws.MakeOwn
namespace Go.Proofs.Ytaaklnabomhleaa
open Go.ChangeShapes Go.WideShapes Go.ChangeAt Go.RowKit Go.Shelf Num
set_option linter.unusedVariables false
set_option linter.unusedSimpArgs false

theorem info_drc : (Try.prog.info? 32).map (fun i => (i.zero, i.size, i.bytes)) = some (some (.agg #[.int .i64 0, .int .i64 0, .int .i64 0]), 3, 24) := by kernel_rfl
theorem info_partsD {e : TypeId} {Z : Value} {m by_ : Nat} (h : (Try.prog.info? e).map (fun i => (i.zero, i.size, i.bytes)) = some (some Z, m, by_)) : ∃ i, Try.prog.info? e = some i ∧ i.zero = some Z ∧ i.size = m ∧ i.bytes = by_ := by
  obtain ⟨i, hi, hz⟩ := Option.map_eq_some_iff.1 h
  simp only [Prod.mk.injEq] at hz
  exact ⟨i, hi, hz.1, hz.2.1, hz.2.2⟩
theorem run_make_d (n : Nat) (hn : n ≤ 1000) (w : World) :
    (Instr.makeSlice 23 (.int .i64 0) (.int .i64 (n : Int))).run Try.prog w = .ok (.slice (some ⟨w.heap.size, 0, none⟩) 0 n) (w.alloc (.cells (madeCells #[.int .i64 0, .int .i64 0, .int .i64 0] (n * 3)) 32)) := by
  obtain ⟨i, hi, hz, hs, hb⟩ := info_partsD info_drc
  have h := run_make (P := Try.prog) (w := w) 23 32 i _ Try.underlying23 hi hz .i64 .i64 0 (n : Int) (Int.le_refl _) (by omega) (by rw [hb]; omega) (by omega)
  simpa only [Int.toNat_natCast, Int.toNat_zero, hs, Value.cells] using h
/-- the directions of a fan -/
def dirJ (n lo : Int) (d : Bool) (j : Nat) : Int × Int × Int := ((mdT (lo + (j : Int)) n d).1, (mdT (lo + (j : Int)) n d).2.1, (mdT (lo + (j : Int)) n d).2.2.1)
def fanK (n lo : Int) (d : Bool) (N : Nat) : List (Int × Int × Int) := (List.range N).map (dirJ n lo d)
theorem fanK_succ (n lo : Int) (d : Bool) (N : Nat) : fanK n lo d (N + 1) = fanK n lo d N ++ [dirJ n lo d N] := by simp [fanK, List.range_succ]
theorem fanK_len (n lo : Int) (d : Bool) (N : Nat) : (fanK n lo d N).length = N := by simp [fanK]
def fanL (n lo hi : Int) (d : Bool) : List (Int × Int × Int) := if fanB n lo hi then fanK n lo d (hi - lo + 1).toNat else []
def fanC (n lo hi : Int) : Int := if fanB n lo hi then 0 else 1
theorem fanL_len (n lo hi : Int) (d : Bool) : (fanL n lo hi d).length ≤ 1000 := by
  unfold fanL
  split
  · rename_i h
    obtain ⟨h1, h2, h3, h4, -⟩ := fanB_t h
    rw [fanK_len]
    omega
  · simp
theorem flD_row (n lo : Int) (d : Bool) (k : Nat) {p q r z : Int} (h : mdT (lo + (k : Int)) n d = (p, q, r, z)) : (flD (fanK n lo d k)).map iv4 ++ [.int .i64 p, .int .i64 q, .int .i64 r] = (flD (fanK n lo d (k + 1))).map iv4 := by
  rw [fanK_succ, flD_snoc, List.map_append]
  unfold dirJ
  rw [h]
  rfl

set_option maxRecDepth 100000 in
set_option maxHeartbeats 4000000 in
theorem sfn_any (n lo hi : Int) (d : Bool) (h1 : 1 ≤ lo) (h2 : lo ≤ hi) (h3 : hi ≤ 1000) (w : World) :
    Calls Try.prog 74 #[.int .i64 n, .int .i64 lo, .int .i64 hi, .bool d] w fun e w' => ∃ (g c' : Nat), e = .returned (.slice (some ⟨g, 0, none⟩) (hi - lo + 1).toNat c') ∧ OwnD w' w.heap.size w'.heap.size (some ⟨g, 0, none⟩) c' (fanK n lo d (hi - lo + 1).toNat) ∧ Below w.heap.size w w' := by
  obtain ⟨N, hN⟩ : ∃ N : Nat, hi = lo + (N : Int) - 1 ∧ 1 ≤ N ∧ N ≤ 1000 := ⟨(hi - lo + 1).toNat, by omega, by omega, by omega⟩
  obtain ⟨rfl, n1, n2⟩ := hN
  have eN : (lo + (N : Int) - 1 - lo + 1).toNat = N := by omega
  rw [eN]
  clear eN
  obtain ⟨j0, hj0, hy0, hy1, hy2⟩ := info_partsD info_drc
  have K : Hid (∀ (j : Nat) (W : World), Calls Try.prog 127 #[.int .i64 (lo + (j : Int)), .int .i64 n, .bool d] W fun e w' => e = .returned (.tuple #[.agg #[.int .i64 (mdT (lo + (j : Int)) n d).1, .int .i64 (mdT (lo + (j : Int)) n d).2.1, .int .i64 (mdT (lo + (j : Int)) n d).2.2.1], .int .i64 (mdT (lo + (j : Int)) n d).2.2.2]) ∧ Below W.heap.size W w') := Lib.hid (fun j W => smd_any _ _ _ W)
  go_enter Try.func74, Try.ntmps74
  go_upto_region 2 with fail
  generalize hW : World.alloc _ _ = W
  have bR : Bk W w.heap.size #[] 32 := by rw [← hW]; exact Bk.new' rfl
  have hb : Below w.heap.size w W := by rw [← hW]; exact (by repeat (first | exact Below.refl _ _ | (refine Below.alloc ?_ (by simp <;> omega) _) | (refine Below.setCell ?_ (by simp <;> omega) _) | (refine Below.drew ?_) | (refine bel_drewN ?_ _)))
  have HR0 := Lib.hid (RowG.lit (w1 := w) (m := 3) bR (Nat.le_refl _) hb)
  have HB := Lib.hid hb
  clear hW bR hb
  go_wp2_with fail
  go_loopw [9, 10] (fun v x wr => ∃ (k ge ce : Nat), v = .slice (some ⟨ge, 0, none⟩) k ce ∧ x = .int .i64 (lo + (k : Int)) ∧ k ≤ N ∧ RowG w 32 3 ge ce k ((flD (fanK n lo d k)).map iv4) wr) (fun _ x _ => (lo + (N : Int) - intOf x).toNat)
  case atStart => exact ⟨0, w.heap.size, 0, rfl, by simp, by omega, HR0.out⟩
  case round =>
    obtain ⟨k, ge, ce, rfl, rfl, hk, hR⟩ := hrel
    have HR := Lib.hid hR
    clear hR HR0
    by_cases hkN : k < N
    case neg =>
      obtain rfl : k = N := by omega
      have hle : ¬ lo + (k : Int) ≤ lo + (k : Int) - 1 := by omega
      have HA := Lib.hid (HR.out.ownD (lo := w.heap.size) (fanK_len ..) (Nat.le_refl _))
      have HBW := Lib.hid (HR.out.bel)
      clear HR
      go_wp2
      go_ret
      exact ⟨ge, ce, rfl, HA.out, HBW.out⟩
    case pos =>
      have hle : lo + (k : Int) ≤ lo + (N : Int) - 1 := by omega
      have ewk : IntKind.wrap .i64 (lo + (k : Int) + 1) = lo + ((k + 1 : Nat) : Int) := by rw [show lo + (k : Int) + 1 = lo + ((k + 1 : Nat) : Int) by omega]; exact IntWalk.i64_in _ (by omega)
      obtain ⟨⟨p, q, r, z⟩, hT⟩ : ∃ T, mdT (lo + (k : Int)) n d = T := ⟨_, rfl⟩
      have KK := Lib.hid (K.out k)
      rw [hT] at KK
      have HRW := Lib.hid (flD_row n lo d k hT)
      clear hT
      go_wp2_with fail
      refine (KK.out _).mono ?_
      rintro e w2 ⟨rfl, hb⟩
      replace HR := Lib.hid (HR.out.on hb)
      clear hb KK
      go_upto_region 6 with fail
      obtain ⟨W4, hW⟩ : ∃ W, W = w2.alloc (.cells #[.int .i64 p, .int .i64 q, .int .i64 r] 32) := ⟨_, rfl⟩
      try rw [← hW]
      have bN : Bk W4 w2.heap.size #[.int .i64 p, .int .i64 q, .int .i64 r] 32 := by rw [hW]; exact Bk.new' rfl
      have hb : Below w2.heap.size w2 W4 := by rw [hW]; exact (Below.refl _ _).alloc (Nat.le_refl _) _
      replace HR := Lib.hid (HR.out.on hb)
      clear hW hb
      have bN_0 := bN.cell 0 rfl
      have bN_1 := bN.cell 1 rfl
      have bN_2 := bN.cell 2 rfl
      go_wp2_with (at_builtin; refine wpList_append_lies _ rfl _ _ 23 rfl w.heap.size 32 j0 (.agg #[.int .i64 0, .int .i64 0, .int .i64 0]) 3 24 Try.underlying23 hj0 hy0 hy1 hy2 rfl (by decide) (.slice (some ⟨ge, 0, none⟩) k ce) k ((flD (fanK n lo d k)).map iv4) rfl (HR.out.own.alloc _) ⟨W4.heap.size, 0, none⟩ 1 1 [.int .i64 p, .int .i64 q, .int .i64 r] rfl rfl (World.news_of_block (cs := #[.int .i64 p, .int .i64 q, .int .i64 r]) (t := 32) (fr := (0, 0)) (heap_alloc_new W4 _)) (by simp [Value.oneCell']) (by decide) (by unfold maxLen; omega) (by omega) (by simp; exact Nat.le_succ_of_le HR.out.bel.size) (W4.heap.size + 1) (by simp) ?_; intro g2 cp2 w9 hown hgrow hat hlt9; have HR9 := Lib.hid ((HR.out.on ((Below.refl _ _).alloc (Nat.le_refl _) _)).snoc hown hgrow); clear hown hgrow hat hlt9)
      rw [HRW.out] at HR9
      go_roundw
      (case rel => exact ⟨k + 1, g2, cp2, rfl, by first | rfl | (rw [ewk]; done) | go_num, by omega, HR9.out⟩)
      (case measure => simp [intOf]; omega)

set_option maxRecDepth 100000 in
set_option maxHeartbeats 4000000 in
theorem fdr_any (n lo hi : Int) (d : Bool) (h1 : 1 ≤ lo) (h2 : lo ≤ hi) (h3 : hi ≤ 1000) (w : World) :
    Calls Try.prog 75 #[.agg #[.int .i64 n, .int .i64 lo, .int .i64 hi, .bool d]] w fun e w' => ∃ (g c' : Nat), e = .returned (.slice (some ⟨g, 0, none⟩) (hi - lo + 1).toNat c') ∧ OwnD w' w.heap.size w'.heap.size (some ⟨g, 0, none⟩) c' (fanK n lo d (hi - lo + 1).toNat) ∧ Below w.heap.size w w' := by
  obtain ⟨N, hN⟩ : ∃ N : Nat, hi = lo + (N : Int) - 1 ∧ 1 ≤ N ∧ N ≤ 1000 := ⟨(hi - lo + 1).toNat, by omega, by omega, by omega⟩
  obtain ⟨rfl, n1, n2⟩ := hN
  have eN : (lo + (N : Int) - 1 - lo + 1).toNat = N := by omega
  rw [eN]
  clear eN
  obtain ⟨j0, hj0, hy0, hy1, hy2⟩ := info_partsD info_drc
  have hmk := run_make_d N n2
  have e1 : IntKind.wrap .i64 (lo + (N : Int) - 1 - lo) = (N : Int) - 1 := by rw [show lo + (N : Int) - 1 - lo = (N : Int) - 1 by omega]; exact IntWalk.i64_in _ (by omega)
  have e2 : IntKind.wrap .i64 ((N : Int) - 1 + 1) = (N : Int) := by rw [show (N : Int) - 1 + 1 = (N : Int) by omega]; exact IntWalk.i64_in _ (by omega)
  have K : Hid (∀ (j : Nat) (W : World), Calls Try.prog 73 #[.int .i64 (lo + (j : Int)), .int .i64 n, .bool d] W fun e w' => e = .returned (.tuple #[.agg #[.int .i64 (mdT (lo + (j : Int)) n d).1, .int .i64 (mdT (lo + (j : Int)) n d).2.1, .int .i64 (mdT (lo + (j : Int)) n d).2.2.1], .int .i64 (mdT (lo + (j : Int)) n d).2.2.2]) ∧ Below W.heap.size W w') := Lib.hid (fun j W => imd_any _ _ _ W)
  go_enter Try.func75, Try.ntmps75
  go_upto_region 1 with fail
  generalize hW : World.alloc _ _ = W
  have bX : Bk W w.heap.size #[.int .i64 n, .int .i64 lo, .int .i64 (lo + (N : Int) - 1), .bool d] 98 := by rw [← hW]; exact Bk.new' rfl
  have HB : Hid (Below w.heap.size w W) := Lib.hid (by rw [← hW]; exact (by repeat (first | exact Below.refl _ _ | (refine Below.alloc ?_ (by simp <;> omega) _) | (refine Below.setCell ?_ (by simp <;> omega) _) | (refine Below.drew ?_) | (refine bel_drewN ?_ _))))
  clear hW
  have bX_0 := bX.cell 0 rfl
  have bX_1 := bX.cell 1 rfl
  have bX_2 := bX.cell 2 rfl
  have bX_3 := bX.cell 3 rfl
  have bX_l := bX.lt
  go_upto_region 2 with fail
  clear bX_0 bX_1 bX_2 bX_3 bX_l
  generalize hW : World.alloc _ _ = W2
  have bR : Bk W2 W.heap.size (madeCells #[.int .i64 0, .int .i64 0, .int .i64 0] (N * 3)) 32 := by rw [← hW]; exact Bk.new' rfl
  have hb : Below W.heap.size W W2 := by rw [← hW]; exact (by repeat (first | exact Below.refl _ _ | (refine Below.alloc ?_ (by simp <;> omega) _) | (refine Below.setCell ?_ (by simp <;> omega) _) | (refine Below.drew ?_) | (refine bel_drewN ?_ _)))
  have HR0 := Lib.hid (RowG.made (w1 := W) (m := 3) (c := N) (Z := #[.int .i64 0, .int .i64 0, .int .i64 0]) bR (Nat.le_refl _) (by unfold maxLen; omega) hb)
  have hXlt := Lib.hid bX.lt
  have HX1 := Lib.hid (bX.on hb)
  clear hW bR hb hmk e1 e2 bX
  have bX := HX1.out
  have bX_0 := bX.cell 0 rfl
  have bX_1 := bX.cell 1 rfl
  have bX_2 := bX.cell 2 rfl
  have bX_3 := bX.cell 3 rfl
  have bX_l := bX.lt
  go_wp2_with fail
  clear bX_0 bX_1 bX_2 bX_3 bX_l
  clear bX
  go_loopw [3, 4] (fun v x wr => ∃ (k ge ce : Nat), v = .slice (some ⟨ge, 0, none⟩) k ce ∧ x = .int .i64 (lo + (k : Int)) ∧ k ≤ N ∧ RowG W 32 3 ge ce k ((flD (fanK n lo d k)).map iv4) wr ∧ Bk wr w.heap.size #[.int .i64 n, .int .i64 lo, .int .i64 (lo + (N : Int) - 1), .bool d] 98) (fun _ x _ => (lo + (N : Int) - intOf x).toNat)
  case atStart => exact ⟨0, W.heap.size, N, rfl, by simp, by omega, HR0.out, HX1.out⟩
  case round =>
    obtain ⟨k, ge, ce, rfl, rfl, hk, hR, bX⟩ := hrel
    have HR := Lib.hid hR
    clear hR HR0 HX1
    have bX_0 := bX.cell 0 rfl
    have bX_1 := bX.cell 1 rfl
    have bX_2 := bX.cell 2 rfl
    have bX_3 := bX.cell 3 rfl
    have bX_l := bX.lt
    by_cases hkN : k < N
    case neg =>
      obtain rfl : k = N := by omega
      have hle : ¬ lo + (k : Int) ≤ lo + (k : Int) - 1 := by omega
      have HA := Lib.hid (HR.out.ownD (lo := w.heap.size) (fanK_len ..) HB.out.size)
      have HBW := Lib.hid (bel_end HB.out HR.out.bel)
      clear HR
      go_wp2
      go_ret
      exact ⟨ge, ce, rfl, HA.out, HBW.out⟩
    case pos =>
      have hle : lo + (k : Int) ≤ lo + (N : Int) - 1 := by omega
      have ewk : IntKind.wrap .i64 (lo + (k : Int) + 1) = lo + ((k + 1 : Nat) : Int) := by rw [show lo + (k : Int) + 1 = lo + ((k + 1 : Nat) : Int) by omega]; exact IntWalk.i64_in _ (by omega)
      obtain ⟨⟨p, q, r, z⟩, hT⟩ : ∃ T, mdT (lo + (k : Int)) n d = T := ⟨_, rfl⟩
      have KK := Lib.hid (K.out k)
      rw [hT] at KK
      have HRW := Lib.hid (flD_row n lo d k hT)
      clear hT
      go_wp2_with fail
      refine (KK.out _).mono ?_
      rintro e w2 ⟨rfl, hb⟩
      replace HR := Lib.hid (HR.out.on hb)
      clear bX_0 bX_1 bX_2 bX_3 bX_l
      replace bX := bX.on hb
      clear hb KK
      go_upto_region 6 with fail
      obtain ⟨W4, hW⟩ : ∃ W, W = w2.alloc (.cells #[.int .i64 p, .int .i64 q, .int .i64 r] 32) := ⟨_, rfl⟩
      try rw [← hW]
      have bN : Bk W4 w2.heap.size #[.int .i64 p, .int .i64 q, .int .i64 r] 32 := by rw [hW]; exact Bk.new' rfl
      have hb : Below w2.heap.size w2 W4 := by rw [hW]; exact (Below.refl _ _).alloc (Nat.le_refl _) _
      replace HR := Lib.hid (HR.out.on hb)
      replace bX := bX.on hb
      clear hW hb
      have bN_0 := bN.cell 0 rfl
      have bN_1 := bN.cell 1 rfl
      have bN_2 := bN.cell 2 rfl
      have HXx := Lib.hid bX
      have hgeX := HR.out.lo
      have hXl : w.heap.size < W.heap.size := hXlt.out
      go_wp2_with (at_builtin; refine wpList_append_lies _ rfl _ _ 23 rfl W.heap.size 32 j0 (.agg #[.int .i64 0, .int .i64 0, .int .i64 0]) 3 24 Try.underlying23 hj0 hy0 hy1 hy2 rfl (by decide) (.slice (some ⟨ge, 0, none⟩) k ce) k ((flD (fanK n lo d k)).map iv4) rfl (HR.out.own.alloc _) ⟨W4.heap.size, 0, none⟩ 1 1 [.int .i64 p, .int .i64 q, .int .i64 r] rfl rfl (World.news_of_block (cs := #[.int .i64 p, .int .i64 q, .int .i64 r]) (t := 32) (fr := (0, 0)) (heap_alloc_new W4 _)) (by simp [Value.oneCell']) (by decide) (by unfold maxLen; omega) (by omega) (by simp; exact Nat.le_succ_of_le HR.out.bel.size) (W4.heap.size + 1) (by simp) ?_; intro g2 cp2 w9 hown hgrow hat hlt9; have HR9 := Lib.hid ((HR.out.on ((Below.refl _ _).alloc (Nat.le_refl _) _)).snoc hown hgrow); have HX9 := Lib.hid ((HXx.out.alloc _).kept hgrow (fun e => absurd (Option.some.inj e) (show ¬ w.heap.size = ge by omega))); clear hown hgrow hat hlt9)
      rw [HRW.out] at HR9
      go_roundw
      (case rel => exact ⟨k + 1, g2, cp2, rfl, by first | rfl | (rw [ewk]; done) | go_num, by omega, HR9.out, HX9.out⟩)
      (case measure => simp [intOf]; omega)

set_option maxRecDepth 100000 in
set_option maxHeartbeats 2000000 in
theorem sfo_any (n lo hi : Int) (d : Bool) (w : World) :
    Calls Try.prog 19 #[.int .i64 n, .int .i64 lo, .int .i64 hi, .bool d] w fun e w' => ∃ (a' : Option Addr) (c' : Nat), e = .returned (.tuple #[.slice a' (fanL n lo hi d).length c', .int .i64 (fanC n lo hi)]) ∧ OwnD w' w.heap.size w'.heap.size a' c' (fanL n lo hi d) ∧ Below w.heap.size w w' := by
  have K : Hid (∀ W : World, Calls Try.prog 17 #[.int .i64 n, .int .i64 lo, .int .i64 hi] W fun e w' => e = .returned (.bool (fanB n lo hi)) ∧ Below W.heap.size W w') := Lib.hid (fun W => sisf_any n lo hi W)
  cases hF : fanB n lo hi
  case false =>
    have H1 : Hid (fanL n lo hi d = []) := Lib.hid (by unfold fanL; rw [hF]; rfl)
    have H2 : Hid (fanC n lo hi = 1) := Lib.hid (by unfold fanC; rw [hF]; rfl)
    rw [hF] at K
    clear hF
    go_enter Try.func19, Try.ntmps19
    go_wp2_with fail
    refine (K.out _).mono ?_
    rintro e w1 ⟨rfl, hb⟩
    have HB := Lib.hid hb
    clear hb
    go_wp2
    go_ret2
    exact ⟨none, 0, by rw [H1.out, H2.out]; rfl, by rw [H1.out]; exact OwnD.none _ _ HB.out.size, HB.out⟩
  case true =>
    obtain ⟨g1, g2, g3, g4, -⟩ := fanB_t hF
    have H1 : Hid (fanL n lo hi d = fanK n lo d (hi - lo + 1).toNat) := Lib.hid (by unfold fanL; rw [hF]; rfl)
    have H2 : Hid (fanC n lo hi = 0) := Lib.hid (by unfold fanC; rw [hF]; rfl)
    rw [hF] at K
    clear hF
    have KF := Lib.hid (fun W => sfn_any n lo hi d g1 g2 (by omega) W)
    go_enter Try.func19, Try.ntmps19
    go_wp2_with fail
    refine (K.out _).mono ?_
    rintro e w1 ⟨rfl, hb⟩
    have HB := Lib.hid hb
    clear hb
    go_wp2_with fail
    refine (KF.out _).mono ?_
    rintro e w2 ⟨g, c', rfl, hs, hb⟩
    have HS := Lib.hid (hs.less HB.out.size)
    replace HB := Lib.hid (bel_end HB.out hb)
    clear hs hb
    go_wp2
    go_ret2
    exact ⟨some ⟨g, 0, none⟩, c', by rw [H1.out, H2.out, fanK_len]; rfl, by rw [H1.out]; exact HS.out, HB.out⟩

set_option maxRecDepth 100000 in
set_option maxHeartbeats 2000000 in
theorem ifo_any (n lo hi : Int) (d : Bool) (w : World) :
    Calls Try.prog 20 #[.int .i64 n, .int .i64 lo, .int .i64 hi, .bool d] w fun e w' => ∃ (a' : Option Addr) (c' : Nat), e = .returned (.tuple #[.slice a' (fanL n lo hi d).length c', .int .i64 (fanC n lo hi)]) ∧ OwnD w' w.heap.size w'.heap.size a' c' (fanL n lo hi d) ∧ Below w.heap.size w w' := by
  have K : Hid (∀ W : World, Calls Try.prog 18 #[.int .i64 n, .int .i64 lo, .int .i64 hi] W fun e w' => e = .returned (.bool (fanB n lo hi)) ∧ Below W.heap.size W w') := Lib.hid (fun W => isf_any n lo hi W)
  cases hF : fanB n lo hi
  case false =>
    have H1 : Hid (fanL n lo hi d = []) := Lib.hid (by unfold fanL; rw [hF]; rfl)
    have H2 : Hid (fanC n lo hi = 1) := Lib.hid (by unfold fanC; rw [hF]; rfl)
    rw [hF] at K
    clear hF
    go_enter Try.func20, Try.ntmps20
    go_wp2_with fail
    refine (K.out _).mono ?_
    rintro e w1 ⟨rfl, hb⟩
    have HB := Lib.hid hb
    clear hb
    go_wp2
    go_ret2
    exact ⟨none, 0, by rw [H1.out, H2.out]; rfl, by rw [H1.out]; exact OwnD.none _ _ HB.out.size, HB.out⟩
  case true =>
    obtain ⟨g1, g2, g3, g4, -⟩ := fanB_t hF
    have H1 : Hid (fanL n lo hi d = fanK n lo d (hi - lo + 1).toNat) := Lib.hid (by unfold fanL; rw [hF]; rfl)
    have H2 : Hid (fanC n lo hi = 0) := Lib.hid (by unfold fanC; rw [hF]; rfl)
    rw [hF] at K
    clear hF
    have KF := Lib.hid (fun W => fdr_any n lo hi d g1 g2 (by omega) W)
    go_enter Try.func20, Try.ntmps20
    go_wp2_with fail
    refine (K.out _).mono ?_
    rintro e w1 ⟨rfl, hb⟩
    have HB := Lib.hid hb
    clear hb
    go_wp2_with fail
    refine (KF.out _).mono ?_
    rintro e w2 ⟨g, c', rfl, hs, hb⟩
    have HS := Lib.hid (hs.less HB.out.size)
    replace HB := Lib.hid (bel_end HB.out hb)
    clear hs hb
    go_wp2
    go_ret2
    exact ⟨some ⟨g, 0, none⟩, c', by rw [H1.out, H2.out, fanK_len]; rfl, by rw [H1.out]; exact HS.out, HB.out⟩
end Go.Proofs.Ytaaklnabomhleaa
