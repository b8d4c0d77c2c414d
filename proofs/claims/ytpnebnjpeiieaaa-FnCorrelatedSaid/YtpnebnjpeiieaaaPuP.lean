/- Contracts of pulses of bits, the program's and the model's. -/
import Derived.Test.YtpnebnjpeiieaaaPuL
namespace Go.Proofs.Ytpnebnjpeiieaaa
open Go.ChangeShapes Go.WideShapes Go.ChangeAt Go.RowKit Go.Shelf Num
set_option linter.unusedVariables false
set_option linter.unusedSimpArgs false
theorem run_make_c (n : Nat) (hn : n ≤ 1000) (w : World) :
    (Instr.makeSlice 24 (.int .i64 0) (.int .i64 (n : Int))).run Try.prog w = .ok (.slice (some ⟨w.heap.size, 0, none⟩) 0 n) (w.alloc (.cells (madeCells #[.int .i64 0] n) 2)) := by
  obtain ⟨i, hi, hz, hs, hb⟩ := info_parts info_i64
  have h := run_make (P := Try.prog) (w := w) 24 2 i _ Try.underlying24 hi hz .i64 .i64 0 (n : Int) (Int.le_refl _) (by omega) (by rw [hb]; omega) (by omega)
  simpa only [Int.toNat_natCast, Int.toNat_zero, hs, Value.cells, Nat.mul_one] using h
/-- bits -/
def bitL (bs : List Int) : Prop := ∀ i, i < bs.length → bs.getD i 0 = 0 ∨ bs.getD i 0 = 1
theorem bitL_of {bs : List Int} (h : anyLack 0 1 bs = false) : bitL bs := fun i hi => by
  have := anyLack_all h hi
  omega

set_option maxRecDepth 100000 in
set_option maxHeartbeats 4000000 in
theorem ipo_any (w : World) (a : Option Addr) (cap : Nat) (bs : List Int) (wd : Nat) (am : Int) (hP : bs.length * wd ≤ 400) (hl : bs.length ≤ 400) (hw4 : wd ≤ 400) (ha : 1 ≤ am) (ha2 : am ≤ 1000) (hbit : bitL bs) (hz : Ints .i64 w w.heap.size a bs) :
    Calls Try.prog 53 #[.slice a bs.length cap, .int .i64 (wd : Int), .int .i64 am] w fun e w' => ∃ (g c' : Nat), e = .returned (.slice (some ⟨g, 0, none⟩) (bs.length * wd) c') ∧ OwnA w' w.heap.size w'.heap.size (some ⟨g, 0, none⟩) c' (pulK bs wd am bs.length) ∧ Below w.heap.size w w' := by
  obtain ⟨i0, hi, hz0, hz1, hz2⟩ := info_parts info_i64
  have HZ := Lib.hid hz
  have HBT := Lib.hid hbit
  clear hz hbit
  obtain ⟨P, hPe⟩ : ∃ P : Nat, bs.length * wd = P := ⟨_, rfl⟩
  have hPi : (bs.length : Int) * (wd : Int) = (P : Int) := by rw [← hPe, Int.natCast_mul]
  have HPE := Lib.hid hPe
  rw [hPe] at hP
  clear hPe
  have hPw : IntKind.wrap .i64 (P : Int) = (P : Int) := IntWalk.i64_in _ (by omega)
  have hmk := run_make_c P (by omega)
  go_enter Try.func53, Try.ntmps53
  go_upto_region 2 with fail
  clear hPi hPw hmk
  have HR0 : Hid (RowG w 2 1 w.heap.size P 0 ([] : List Value) (w.alloc (.cells (madeCells #[.int .i64 0] P) 2))) := Lib.hid (RowG.made (w1 := w) (m := 1) (c := P) (Z := #[.int .i64 0]) (by rw [Nat.mul_one]; exact Bk.new' rfl) (Nat.le_refl _) (by unfold maxLen; omega) ((Below.refl _ _).alloc (Nat.le_refl _) _))
  go_wp2_with fail
  go_loopw [7, 18] (fun v x wr => ∃ (i ge ce : Nat), i ≤ bs.length ∧ v = .slice (some ⟨ge, 0, none⟩) (i * wd) ce ∧ x = .int .i64 (i : Int) ∧ RowG w 2 1 ge ce (i * wd) ((pulK bs wd am i).map iv4) wr) (fun _ x _ => bs.length - (intOf x).toNat)
  case atStart => exact ⟨0, w.heap.size, P, by omega, by rw [Nat.zero_mul], rfl, by rw [Nat.zero_mul]; exact HR0.out⟩
  case round =>
    obtain ⟨i, ge, ce, hi2, rfl, rfl, hR⟩ := hrel
    rename_i wr
    have HR := Lib.hid hR
    clear hR HR0
    by_cases hlt : i < bs.length
    case neg =>
      obtain rfl : i = bs.length := by omega
      have HA := Lib.hid (ownA_row HR.out (pulK_len _ _ (Nat.le_refl _)) (Nat.le_refl _))
      have HB := Lib.hid HR.out.bel
      clear HR
      go_wp2
      go_ret
      exact ⟨ge, ce, rfl, HA.out, HB.out⟩
    case pos =>
      have hN : i * wd + wd ≤ P := by
        have := Nat.mul_le_mul_right wd (show i + 1 ≤ bs.length by omega)
        rw [Nat.succ_mul, HPE.out] at this
        exact this
      have hb2 := HBT.out i hlt
      obtain ⟨b1, o1, ra, hB1, hc1⟩ := (HZ.out.below HR.out.bel).at_ hlt
      subst ra
      have hJ0 := pulJ_0 bs wd am i
      have HJE := Lib.hid (pulJ_end (bs := bs) (i := i) wd am hlt)
      have HJS := Lib.hid (fun j => pulJ_succ bs wd am i j)
      rw [← hJ0] at HR
      clear hJ0
      obtain ⟨x, hx⟩ : ∃ x, bs.getD i 0 = x := ⟨_, rfl⟩
      rw [hx] at hb2 hc1 HJS
      clear hx
      obtain ⟨N, hNe⟩ : ∃ N, i * wd = N := ⟨_, rfl⟩
      have HNE := Lib.hid hNe
      rw [hNe] at hN HR ⊢
      clear hNe
      rcases hb2 with rfl | rfl
      case inl =>
        have hsm := smp_0 am
        rw [hsm] at HJS
        have hx0 : ((0 : Int) == 0) = true := rfl
        clear hsm
        go_wp2_with fail
        go_loopw [7, 28] (fun v x wr => ∃ (j ge ce : Nat), j ≤ wd ∧ v = .slice (some ⟨ge, 0, none⟩) (N + j) ce ∧ x = .int .i64 (j : Int) ∧ RowG w 2 1 ge ce (N + j) ((pulJ bs wd am i j).map iv4) wr) (fun _ x _ => wd - (intOf x).toNat)
        case atStart => exact ⟨0, ge, ce, by omega, rfl, rfl, HR.out⟩
        case round =>
          obtain ⟨j, ge, ce, hj2, rfl, rfl, hR⟩ := hrel
          rename_i wr
          replace HR := Lib.hid hR
          clear hR
          by_cases hlj : j < wd
          · have HSN : Hid ((pulJ bs wd am i j).map iv4 ++ [.int .i64 (-am)] = (pulJ bs wd am i (j + 1)).map iv4) := Lib.hid (by rw [HJS.out, List.map_append]; rfl)
            go_wp2_with (at_builtin; refine wpList_append_lies _ rfl _ _ 24 rfl w.heap.size 2 i0 (.int .i64 0) 1 8 Try.underlying24 hi hz0 hz1 hz2 rfl (by decide) (.slice (some ⟨ge, 0, none⟩) (N + j) ce) (N + j) ((pulJ bs wd am i j).map iv4) rfl (HR.out.own.alloc _) ⟨wr.heap.size, 0, none⟩ 1 1 [.int .i64 (-am)] rfl rfl (World.news_of_block (cs := #[.int .i64 (-am)]) (t := 2) (fr := (0, 0)) (heap_alloc_new wr _)) (by simp [Value.oneCell']) (by decide) (by unfold maxLen; omega) (by omega) (by simp; exact Nat.le_succ_of_le HR.out.bel.size) (wr.heap.size + 1) (by simp) ?_; intro g2 cp2 w9 hown hgrow hat hlt9; have HR9 := Lib.hid ((HR.out.on ((Below.refl _ _).alloc (Nat.le_refl _) _)).snoc hown hgrow); clear hown hgrow hat hlt9)
            rw [HSN.out] at HR9
            go_wp2_with fail
            go_roundw
            case rel => exact ⟨j + 1, g2, cp2, by omega, rfl, by go_num, HR9.out⟩
            case measure => simp [intOf]; omega
          · obtain rfl : j = wd := by omega
            rw [HJE.out] at HR
            go_wp2_with fail
            go_roundw
            case rel => exact ⟨i + 1, ge, ce, by omega, by rw [Nat.succ_mul, HNE.out], by go_num, by rw [Nat.succ_mul, HNE.out]; exact HR.out⟩
            case measure => simp [intOf]; omega
      case inr =>
        have hsm := smp_1 am
        rw [hsm] at HJS
        have hx0 : ((1 : Int) == 0) = false := rfl
        clear hsm
        go_wp2_with fail
        go_loopw [7, 28] (fun v x wr => ∃ (j ge ce : Nat), j ≤ wd ∧ v = .slice (some ⟨ge, 0, none⟩) (N + j) ce ∧ x = .int .i64 (j : Int) ∧ RowG w 2 1 ge ce (N + j) ((pulJ bs wd am i j).map iv4) wr) (fun _ x _ => wd - (intOf x).toNat)
        case atStart => exact ⟨0, ge, ce, by omega, rfl, rfl, HR.out⟩
        case round =>
          obtain ⟨j, ge, ce, hj2, rfl, rfl, hR⟩ := hrel
          rename_i wr
          replace HR := Lib.hid hR
          clear hR
          by_cases hlj : j < wd
          · have HSN : Hid ((pulJ bs wd am i j).map iv4 ++ [.int .i64 (am)] = (pulJ bs wd am i (j + 1)).map iv4) := Lib.hid (by rw [HJS.out, List.map_append]; rfl)
            go_wp2_with (at_builtin; refine wpList_append_lies _ rfl _ _ 24 rfl w.heap.size 2 i0 (.int .i64 0) 1 8 Try.underlying24 hi hz0 hz1 hz2 rfl (by decide) (.slice (some ⟨ge, 0, none⟩) (N + j) ce) (N + j) ((pulJ bs wd am i j).map iv4) rfl (HR.out.own.alloc _) ⟨wr.heap.size, 0, none⟩ 1 1 [.int .i64 (am)] rfl rfl (World.news_of_block (cs := #[.int .i64 (am)]) (t := 2) (fr := (0, 0)) (heap_alloc_new wr _)) (by simp [Value.oneCell']) (by decide) (by unfold maxLen; omega) (by omega) (by simp; exact Nat.le_succ_of_le HR.out.bel.size) (wr.heap.size + 1) (by simp) ?_; intro g2 cp2 w9 hown hgrow hat hlt9; have HR9 := Lib.hid ((HR.out.on ((Below.refl _ _).alloc (Nat.le_refl _) _)).snoc hown hgrow); clear hown hgrow hat hlt9)
            rw [HSN.out] at HR9
            go_wp2_with fail
            go_roundw
            case rel => exact ⟨j + 1, g2, cp2, by omega, rfl, by go_num, HR9.out⟩
            case measure => simp [intOf]; omega
          · obtain rfl : j = wd := by omega
            rw [HJE.out] at HR
            go_wp2_with fail
            go_roundw
            case rel => exact ⟨i + 1, ge, ce, by omega, by rw [Nat.succ_mul, HNE.out], by go_num, by rw [Nat.succ_mul, HNE.out]; exact HR.out⟩
            case measure => simp [intOf]; omega

theorem smp_mod {x : Int} (am : Int) (h : x = 0 ∨ x = 1) : smp am x = (2 * x - 1) * am := by
  rcases h with rfl | rfl
  · rw [smp_0]; omega
  · rw [smp_1]; omega

set_option maxRecDepth 100000 in
set_option maxHeartbeats 4000000 in
theorem l9p_any (w : World) (a : Option Addr) (cap : Nat) (bs : List Int) (wd : Nat) (am : Int) (hP : bs.length * wd ≤ 400) (hl : bs.length ≤ 400) (hw4 : wd ≤ 400) (ha : 1 ≤ am) (ha2 : am ≤ 1000) (hbit : bitL bs) (hz : Ints .i64 w w.heap.size a bs) :
    Calls Try.prog 56 #[.slice a bs.length cap, .int .i64 (wd : Int), .int .i64 am] w fun e w' => ∃ (g c' : Nat), e = .returned (.slice (some ⟨g, 0, none⟩) (bs.length * wd) c') ∧ OwnA w' w.heap.size w'.heap.size (some ⟨g, 0, none⟩) c' (pulK bs wd am bs.length) ∧ Below w.heap.size w w' := by
  obtain ⟨i0, hi, hz0, hz1, hz2⟩ := info_parts info_i64
  have HZ := Lib.hid hz
  have HBT := Lib.hid hbit
  have HPP := Lib.hid hP
  clear hz hbit hP
  go_enter Try.func56, Try.ntmps56
  go_wp2_with fail
  have HR0 := Lib.hid (RowG.lit (w1 := w) (t := 2) (m := 1) (W := w.alloc (.cells #[] 2)) (Bk.new' rfl) (Nat.le_refl _) ((Below.refl _ _).alloc (Nat.le_refl _) _))
  go_loopw [7, 8] (fun v x wr => ∃ (i ge ce : Nat), i ≤ bs.length ∧ v = .slice (some ⟨ge, 0, none⟩) (i * wd) ce ∧ x = .int .i64 (i : Int) ∧ RowG w 2 1 ge ce (i * wd) ((pulK bs wd am i).map iv4) wr) (fun _ x _ => bs.length - (intOf x).toNat)
  case atStart => exact ⟨0, w.heap.size, 0, by omega, by rw [Nat.zero_mul], rfl, by rw [Nat.zero_mul]; exact HR0.out⟩
  case round =>
    obtain ⟨i, ge, ce, hi2, rfl, rfl, hR⟩ := hrel
    rename_i wr
    have HR := Lib.hid hR
    clear hR HR0
    by_cases hlt : i < bs.length
    case neg =>
      obtain rfl : i = bs.length := by omega
      have HA := Lib.hid (ownA_row HR.out (pulK_len _ _ (Nat.le_refl _)) (Nat.le_refl _))
      have HB := Lib.hid HR.out.bel
      clear HR
      go_wp2
      go_ret
      exact ⟨ge, ce, rfl, HA.out, HB.out⟩
    case pos =>
      have hN : i * wd + wd ≤ 400 := by
        have := Nat.mul_le_mul_right wd (show i + 1 ≤ bs.length by omega)
        rw [Nat.succ_mul] at this
        exact Nat.le_trans this HPP.out
      have hb2 := HBT.out i hlt
      have hsm := smp_mod am hb2
      obtain ⟨b1, o1, ra, hB1, hcw⟩ := HZ.out.at_ hlt
      subst ra
      have hJ0 := pulJ_0 bs wd am i
      have HJE := Lib.hid (pulJ_end (bs := bs) (i := i) wd am hlt)
      have HJS := Lib.hid (fun j => pulJ_succ bs wd am i j)
      rw [← hJ0] at HR
      clear hJ0
      obtain ⟨x, hx⟩ : ∃ x, bs.getD i 0 = x := ⟨_, rfl⟩
      rw [hx] at hb2 HJS hsm hcw
      have HCW := Lib.hid hcw
      clear hcw
      rw [hsm] at HJS
      have x0 : 0 ≤ x := by omega
      have x1 : x ≤ 1 := by omega
      have m1 : -1000 ≤ (2 * x - 1) * am ∧ (2 * x - 1) * am ≤ 1000 := by rcases hb2 with rfl | rfl <;> omega
      obtain ⟨m1, m2⟩ := m1
      clear hx hsm hb2
      obtain ⟨N, hNe⟩ : ∃ N, i * wd = N := ⟨_, rfl⟩
      have HNE := Lib.hid hNe
      rw [hNe] at hN HR ⊢
      clear hNe
      go_wp2_with fail
      go_loopw [7, 9] (fun v x wr => ∃ (j ge ce : Nat), j ≤ wd ∧ v = .slice (some ⟨ge, 0, none⟩) (N + j) ce ∧ x = .int .i64 (j : Int) ∧ RowG w 2 1 ge ce (N + j) ((pulJ bs wd am i j).map iv4) wr) (fun _ x _ => wd - (intOf x).toNat)
      case atStart => exact ⟨0, ge, ce, by omega, rfl, rfl, HR.out⟩
      case round =>
        obtain ⟨j, ge, ce, hj2, rfl, rfl, hR⟩ := hrel
        rename_i wr
        replace HR := Lib.hid hR
        clear hR
        by_cases hlj : j < wd
        · have hc1 := (HR.out.bel.cell (p := ⟨b1, o1 + i, none⟩) hB1).trans HCW.out
          have HSN : Hid ((pulJ bs wd am i j).map iv4 ++ [.int .i64 ((2 * x - 1) * am)] = (pulJ bs wd am i (j + 1)).map iv4) := Lib.hid (by rw [HJS.out, List.map_append]; rfl)
          go_wp2_with (at_builtin; refine wpList_append_lies _ rfl _ _ 24 rfl w.heap.size 2 i0 (.int .i64 0) 1 8 Try.underlying24 hi hz0 hz1 hz2 rfl (by decide) (.slice (some ⟨ge, 0, none⟩) (N + j) ce) (N + j) ((pulJ bs wd am i j).map iv4) rfl (HR.out.own.alloc _) ⟨wr.heap.size, 0, none⟩ 1 1 [.int .i64 ((2 * x - 1) * am)] rfl rfl (World.news_of_block (cs := #[.int .i64 ((2 * x - 1) * am)]) (t := 2) (fr := (0, 0)) (heap_alloc_new wr _)) (by simp [Value.oneCell']) (by decide) (by unfold maxLen; omega) (by omega) (by simp; exact Nat.le_succ_of_le HR.out.bel.size) (wr.heap.size + 1) (by simp) ?_; intro g2 cp2 w9 hown hgrow hat hlt9; have HR9 := Lib.hid ((HR.out.on ((Below.refl _ _).alloc (Nat.le_refl _) _)).snoc hown hgrow); clear hown hgrow hat hlt9)
          rw [HSN.out] at HR9
          go_wp2_with fail
          go_roundw
          case rel => exact ⟨j + 1, g2, cp2, by omega, rfl, by go_num, HR9.out⟩
          case measure => simp [intOf]; omega
        · obtain rfl : j = wd := by omega
          rw [HJE.out] at HR
          go_wp2_with fail
          go_roundw
          case rel => exact ⟨i + 1, ge, ce, by omega, by rw [Nat.succ_mul, HNE.out], by go_num, by rw [Nat.succ_mul, HNE.out]; exact HR.out⟩
          case measure => simp [intOf]; omega
/-- a pulse of bits: its code, its samples -/
def plC (bs : List Int) (w am : Int) : Int := if decide (bs.length ≤ 400) && !anyLack 0 1 bs && hasB 1 400 w && hasB 1 1000 am then (if 400 < (bs.length : Int) * w then 3 else 0) else 2
def plL (bs : List Int) (w am : Int) : List Int := if plC bs w am = 0 then pulK bs w.toNat am bs.length else []
theorem plC_0 {bs : List Int} {w am : Int} (h : plC bs w am = 0) : bs.length ≤ 400 ∧ anyLack 0 1 bs = false ∧ 1 ≤ w ∧ w ≤ 400 ∧ 1 ≤ am ∧ am ≤ 1000 ∧ bs.length * w.toNat ≤ 400 := by
  unfold plC at h
  split at h
  · rename_i g
    simp only [Bool.and_eq_true, decide_eq_true_eq, Bool.not_eq_true'] at g
    obtain ⟨⟨⟨g1, g2⟩, g3⟩, g4⟩ := g
    unfold hasB at g3 g4
    simp only [Bool.and_eq_true, decide_eq_true_eq] at g3 g4
    split at h
    · omega
    · rename_i g5
      refine ⟨g1, g2, g3.1, g3.2, g4.1, g4.2, ?_⟩
      have : (bs.length : Int) * w = ((bs.length * w.toNat : Nat) : Int) := by rw [Int.natCast_mul, Int.toNat_of_nonneg (by omega)]
      omega
  · omega
theorem plL_len (bs : List Int) (w am : Int) : (plL bs w am).length ≤ 400 := by
  unfold plL
  split
  · rename_i h
    rw [pulK_len _ _ (Nat.le_refl _)]
    exact (plC_0 h).2.2.2.2.2.2
  · simp
theorem one_lack (lo hi x : Int) : anyLack lo hi [x] = !hasB lo hi x := by simp [anyLack]
/-- a number that lies alone in a block -/
theorem ints_one (W : World) (x : Int) : Ints .i64 (W.alloc (.cells #[.int .i64 x] 2)) (W.alloc (.cells #[.int .i64 x] 2)).heap.size (some ⟨W.heap.size, 0, none⟩) [x] := fun _ =>
  ⟨W.heap.size, 0, rfl, by simp, fun j hj => by
    have : j = 0 := by simpa using hj
    subst this
    exact (Bk.new W #[.int .i64 x] 2).cell 0 rfl⟩
theorem are1_any (w : World) (x lo hi : Int) :
    Calls Try.prog 49 #[.agg #[.int .i64 lo, .int .i64 hi], .slice (some ⟨w.heap.size, 0, none⟩) 1 1] (w.alloc (.cells #[.int .i64 x] 2)) fun e w' => e = .returned (.bool (hasB lo hi x)) ∧ Below w.heap.size w w' := by
  refine (are_any (w.alloc (.cells #[.int .i64 x] 2)) _ 1 1 [x] lo hi rfl (by omega) (ints_one w x)).mono ?_
  rintro e w1 ⟨rfl, hb⟩
  exact ⟨by rw [one_lack, Bool.not_not], bel_end (by repeat (first | exact Below.refl _ _ | (refine Below.alloc ?_ (by simp <;> omega) _) | (refine Below.setCell ?_ (by simp <;> omega) _) | (refine Below.drew ?_) | (refine bel_drewN ?_ _))) hb⟩
end Go.Proofs.Ytpnebnjpeiieaaa
