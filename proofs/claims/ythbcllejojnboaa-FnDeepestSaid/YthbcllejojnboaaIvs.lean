/- Slices of intervals as lists of pairs: contracts of the checks over them, of their sum and of their hull. -/
import Derived.Test.YthbcllejojnboaaBas
import Derived.LoopTactic
import Derived.StillTailTactics
import Derived.Outline
import Derived.Laws.Rows
namespace Go.Proofs.Ythbcllejojnboaa
open Go.ChangeShapes Go.WideShapes Go.ChangeAt Go.RowKit Num
set_option linter.unusedVariables false
/-- the slice at 'a' reads as the pairs 'ps'; its memory lies below block B -/
def Ivs (w : World) (B : Nat) (a : Option Addr) (ps : List (Int × Int)) : Prop :=
  0 < ps.length → ∃ b off, a = some ⟨b, off, none⟩ ∧ b < B ∧ ∀ j, j < ps.length → w.cell? ⟨b, off + j * 2, none⟩ = some (.int .i64 (ps.getD j (0, 0)).1) ∧ w.cell? ⟨b, off + j * 2 + 1, none⟩ = some (.int .i64 (ps.getD j (0, 0)).2)
theorem Ivs.below {w w' : World} {B : Nat} {a : Option Addr} {ps : List (Int × Int)} (h : Ivs w B a ps) (hb : Below B w w') : Ivs w' B a ps := fun hp => by
  obtain ⟨b, off, e, hB, hc⟩ := h hp
  exact ⟨b, off, e, hB, fun j hj => ⟨(hb.cell (p := ⟨b, off + j * 2, none⟩) hB).trans (hc j hj).1, (hb.cell (p := ⟨b, off + j * 2 + 1, none⟩) hB).trans (hc j hj).2⟩⟩
theorem Ivs.more {w : World} {B B' : Nat} {a : Option Addr} {ps : List (Int × Int)} (h : Ivs w B a ps) (hb : B ≤ B') : Ivs w B' a ps := fun hp => by
  obtain ⟨b, off, e, hB, hc⟩ := h hp
  exact ⟨b, off, e, by omega, hc⟩
theorem Ivs.at_ {w : World} {B : Nat} {a : Option Addr} {ps : List (Int × Int)} (h : Ivs w B a ps) {j : Nat} (hj : j < ps.length) :
    ∃ b off x y, a = some ⟨b, off, none⟩ ∧ b < B ∧ ps.getD j (0, 0) = (x, y) ∧ w.cell? ⟨b, off + j * 2, none⟩ = some (.int .i64 x) ∧ w.cell? ⟨b, off + j * 2 + 1, none⟩ = some (.int .i64 y) := by
  obtain ⟨b, off, e, hB, hc⟩ := h (by omega)
  exact ⟨b, off, _, _, e, hB, rfl, (hc j hj).1, (hc j hj).2⟩

/-- all intervals of the list are valid -/
def allV (ps : List (Int × Int)) : Bool := decide (∀ j, j < ps.length → vldB (ps.getD j (0, 0)).1 (ps.getD j (0, 0)).2 = true)
theorem allV_t {ps : List (Int × Int)} (h : ∀ j, j < ps.length → vldB (ps.getD j (0, 0)).1 (ps.getD j (0, 0)).2 = true) : allV ps = true := by unfold allV; exact decide_eq_true h
theorem allV_f {ps : List (Int × Int)} {k : Nat} (hk : k < ps.length) (h : vldB (ps.getD k (0, 0)).1 (ps.getD k (0, 0)).2 = false) : allV ps = false := by
  unfold allV; exact decide_eq_false (fun g => by rw [g k hk] at h; cases h)
theorem allV_at {ps : List (Int × Int)} (h : allV ps = true) {j : Nat} (hj : j < ps.length) : vldB (ps.getD j (0, 0)).1 (ps.getD j (0, 0)).2 = true := by
  unfold allV at h; exact of_decide_eq_true h j hj

theorem lal_any (w : World) (a : Option Addr) (cap : Nat) (ps : List (Int × Int)) (hl : ps.length ≤ 1048576) (hz : Ivs w w.heap.size a ps) :
    Calls Try.prog 58 #[.slice a ps.length cap] w fun e w' => e = .returned (.bool (allV ps)) ∧ Below w.heap.size w w' := by
  go_enter Try.func58, Try.ntmps58
  go_wp2
  go_loopw [3] (fun i wr => ∃ k : Nat, k ≤ ps.length ∧ i = .int .i64 k ∧ Below w.heap.size w wr ∧ ∀ j, j < k → vldB (ps.getD j (0, 0)).1 (ps.getD j (0, 0)).2 = true) (fun i _ => ps.length - (intOf i).toNat)
  case atStart => exact ⟨0, by omega, rfl, Below.refl _ _, fun j hj => by omega⟩
  case round =>
    obtain ⟨k, hk, rfl, hb, hr⟩ := hrel
    have HR := Lib.hid hr
    clear hr
    by_cases hlt : k < ps.length
    · obtain ⟨b, off, x, y, rfl, hB, hxy, hc1, hc2⟩ := (hz.below hb).at_ hlt
      have HB := Lib.hid hb
      have HX := Lib.hid hxy
      clear hb hxy
      cases hv : vldB x y
      · go_wp2_with (go_at_call 84; refine (svb_any _ _ _).mono ?_; rw [hv]; rintro e w' ⟨rfl, hb⟩)
        go_ret
        exact ⟨ret_bool (allV_f hlt (by rw [HX.out]; exact hv)).symm, bel_end HB.out hb⟩
      · go_wp2_with (go_at_call 84; refine (svb_any _ _ _).mono ?_; rw [hv]; rintro e w' ⟨rfl, hb⟩)
        go_roundw
        case rel => exact ⟨k + 1, by omega, by go_num, bel_end HB.out hb, fun j hj => by
          by_cases hjk : j < k
          · exact HR.out j hjk
          · obtain rfl : j = k := by omega
            rw [HX.out]; exact hv⟩
        case measure => simp [intOf]; omega
    · go_wp2
      go_ret
      exact ⟨ret_bool (allV_t (fun j hj => HR.out j (by omega))).symm, hb⟩

/-- the code of a list of intervals -/
def ierr (ps : List (Int × Int)) : Int := if 200 < ps.length then 3 else if allV ps then 0 else 1
theorem ierr_long {ps : List (Int × Int)} (h : 200 < ps.length) : ierr ps = 3 := by unfold ierr; rw [if_pos h]
theorem ierr_ok {ps : List (Int × Int)} (h : ¬ 200 < ps.length) (g : allV ps = true) : ierr ps = 0 := by unfold ierr; rw [if_neg h, if_pos g]
theorem ierr_bad {ps : List (Int × Int)} (h : ¬ 200 < ps.length) (g : allV ps = false) : ierr ps = 1 := by unfold ierr; rw [if_neg h, g]; rfl

theorem ier_any (w : World) (a : Option Addr) (cap : Nat) (ps : List (Int × Int)) (hl : ps.length ≤ 1048576) (hz : Ivs w w.heap.size a ps) :
    Calls Try.prog 62 #[.slice a ps.length cap] w fun e w' => e = .returned (.int .i64 (ierr ps)) ∧ Below w.heap.size w w' := by
  by_cases hbig : 200 < ps.length
  · have h1 : (200 : Int) < (ps.length : Int) := by omega
    go_enter Try.func62, Try.ntmps62
    go_wp2
    go_ret
    exact ⟨ret_int (ierr_long hbig).symm, Below.refl _ _⟩
  · have h1 : ¬ (200 : Int) < (ps.length : Int) := by omega
    have h2 : decide ((200 : Int) < (ps.length : Int)) = false := by simp; omega
    have HG := Lib.hid hbig
    clear hbig
    go_enter Try.func62, Try.ntmps62
    go_wp2
    go_loopw [10] (fun i wr => ∃ k : Nat, k ≤ ps.length ∧ i = .int .i64 k ∧ Below w.heap.size w wr ∧ ∀ j, j < k → vldB (ps.getD j (0, 0)).1 (ps.getD j (0, 0)).2 = true) (fun i _ => ps.length - (intOf i).toNat)
    case atStart => exact ⟨0, by omega, rfl, Below.refl _ _, fun j hj => by omega⟩
    case round =>
      obtain ⟨k, hk, rfl, hb, hr⟩ := hrel
      have HR := Lib.hid hr
      clear hr
      by_cases hlt : k < ps.length
      · obtain ⟨b, off, x, y, rfl, hB, hxy, hc1, hc2⟩ := (hz.below hb).at_ hlt
        have HB := Lib.hid (hb.alloc hb.size (.cells #[.int .i64 x, .int .i64 y] 25))
        have HX := Lib.hid hxy
        clear hb hxy
        cases hv : vldB x y
        · go_wp2_with (go_at_call 68; refine (vlb_any _ _ _).mono ?_; rw [hv]; rintro e w' ⟨rfl, hb⟩)
          go_ret
          exact ⟨ret_int (ierr_bad HG.out (allV_f hlt (by rw [HX.out]; exact hv))).symm, bel_end HB.out hb⟩
        · go_wp2_with (go_at_call 68; refine (vlb_any _ _ _).mono ?_; rw [hv]; rintro e w' ⟨rfl, hb⟩)
          go_roundw
          case rel => exact ⟨k + 1, by omega, by go_num, bel_end HB.out hb, fun j hj => by
            by_cases hjk : j < k
            · exact HR.out j hjk
            · obtain rfl : j = k := by omega
              rw [HX.out]; exact hv⟩
          case measure => simp [intOf]; omega
      · go_wp2
        go_ret
        exact ⟨ret_int (ierr_ok HG.out (allV_t (fun j hj => HR.out j (by omega)))).symm, hb⟩

theorem add_any (a b c d : Int) (h1 : -1000000000000000 ≤ a) (h2 : a ≤ 1000000000000000) (h3 : -1000000000000000 ≤ b) (h4 : b ≤ 1000000000000000) (h5 : -1000000000000000 ≤ c) (h6 : c ≤ 1000000000000000) (h7 : -1000000000000000 ≤ d) (h8 : d ≤ 1000000000000000) (w : World) :
    Calls Try.prog 59 #[.agg #[.int .i64 a, .int .i64 b], .agg #[.int .i64 c, .int .i64 d]] w fun e w' => e = .returned (.agg #[.int .i64 (a + c), .int .i64 (b + d)]) ∧ Below w.heap.size w w' := by
  go_enter Try.func59, Try.ntmps59
  go_wp2
  exact bodyPost_ret (v := .agg #[.int .i64 (a + c), .int .i64 (b + d)]) (by simp [results, Try.results59, go_sem]) rfl ⟨rfl, (by repeat (first | exact Below.refl _ _ | (refine Below.alloc ?_ (by simp <;> omega) _) | (refine Below.setCell ?_ (by simp <;> omega) _) | (refine Below.drew ?_) | (refine bel_drewN ?_ _)))⟩

theorem blk_set2 {w : World} {g : Nat} {l h a b : Value} {t : TypeId} (hb : w.heap[g]? = some (.cells #[l, h] t (0, 0))) :
    ((w.setCell ⟨g, 0, none⟩ a).setCell ⟨g, 1, none⟩ b).heap[g]? = some (.cells #[a, b] t (0, 0)) := by
  have h1 : (w.setCell ⟨g, 0, none⟩ a).heap[g]? = some (.cells #[a, h] t (0, 0)) := heap_setCell_same w g 0 _ _ _ hb
  exact heap_setCell_same (w.setCell ⟨g, 0, none⟩ a) g 1 _ _ _ h1

def sumL (ps : List (Int × Int)) : Nat → Int | 0 => 0 | k + 1 => sumL ps k + (ps.getD k (0, 0)).1
def sumH (ps : List (Int × Int)) : Nat → Int | 0 => 0 | k + 1 => sumH ps k + (ps.getD k (0, 0)).2
theorem sums_bd {ps : List (Int × Int)} (hv : allV ps = true) : ∀ k : Nat, k ≤ ps.length → -(1000000000000 * k) ≤ sumL ps k ∧ sumL ps k ≤ 1000000000000 * k ∧ -(1000000000000 * k) ≤ sumH ps k ∧ sumH ps k ≤ 1000000000000 * k := by
  intro k
  induction k with
  | zero => intro _; simp [sumL, sumH]
  | succ k ih =>
    intro hk
    have h1 := ih (by omega)
    have h2 := vldB_t (allV_at hv (j := k) (by omega))
    simp only [sumL, sumH]
    omega
/-- the sum -/
def sumT (ps : List (Int × Int)) : Int × Int × Int := if ierr ps = 0 then within (sumL ps ps.length) (sumH ps ps.length) else (0, 0, ierr ps)
theorem sumT_ok {ps : List (Int × Int)} (h : ierr ps = 0) : sumT ps = within (sumL ps ps.length) (sumH ps ps.length) := by unfold sumT; rw [if_pos h]
theorem sumT_bad {ps : List (Int × Int)} (h : ¬ ierr ps = 0) : sumT ps = (0, 0, ierr ps) := by unfold sumT; rw [if_neg h]
theorem ierr_0 {ps : List (Int × Int)} (h : ierr ps = 0) : ps.length ≤ 200 ∧ allV ps = true := by
  unfold ierr at h
  split at h
  · cases h
  · split at h
    · exact ⟨by omega, by assumption⟩
    · cases h

theorem bel_alloc2 {W w1 : World} (h : Below W.heap.size W w1) (o : Obj) : Below W.heap.size W (w1.alloc o) := h.alloc h.size o
theorem kpI {W w2 : World} {B m o : Nat} {v0 : Value} (c0 : W.cell? ⟨m, o, none⟩ = some v0) (h : Below B W w2) (hm : m < B) : w2.cell? ⟨m, o, none⟩ = some v0 := (h.cell (p := ⟨m, o, none⟩) hm).trans c0
theorem fz1 {W w2 : World} {B m o : Nat} (c0 : W.frozen? ⟨m, o, none⟩ = false) (h : Below B W w2) (hm : m < B) : w2.frozen? ⟨m, o, none⟩ = false := (h.frozen (p := ⟨m, o, none⟩) hm).trans c0
/-- the result's block, two zeros that may be written -/
def Rz (w : World) (g : Nat) : Prop := (w.cell? ⟨g, 0, none⟩ = some (.int .i64 0) ∧ w.cell? ⟨g, 1, none⟩ = some (.int .i64 0)) ∧ w.frozen? ⟨g, 0, none⟩ = false ∧ w.frozen? ⟨g, 1, none⟩ = false
theorem Rz.keep {w w2 : World} {g B : Nat} (h : Rz w g) (hb : Below B w w2) (hg : g < B) : Rz w2 g := ⟨⟨kpI h.1.1 hb hg, kpI h.1.2 hb hg⟩, fz1 h.2.1 hb hg, fz1 h.2.2 hb hg⟩
theorem Rz.new (w : World) (t : TypeId) : Rz (w.alloc (.cells #[.int .i64 0, .int .i64 0] t)) w.heap.size := ⟨⟨by simp [go_sem], by simp [go_sem]⟩, by simp [go_sem], by simp [go_sem]⟩

theorem pla_any (a b c d : Int) (h1 : -1000000000000000 ≤ a) (h2 : a ≤ 1000000000000000) (h3 : -1000000000000000 ≤ b) (h4 : b ≤ 1000000000000000) (h5 : -1000000000000000 ≤ c) (h6 : c ≤ 1000000000000000) (h7 : -1000000000000000 ≤ d) (h8 : d ≤ 1000000000000000) (w : World) :
    Calls Try.prog 63 #[.agg #[.int .i64 a, .int .i64 b], .agg #[.int .i64 c, .int .i64 d]] w fun e w' => e = .returned (.agg #[.int .i64 (a + c), .int .i64 (b + d)]) ∧ Below w.heap.size w w' := by
  go_enter Try.func63, Try.ntmps63
  go_wp2
  exact bodyPost_ret (v := .agg #[.int .i64 (a + c), .int .i64 (b + d)]) (by simp [results, Try.results63, go_sem]) rfl ⟨rfl, (by repeat (first | exact Below.refl _ _ | (refine Below.alloc ?_ (by simp <;> omega) _) | (refine Below.setCell ?_ (by simp <;> omega) _) | (refine Below.drew ?_) | (refine bel_drewN ?_ _)))⟩

set_option maxHeartbeats 2000000 in
theorem ism_any (w : World) (a : Option Addr) (cap : Nat) (ps : List (Int × Int)) (hl : ps.length ≤ 1048576) (hz : Ivs w w.heap.size a ps) :
    Calls Try.prog 17 #[.slice a ps.length cap] w fun e w' => e = .returned (.tuple #[.agg #[.int .i64 (sumT ps).1, .int .i64 (sumT ps).2.1], .int .i64 (sumT ps).2.2]) ∧ Below w.heap.size w w' := by
  have HZ := Lib.hid hz
  clear hz
  by_cases hi : ierr ps = 0
  · obtain ⟨hlen, hv⟩ := ierr_0 hi
    have HI := Lib.hid hi
    have HV := Lib.hid hv
    clear hi hv
    go_enter Try.func17, Try.ntmps17
    go_wp2_with fail
    refine (ier_any _ _ _ ps hl ((HZ.out.below ((Below.refl _ _).alloc (Nat.le_refl _) _)).more (by simp))).mono ?_
    rw [HI.out]
    rintro e w1 ⟨rfl, hb⟩
    have RZ := Lib.hid ((Rz.new w 25).keep hb (by simp))
    have hsz : w.heap.size < w1.heap.size := by have := hb.size; simp at this; omega
    have B1 : Hid (Below w.heap.size w w1) := Lib.hid (bel_end (by repeat (first | exact Below.refl _ _ | (refine Below.alloc ?_ (by simp <;> omega) _) | (refine Below.setCell ?_ (by simp <;> omega) _) | (refine Below.drew ?_) | (refine bel_drewN ?_ _))) hb)
    have HZ1 := Lib.hid (HZ.out.below B1.out)
    clear hb
    go_wp2
    go_loopw [17] (fun i wr => ∃ k : Nat, k ≤ ps.length ∧ i = .int .i64 k ∧ Below w1.heap.size w1 wr ∧ wr.heap[w1.heap.size]? = some (.cells #[.int .i64 (sumL ps k), .int .i64 (sumH ps k)] 25 (0, 0))) (fun i _ => ps.length - (intOf i).toNat)
    case atStart => exact ⟨0, by omega, rfl, (Below.refl _ _).alloc (Nat.le_refl _) _, heap_alloc_new _ _⟩
    case round =>
      obtain ⟨k, hk, rfl, hb, hblk⟩ := hrel
      have g0 := (cell_of_row _ _ 0 _ _ _ hblk).trans (show _ = some (.int .i64 (sumL ps k)) from rfl)
      have g1 := (cell_of_row _ _ 1 _ _ _ hblk).trans (show _ = some (.int .i64 (sumH ps k)) from rfl)
      have e0 := frozen_of_row _ _ 0 _ _ hblk
      have e1 := frozen_of_row _ _ 1 _ _ hblk
      have hG := World.block_lt_of_cell? _ _ g0
      simp only [] at hG
      have HK := Lib.hid hblk
      obtain ⟨l, hl'⟩ : ∃ l, sumL ps k = l := ⟨_, rfl⟩
      obtain ⟨m, hm'⟩ : ∃ l, sumH ps k = l := ⟨_, rfl⟩
      have HBD := Lib.hid (sums_bd HV.out)
      by_cases hlt : k < ps.length
      · obtain ⟨b, off, x, y, rfl, hB, hxy, hc1, hc2⟩ := (HZ1.out.below (hb.mono (Nat.le_of_lt hsz))).at_ hlt
        have hvx := vldB_t (allV_at HV.out hlt)
        rw [hxy] at hvx
        obtain ⟨x1, x2, y1, y2, -⟩ := hvx
        have hbd := HBD.out k hk
        rw [hl', hm'] at hbd
        rw [hl'] at g0
        rw [hm'] at g1
        obtain ⟨l1, l2, m1, m2⟩ := hbd
        have l3 : -300000000000000 ≤ l := by omega
        have l4 : l ≤ 300000000000000 := by omega
        have m3 : -300000000000000 ≤ m := by omega
        have m4 : m ≤ 300000000000000 := by omega
        have hbne : ¬ b = w1.heap.size := by omega
        have HB := Lib.hid hb
        have HX := Lib.hid hxy
        have HL := Lib.hid hl'
        have HM := Lib.hid hm'
        clear hb hxy hblk hl' hm' l1 l2 m1 m2
        go_wp2_with fail
        refine (pla_any _ _ _ _ (by omega) (by omega) (by omega) (by omega) (by omega) (by omega) (by omega) (by omega) _).mono ?_
        rintro e w5 ⟨rfl, hb⟩
        have hblk5 := (hb.block w1.heap.size (by simp; omega)).trans ((Below.heap_alloc _ _ _ hG).trans HK.out)
        have g0' := (cell_of_row _ _ 0 _ _ _ hblk5).trans (show _ = some (.int .i64 (sumL ps k)) from rfl)
        have g1' := (cell_of_row _ _ 1 _ _ _ hblk5).trans (show _ = some (.int .i64 (sumH ps k)) from rfl)
        have e0' := frozen_of_row _ _ 0 _ _ hblk5
        have e1' := frozen_of_row _ _ 1 _ _ hblk5
        have HK5 := Lib.hid hblk5
        have HB5 := Lib.hid (bel_end (bel_alloc2 HB.out _) hb)
        clear hb hblk5
        go_wp2
        go_roundw
        case rel => exact ⟨k + 1, by omega, by go_num, (HB5.out.setCell (Nat.le_refl _) _).setCell (Nat.le_refl _) _, by
          rw [show sumL ps (k + 1) = l + x from by rw [← HL.out]; show _ + (ps.getD k (0, 0)).1 = _; rw [HX.out], show sumH ps (k + 1) = m + y from by rw [← HM.out]; show _ + (ps.getD k (0, 0)).2 = _; rw [HX.out]]
          exact blk_set2 HK5.out⟩
        case measure => simp [intOf]; omega
      · obtain rfl : k = ps.length := by omega
        have RZ2 := Lib.hid (RZ.out.keep hb hsz)
        have HB := Lib.hid (bel_end B1.out hb)
        clear hb hblk hl' hm'
        go_wp2_with fail
        refine (wvs_any _ _ _).mono ?_
        rintro e w3 ⟨rfl, hb⟩
        have hw3 : w.heap.size < w3.heap.size := by have := hb.size; omega
        have hlt3 : w.heap.size < _ := Nat.lt_trans hsz hG
        obtain ⟨⟨z0, z1⟩, z2, z3⟩ := RZ2.out.keep hb hlt3
        have HB3 := Lib.hid (bel_end HB.out hb)
        clear hb
        go_wp2
        exact bodyPost_ret (v := .tuple #[.agg #[.int .i64 (within (sumL ps ps.length) (sumH ps ps.length)).1, .int .i64 (within (sumL ps ps.length) (sumH ps ps.length)).2.1], .int .i64 (within (sumL ps ps.length) (sumH ps ps.length)).2.2]) (by simp [results, Try.results17, go_sem, z0, z1]) rfl ⟨resT_eq (sumT_ok HI.out), HB3.out.setCell (by simp) _ |>.setCell (by simp) _⟩
  · have hne : (ierr ps != 0) = true := by simpa using hi
    have HI := Lib.hid hi
    clear hi
    obtain ⟨c, hc⟩ : ∃ c, ierr ps = c := ⟨_, rfl⟩
    have HC := Lib.hid hc
    rw [hc] at hne
    clear hc
    go_enter Try.func17, Try.ntmps17
    go_wp2_with fail
    refine (ier_any _ _ _ ps hl ((HZ.out.below ((Below.refl _ _).alloc (Nat.le_refl _) _)).more (by simp))).mono ?_
    rw [HC.out]
    rintro e w1 ⟨rfl, hb⟩
    have RZ := Lib.hid ((Rz.new w 25).keep hb (by simp))
    have hsz : w.heap.size < w1.heap.size := by have := hb.size; simp at this; omega
    have B1 : Hid (Below w.heap.size w w1) := Lib.hid (bel_end (by repeat (first | exact Below.refl _ _ | (refine Below.alloc ?_ (by simp <;> omega) _) | (refine Below.setCell ?_ (by simp <;> omega) _) | (refine Below.drew ?_) | (refine bel_drewN ?_ _))) hb)
    have HZ1 := Lib.hid (HZ.out.below B1.out)
    clear hb
    obtain ⟨⟨z0, z1⟩, z2, z3⟩ := RZ.out
    go_wp2
    exact bodyPost_ret (v := .tuple #[.agg #[.int .i64 0, .int .i64 0], .int .i64 c]) (by simp [results, Try.results17, go_sem, z0, z1]) rfl ⟨resT_of (by rw [sumT_bad HI.out, HC.out]), B1.out.setCell (by simp) _ |>.setCell (by simp) _⟩

set_option maxRecDepth 100000 in
set_option maxHeartbeats 2000000 in
theorem ssm_any (w : World) (a : Option Addr) (cap : Nat) (ps : List (Int × Int)) (hl : ps.length ≤ 1048576) (hz : Ivs w w.heap.size a ps) :
    Calls Try.prog 15 #[.slice a ps.length cap] w fun e w' => e = .returned (.tuple #[.agg #[.int .i64 (sumT ps).1, .int .i64 (sumT ps).2.1], .int .i64 (sumT ps).2.2]) ∧ Below w.heap.size w w' := by
  have HZ := Lib.hid hz
  clear hz
  by_cases hbig : 200 < ps.length
  · have HI := Lib.hid (ierr_long hbig)
    have h1 : (200 : Int) < (ps.length : Int) := by omega
    clear hbig
    go_enter Try.func15, Try.ntmps15
    go_wp2
    exact bodyPost_ret (v := .tuple #[.agg #[.int .i64 0, .int .i64 0], .int .i64 3]) (by simp [results, Try.results15, go_sem]) rfl ⟨resT_of (by rw [sumT_bad (by rw [HI.out]; decide), HI.out]), (by repeat (first | exact Below.refl _ _ | (refine Below.alloc ?_ (by simp <;> omega) _) | (refine Below.setCell ?_ (by simp <;> omega) _) | (refine Below.drew ?_) | (refine bel_drewN ?_ _)))⟩
  · have h1 : ¬ (200 : Int) < (ps.length : Int) := by omega
    have h2 : decide ((200 : Int) < (ps.length : Int)) = false := by simp; omega
    cases hv : allV ps
    · have HI := Lib.hid (ierr_bad hbig hv)
      have HV := Lib.hid hv
      clear hbig hv
      go_enter Try.func15, Try.ntmps15
      go_wp2_with fail
      refine (lal_any _ _ _ ps hl ((HZ.out.below ((Below.refl _ _).alloc (Nat.le_refl _) _)).more (by simp))).mono ?_
      rw [HV.out]
      rintro e w1 ⟨rfl, hb⟩
      have RZ := Lib.hid ((Rz.new w 25).keep hb (by simp))
      have hsz : w.heap.size < w1.heap.size := by have := hb.size; simp at this; omega
      have B1 : Hid (Below w.heap.size w w1) := Lib.hid (bel_end (by repeat (first | exact Below.refl _ _ | (refine Below.alloc ?_ (by simp <;> omega) _) | (refine Below.setCell ?_ (by simp <;> omega) _) | (refine Below.drew ?_) | (refine bel_drewN ?_ _))) hb)
      have HZ1 := Lib.hid (HZ.out.below B1.out)
      clear hb
      obtain ⟨⟨z0, z1⟩, z2, z3⟩ := RZ.out
      go_wp2
      exact bodyPost_ret (v := .tuple #[.agg #[.int .i64 0, .int .i64 0], .int .i64 1]) (by simp [results, Try.results15, go_sem, z0, z1]) rfl ⟨resT_of (by rw [sumT_bad (by rw [HI.out]; decide), HI.out]), B1.out.setCell (by simp) _ |>.setCell (by simp) _⟩
    · have HI := Lib.hid (ierr_ok hbig hv)
      have HV := Lib.hid hv
      have hlen : ps.length ≤ 200 := by omega
      clear hbig hv
      go_enter Try.func15, Try.ntmps15
      go_wp2_with fail
      refine (lal_any _ _ _ ps hl ((HZ.out.below ((Below.refl _ _).alloc (Nat.le_refl _) _)).more (by simp))).mono ?_
      rw [HV.out]
      rintro e w1 ⟨rfl, hb⟩
      have RZ := Lib.hid ((Rz.new w 25).keep hb (by simp))
      have hsz : w.heap.size < w1.heap.size := by have := hb.size; simp at this; omega
      have B1 : Hid (Below w.heap.size w w1) := Lib.hid (bel_end (by repeat (first | exact Below.refl _ _ | (refine Below.alloc ?_ (by simp <;> omega) _) | (refine Below.setCell ?_ (by simp <;> omega) _) | (refine Below.drew ?_) | (refine bel_drewN ?_ _))) hb)
      have HZ1 := Lib.hid (HZ.out.below B1.out)
      clear hb
      go_wp2
      go_loopw [5] (fun i wr => ∃ k : Nat, k ≤ ps.length ∧ i = .int .i64 k ∧ Below w1.heap.size w1 wr ∧ wr.heap[w1.heap.size]? = some (.cells #[.int .i64 (sumL ps k), .int .i64 (sumH ps k)] 25 (0, 0))) (fun i _ => ps.length - (intOf i).toNat)
      case atStart => exact ⟨0, by omega, rfl, (Below.refl _ _).alloc (Nat.le_refl _) _, heap_alloc_new _ _⟩
      case round =>
        obtain ⟨k, hk, rfl, hb, hblk⟩ := hrel
        have g0 := (cell_of_row _ _ 0 _ _ _ hblk).trans (show _ = some (.int .i64 (sumL ps k)) from rfl)
        have g1 := (cell_of_row _ _ 1 _ _ _ hblk).trans (show _ = some (.int .i64 (sumH ps k)) from rfl)
        have e0 := frozen_of_row _ _ 0 _ _ hblk
        have e1 := frozen_of_row _ _ 1 _ _ hblk
        have hG := World.block_lt_of_cell? _ _ g0
        simp only [] at hG
        have HK := Lib.hid hblk
        obtain ⟨l, hl'⟩ : ∃ l, sumL ps k = l := ⟨_, rfl⟩
        obtain ⟨m, hm'⟩ : ∃ l, sumH ps k = l := ⟨_, rfl⟩
        have HBD := Lib.hid (sums_bd HV.out)
        by_cases hlt : k < ps.length
        · obtain ⟨b, off, x, y, rfl, hB, hxy, hc1, hc2⟩ := (HZ1.out.below (hb.mono (Nat.le_of_lt hsz))).at_ hlt
          have hvx := vldB_t (allV_at HV.out hlt)
          rw [hxy] at hvx
          obtain ⟨x1, x2, y1, y2, -⟩ := hvx
          have hbd := HBD.out k hk
          rw [hl', hm'] at hbd
          rw [hl'] at g0
          rw [hm'] at g1
          obtain ⟨l1, l2, m1, m2⟩ := hbd
          have l3 : -300000000000000 ≤ l := by omega
          have l4 : l ≤ 300000000000000 := by omega
          have m3 : -300000000000000 ≤ m := by omega
          have m4 : m ≤ 300000000000000 := by omega
          have hbne : ¬ b = w1.heap.size := by omega
          have HB := Lib.hid hb
          have HX := Lib.hid hxy
          have HL := Lib.hid hl'
          have HM := Lib.hid hm'
          clear hb hxy hblk hl' hm' l1 l2 m1 m2
          go_wp2_with fail
          go_still_tail 5, (by kernel_rfl)
          go_wp2_with fail
          refine (add_any _ _ _ _ (by omega) (by omega) (by omega) (by omega) (by omega) (by omega) (by omega) (by omega) _).mono ?_
          rintro e w5 ⟨rfl, hb⟩
          have hblk5 := (hb.block w1.heap.size hG).trans HK.out
          have g0' := (cell_of_row _ _ 0 _ _ _ hblk5).trans (show _ = some (.int .i64 (sumL ps k)) from rfl)
          have g1' := (cell_of_row _ _ 1 _ _ _ hblk5).trans (show _ = some (.int .i64 (sumH ps k)) from rfl)
          have e0' := frozen_of_row _ _ 0 _ _ hblk5
          have e1' := frozen_of_row _ _ 1 _ _ hblk5
          have HK5 := Lib.hid hblk5
          have HB5 := Lib.hid (HB.out.drew.trans (hb.mono HB.out.size))
          clear hb hblk5
          go_wp2
          go_roundw
          case rel => exact ⟨k + 1, by omega, by go_num, (HB5.out.setCell (Nat.le_refl _) _).setCell (Nat.le_refl _) _, by
            rw [show sumL ps (k + 1) = l + x from by rw [← HL.out]; show _ + (ps.getD k (0, 0)).1 = _; rw [HX.out], show sumH ps (k + 1) = m + y from by rw [← HM.out]; show _ + (ps.getD k (0, 0)).2 = _; rw [HX.out]]
            exact blk_set2 HK5.out⟩
          case measure => simp [intOf]; omega
        · obtain rfl : k = ps.length := by omega
          have RZ2 := Lib.hid (RZ.out.keep hb hsz)
          have HB := Lib.hid (bel_end B1.out hb)
          clear hb hblk hl' hm'
          go_wp2_with fail
          refine (lre_any _ _ _).mono ?_
          rintro e w3 ⟨rfl, hb⟩
          have hw3 : w.heap.size < w3.heap.size := by have := hb.size; omega
          have hlt3 : w.heap.size < _ := Nat.lt_trans hsz hG
          obtain ⟨⟨z0, z1⟩, z2, z3⟩ := RZ2.out.keep hb hlt3
          have HB3 := Lib.hid (bel_end HB.out hb)
          clear hb
          go_wp2
          exact bodyPost_ret (v := .tuple #[.agg #[.int .i64 (within (sumL ps ps.length) (sumH ps ps.length)).1, .int .i64 (within (sumL ps ps.length) (sumH ps ps.length)).2.1], .int .i64 (within (sumL ps ps.length) (sumH ps ps.length)).2.2]) (by simp [results, Try.results15, go_sem, z0, z1]) rfl ⟨resT_eq (sumT_ok HI.out), HB3.out.setCell (by simp) _ |>.setCell (by simp) _⟩
end Go.Proofs.Ythbcllejojnboaa
