/- Contracts of EncloseAll, the program's and the model's. -/
import Derived.Test.YtaaklnabomhleaaIvs
namespace Go.Proofs.Ytaaklnabomhleaa
open Go.ChangeShapes Go.WideShapes Go.ChangeAt Go.RowKit Num
set_option linter.unusedVariables false
def mnI (a c : Int) : Int := if c < a then c else a
def mxI (b d : Int) : Int := if b < d then d else b
theorem mnI_t {a c : Int} (h : c < a) : mnI a c = c := by unfold mnI; rw [if_pos h]
theorem mnI_f {a c : Int} (h : a ≤ c) : mnI a c = a := by unfold mnI; rw [if_neg (by omega)]
theorem mxI_t {b d : Int} (h : b < d) : mxI b d = d := by unfold mxI; rw [if_pos h]
theorem mxI_f {b d : Int} (h : d ≤ b) : mxI b d = b := by unfold mxI; rw [if_neg (by omega)]
theorem ret_agg2 {a b c d : Int} (h : a = c) (g : b = d) : Ending.returned (.agg #[.int .i64 a, .int .i64 b]) = .returned (.agg #[.int .i64 c, .int .i64 d]) := by rw [h, g]
theorem hul_any (a b c d : Int) (w : World) :
    Calls Try.prog 116 #[.agg #[.int .i64 a, .int .i64 b], .agg #[.int .i64 c, .int .i64 d]] w fun e w' => e = .returned (.agg #[.int .i64 (mnI a c), .int .i64 (mxI b d)]) ∧ Below w.heap.size w w' := by
  by_cases h1 : c < a <;> by_cases h2 : b < d
  · go_enter Try.func116, Try.ntmps116
    go_wp2
    exact bodyPost_ret (v := .agg #[.int .i64 c, .int .i64 d]) (by simp [results, Try.results116, go_sem]) rfl ⟨ret_agg2 (mnI_t h1).symm (mxI_t h2).symm, (by repeat (first | exact Below.refl _ _ | (refine Below.alloc ?_ (by simp <;> omega) _) | (refine Below.setCell ?_ (by simp <;> omega) _) | (refine Below.drew ?_) | (refine bel_drewN ?_ _)))⟩
  · go_enter Try.func116, Try.ntmps116
    go_wp2
    exact bodyPost_ret (v := .agg #[.int .i64 c, .int .i64 b]) (by simp [results, Try.results116, go_sem]) rfl ⟨ret_agg2 (mnI_t h1).symm (mxI_f (by omega)).symm, (by repeat (first | exact Below.refl _ _ | (refine Below.alloc ?_ (by simp <;> omega) _) | (refine Below.setCell ?_ (by simp <;> omega) _) | (refine Below.drew ?_) | (refine bel_drewN ?_ _)))⟩
  · go_enter Try.func116, Try.ntmps116
    go_wp2
    exact bodyPost_ret (v := .agg #[.int .i64 a, .int .i64 d]) (by simp [results, Try.results116, go_sem]) rfl ⟨ret_agg2 (mnI_f (by omega)).symm (mxI_t h2).symm, (by repeat (first | exact Below.refl _ _ | (refine Below.alloc ?_ (by simp <;> omega) _) | (refine Below.setCell ?_ (by simp <;> omega) _) | (refine Below.drew ?_) | (refine bel_drewN ?_ _)))⟩
  · go_enter Try.func116, Try.ntmps116
    go_wp2
    exact bodyPost_ret (v := .agg #[.int .i64 a, .int .i64 b]) (by simp [results, Try.results116, go_sem]) rfl ⟨ret_agg2 (mnI_f (by omega)).symm (mxI_f (by omega)).symm, (by repeat (first | exact Below.refl _ _ | (refine Below.alloc ?_ (by simp <;> omega) _) | (refine Below.setCell ?_ (by simp <;> omega) _) | (refine Below.drew ?_) | (refine bel_drewN ?_ _)))⟩

theorem jwi_any (a b c d : Int) (w : World) :
    Calls Try.prog 119 #[.agg #[.int .i64 a, .int .i64 b], .agg #[.int .i64 c, .int .i64 d]] w fun e w' => e = .returned (.agg #[.int .i64 (mnI a c), .int .i64 (mxI b d)]) ∧ Below w.heap.size w w' := by
  by_cases h1 : c < a <;> by_cases h2 : b < d
  · go_enter Try.func119, Try.ntmps119
    go_wp2
    exact bodyPost_ret (v := .agg #[.int .i64 c, .int .i64 d]) (by simp [results, Try.results119, go_sem]) rfl ⟨ret_agg2 (mnI_t h1).symm (mxI_t h2).symm, (by repeat (first | exact Below.refl _ _ | (refine Below.alloc ?_ (by simp <;> omega) _) | (refine Below.setCell ?_ (by simp <;> omega) _) | (refine Below.drew ?_) | (refine bel_drewN ?_ _)))⟩
  · go_enter Try.func119, Try.ntmps119
    go_wp2
    exact bodyPost_ret (v := .agg #[.int .i64 c, .int .i64 b]) (by simp [results, Try.results119, go_sem]) rfl ⟨ret_agg2 (mnI_t h1).symm (mxI_f (by omega)).symm, (by repeat (first | exact Below.refl _ _ | (refine Below.alloc ?_ (by simp <;> omega) _) | (refine Below.setCell ?_ (by simp <;> omega) _) | (refine Below.drew ?_) | (refine bel_drewN ?_ _)))⟩
  · go_enter Try.func119, Try.ntmps119
    go_wp2
    exact bodyPost_ret (v := .agg #[.int .i64 a, .int .i64 d]) (by simp [results, Try.results119, go_sem]) rfl ⟨ret_agg2 (mnI_f (by omega)).symm (mxI_t h2).symm, (by repeat (first | exact Below.refl _ _ | (refine Below.alloc ?_ (by simp <;> omega) _) | (refine Below.setCell ?_ (by simp <;> omega) _) | (refine Below.drew ?_) | (refine bel_drewN ?_ _)))⟩
  · go_enter Try.func119, Try.ntmps119
    go_wp2
    exact bodyPost_ret (v := .agg #[.int .i64 a, .int .i64 b]) (by simp [results, Try.results119, go_sem]) rfl ⟨ret_agg2 (mnI_f (by omega)).symm (mxI_f (by omega)).symm, (by repeat (first | exact Below.refl _ _ | (refine Below.alloc ?_ (by simp <;> omega) _) | (refine Below.setCell ?_ (by simp <;> omega) _) | (refine Below.drew ?_) | (refine bel_drewN ?_ _)))⟩

def hulL (ps : List (Int × Int)) : Nat → Int | 0 => (ps.getD 0 (0, 0)).1 | k + 1 => mnI (hulL ps k) (ps.getD (k + 1) (0, 0)).1
def hulH (ps : List (Int × Int)) : Nat → Int | 0 => (ps.getD 0 (0, 0)).2 | k + 1 => mxI (hulH ps k) (ps.getD (k + 1) (0, 0)).2
/-- the hull -/
def encT (ps : List (Int × Int)) : Int × Int × Int := if ierr ps = 0 then (if ps.length = 0 then (0, 0, 4) else (hulL ps (ps.length - 1), hulH ps (ps.length - 1), 0)) else (0, 0, ierr ps)
theorem encT_ok {ps : List (Int × Int)} (h : ierr ps = 0) (g : ¬ ps.length = 0) : encT ps = (hulL ps (ps.length - 1), hulH ps (ps.length - 1), 0) := by unfold encT; rw [if_pos h, if_neg g]
theorem encT_none {ps : List (Int × Int)} (h : ierr ps = 0) (g : ps.length = 0) : encT ps = (0, 0, 4) := by unfold encT; rw [if_pos h, if_pos g]
theorem encT_bad {ps : List (Int × Int)} (h : ¬ ierr ps = 0) : encT ps = (0, 0, ierr ps) := by unfold encT; rw [if_neg h]
set_option maxRecDepth 100000 in
set_option maxHeartbeats 4000000 in
theorem ien_any (w : World) (a : Option Addr) (cap : Nat) (ps : List (Int × Int)) (hl : ps.length ≤ 1048576) (hcap : ps.length ≤ cap) (hz : Ivs w w.heap.size a ps) :
    Calls Try.prog 58 #[.slice a ps.length cap] w fun e w' => e = .returned (.tuple #[.agg #[.int .i64 (encT ps).1, .int .i64 (encT ps).2.1], .int .i64 (encT ps).2.2]) ∧ Below w.heap.size w w' := by
  have HZ := Lib.hid hz
  clear hz
  by_cases hi : ierr ps = 0
  · obtain ⟨hlen, hv⟩ := ierr_0 hi
    have HI := Lib.hid hi
    clear hi hv
    by_cases hn : ps.length = 0
    · have hn0 : ((ps.length : Int) == 0) = true := by simp; exact List.eq_nil_of_length_eq_zero hn
      have HN := Lib.hid hn
      clear hn
      go_enter Try.func58, Try.ntmps58
      go_wp2_with fail
      refine (ier_any _ _ _ ps hl ((HZ.out.below ((Below.refl _ _).alloc (Nat.le_refl _) _)).more (by simp))).mono ?_
      rw [HI.out]
      rintro e w1 ⟨rfl, hb⟩
      have RZ := Lib.hid ((Rz.new w 48).keep hb (by simp))
      have hsz : w.heap.size < w1.heap.size := by have := hb.size; simp at this; omega
      have B1 : Hid (Below w.heap.size w w1) := Lib.hid (bel_end (by repeat (first | exact Below.refl _ _ | (refine Below.alloc ?_ (by simp <;> omega) _) | (refine Below.setCell ?_ (by simp <;> omega) _) | (refine Below.drew ?_) | (refine bel_drewN ?_ _))) hb)
      have HZ1 := Lib.hid (HZ.out.below B1.out)
      clear hb
      obtain ⟨⟨z0, z1⟩, z2, z3⟩ := RZ.out
      go_wp2
      exact bodyPost_ret (v := .tuple #[.agg #[.int .i64 0, .int .i64 0], .int .i64 4]) (by simp [results, Try.results58, go_sem, z0, z1]) rfl ⟨resT_of (encT_none HI.out HN.out), B1.out.setCell (by simp) _ |>.setCell (by simp) _⟩
    · have hn0 : ((ps.length : Int) == 0) = false := by simp; intro h; subst h; simp at hn
      have hn1 : (1 : Int) ≤ (ps.length : Int) := by omega
      have hn2 : (ps.length : Int) ≤ (cap : Int) := by omega
      have hn3 : (0 : Int) < (ps.length : Int) := by omega
      by_cases hc1 : cap = 1
      · subst hc1
        go_enter Try.func58, Try.ntmps58
        go_wp2_with fail
        refine (ier_any _ _ _ ps hl ((HZ.out.below ((Below.refl _ _).alloc (Nat.le_refl _) _)).more (by simp))).mono ?_
        rw [HI.out]
        rintro e w1 ⟨rfl, hb⟩
        have RZ := Lib.hid ((Rz.new w 48).keep hb (by simp))
        have hsz : w.heap.size < w1.heap.size := by have := hb.size; simp at this; omega
        have B1 : Hid (Below w.heap.size w w1) := Lib.hid (bel_end (by repeat (first | exact Below.refl _ _ | (refine Below.alloc ?_ (by simp <;> omega) _) | (refine Below.setCell ?_ (by simp <;> omega) _) | (refine Below.drew ?_) | (refine bel_drewN ?_ _))) hb)
        have HZ1 := Lib.hid (HZ.out.below B1.out)
        clear hb
        have h00 : 0 < ps.length := by omega
        obtain ⟨b, off, x0, y0, rfl, hB0, hxy0, hd1, hd2⟩ := HZ1.out.at_ h00
        rw [Nat.zero_mul, Nat.add_zero] at hd1 hd2
        have HX0 := Lib.hid hxy0
        clear hxy0
        go_wp2
        clear hd1 hd2
        go_loopw [24] (fun i wr => ∃ k : Nat, k + 1 ≤ ps.length ∧ i = .int .i64 (k : Int) ∧ Below w1.heap.size w1 wr ∧ wr.heap[w1.heap.size]? = some (.cells #[.int .i64 (hulL ps k), .int .i64 (hulH ps k)] 48 (0, 0))) (fun i _ => ps.length - (intOf i).toNat)
        case atStart => exact ⟨0, by omega, rfl, (Below.refl _ _).alloc (Nat.le_refl _) _, by rw [show hulL ps 0 = x0 from by show (ps.getD 0 (0, 0)).1 = _; rw [HX0.out], show hulH ps 0 = y0 from by show (ps.getD 0 (0, 0)).2 = _; rw [HX0.out]]; exact heap_alloc_new _ _⟩
        case round =>
          obtain ⟨k, hk, rfl, hb, hblk⟩ := hrel
          have g0 := (cell_of_row _ _ 0 _ _ _ hblk).trans (show _ = some (.int .i64 (hulL ps k)) from rfl)
          have g1 := (cell_of_row _ _ 1 _ _ _ hblk).trans (show _ = some (.int .i64 (hulH ps k)) from rfl)
          have e0 := frozen_of_row _ _ 0 _ _ hblk
          have e1 := frozen_of_row _ _ 1 _ _ hblk
          have hG := World.block_lt_of_cell? _ _ g0
          simp only [] at hG
          have HK := Lib.hid hblk
          obtain ⟨l, hl'⟩ : ∃ l, hulL ps k = l := ⟨_, rfl⟩
          obtain ⟨m, hm'⟩ : ∃ l, hulH ps k = l := ⟨_, rfl⟩
          by_cases hlt : k + 1 < ps.length
          · exact absurd hlt (by omega)
          · obtain rfl : k = ps.length - 1 := by omega
            have hb1 := hb
            have hlt' : ¬ ps.length - 1 < ps.length - 1 := by omega
            clear hl' hm'
            obtain ⟨⟨z0, z1⟩, z2, z3⟩ := RZ.out.keep hb hsz
            have HB := Lib.hid (bel_end B1.out hb)
            have hlt3 : w.heap.size < wr.heap.size := Nat.lt_trans hsz hG
            clear hb hblk hb1
            go_wp2
            exact bodyPost_ret (v := .tuple #[.agg #[.int .i64 (hulL ps 0), .int .i64 (hulH ps 0)], .int .i64 0]) (by simp [results, Try.results58, go_sem, z0, z1]) rfl ⟨resT_of (by rw [encT_ok HI.out (by omega), show ps.length - 1 = 0 by omega]), HB.out.setCell (by simp) _ |>.setCell (by simp) _⟩
      · have hc1' : ¬ (cap : Int) = 1 := by omega
        go_enter Try.func58, Try.ntmps58
        go_wp2_with fail
        refine (ier_any _ _ _ ps hl ((HZ.out.below ((Below.refl _ _).alloc (Nat.le_refl _) _)).more (by simp))).mono ?_
        rw [HI.out]
        rintro e w1 ⟨rfl, hb⟩
        have RZ := Lib.hid ((Rz.new w 48).keep hb (by simp))
        have hsz : w.heap.size < w1.heap.size := by have := hb.size; simp at this; omega
        have B1 : Hid (Below w.heap.size w w1) := Lib.hid (bel_end (by repeat (first | exact Below.refl _ _ | (refine Below.alloc ?_ (by simp <;> omega) _) | (refine Below.setCell ?_ (by simp <;> omega) _) | (refine Below.drew ?_) | (refine bel_drewN ?_ _))) hb)
        have HZ1 := Lib.hid (HZ.out.below B1.out)
        clear hb
        have h00 : 0 < ps.length := by omega
        obtain ⟨b, off, x0, y0, rfl, hB0, hxy0, hd1, hd2⟩ := HZ1.out.at_ h00
        rw [Nat.zero_mul, Nat.add_zero] at hd1 hd2
        have HX0 := Lib.hid hxy0
        clear hxy0
        go_wp2
        clear hd1 hd2
        go_loopw [24] (fun i wr => ∃ k : Nat, k + 1 ≤ ps.length ∧ i = .int .i64 (k : Int) ∧ Below w1.heap.size w1 wr ∧ wr.heap[w1.heap.size]? = some (.cells #[.int .i64 (hulL ps k), .int .i64 (hulH ps k)] 48 (0, 0))) (fun i _ => ps.length - (intOf i).toNat)
        case atStart => exact ⟨0, by omega, rfl, (Below.refl _ _).alloc (Nat.le_refl _) _, by rw [show hulL ps 0 = x0 from by show (ps.getD 0 (0, 0)).1 = _; rw [HX0.out], show hulH ps 0 = y0 from by show (ps.getD 0 (0, 0)).2 = _; rw [HX0.out]]; exact heap_alloc_new _ _⟩
        case round =>
          obtain ⟨k, hk, rfl, hb, hblk⟩ := hrel
          have g0 := (cell_of_row _ _ 0 _ _ _ hblk).trans (show _ = some (.int .i64 (hulL ps k)) from rfl)
          have g1 := (cell_of_row _ _ 1 _ _ _ hblk).trans (show _ = some (.int .i64 (hulH ps k)) from rfl)
          have e0 := frozen_of_row _ _ 0 _ _ hblk
          have e1 := frozen_of_row _ _ 1 _ _ hblk
          have hG := World.block_lt_of_cell? _ _ g0
          simp only [] at hG
          have HK := Lib.hid hblk
          obtain ⟨l, hl'⟩ : ∃ l, hulL ps k = l := ⟨_, rfl⟩
          obtain ⟨m, hm'⟩ : ∃ l, hulH ps k = l := ⟨_, rfl⟩
          by_cases hlt : k + 1 < ps.length
          · obtain ⟨b', off', x, y, he, hB, hxy, hc1, hc2⟩ := (HZ1.out.below (hb.mono (Nat.le_of_lt hsz))).at_ hlt
            simp only [Option.some.injEq, Addr.mk.injEq, and_true] at he
            obtain ⟨he1, he2⟩ := he
            subst he1 he2
            have hc1' : wr.cell? ⟨b, off + 2 + k * 2, none⟩ = some (.int .i64 x) := by rw [show off + 2 + k * 2 = off + (k + 1) * 2 by omega]; exact hc1
            have hc2' : wr.cell? ⟨b, off + 2 + k * 2 + 1, none⟩ = some (.int .i64 y) := by rw [show off + 2 + k * 2 = off + (k + 1) * 2 by omega]; exact hc2
            have hlt' : k < ps.length - 1 := by omega
            clear hc1 hc2
            rw [hl'] at g0
            rw [hm'] at g1
            have hbne : ¬ b = w1.heap.size := by omega
            have HB := Lib.hid hb
            have HX := Lib.hid hxy
            have HL := Lib.hid hl'
            have HM := Lib.hid hm'
            clear hb hxy hblk hl' hm'
            go_wp2_with fail
            refine (jwi_any _ _ _ _ _).mono ?_
            rintro e w5 ⟨rfl, hbj⟩
            have hbA : Below wr.heap.size wr w5 := bel_end ((Below.refl _ _).alloc (Nat.le_refl _) _) hbj
            have hk5 := (hbA.block _ hG).trans HK.out
            replace HB := Lib.hid (bel_step HB.out hbA (Nat.le_refl _))
            clear hbj hbA g0 g1 e0 e1
            have g0 := (cell_of_row _ _ 0 _ _ _ hk5).trans (show _ = some (.int .i64 (hulL ps k)) from rfl)
            have g1 := (cell_of_row _ _ 1 _ _ _ hk5).trans (show _ = some (.int .i64 (hulH ps k)) from rfl)
            have e0 := frozen_of_row _ _ 0 _ _ hk5
            have e1 := frozen_of_row _ _ 1 _ _ hk5
            have HK5 := Lib.hid hk5
            clear hk5
            go_wp2
            go_roundw
            case rel => exact ⟨k + 1, by omega, by go_num, (HB.out.setCell (Nat.le_refl _) _).setCell (Nat.le_refl _) _, by
                rw [show hulL ps (k + 1) = mnI l x from by rw [← HL.out]; show mnI _ (ps.getD (k + 1) (0, 0)).1 = _; rw [HX.out], show hulH ps (k + 1) = mxI m y from by rw [← HM.out]; show mxI _ (ps.getD (k + 1) (0, 0)).2 = _; rw [HX.out]]
                exact blk_set2 HK5.out⟩
            case measure => simp [intOf]; omega
          · obtain rfl : k = ps.length - 1 := by omega
            have hb1 := hb
            have hlt' : ¬ ps.length - 1 < ps.length - 1 := by omega
            clear hl' hm'
            obtain ⟨⟨z0, z1⟩, z2, z3⟩ := RZ.out.keep hb hsz
            have HB := Lib.hid (bel_end B1.out hb)
            have hlt3 : w.heap.size < wr.heap.size := Nat.lt_trans hsz hG
            clear hb hblk hb1
            go_wp2
            exact bodyPost_ret (v := .tuple #[.agg #[.int .i64 (hulL ps (ps.length - 1)), .int .i64 (hulH ps (ps.length - 1))], .int .i64 0]) (by simp [results, Try.results58, go_sem, z0, z1]) rfl ⟨resT_of (encT_ok HI.out (by omega)), HB.out.setCell (by simp) _ |>.setCell (by simp) _⟩
  · have hne : (ierr ps != 0) = true := by simpa using hi
    have HI := Lib.hid hi
    clear hi
    obtain ⟨c, hc⟩ : ∃ c, ierr ps = c := ⟨_, rfl⟩
    have HC := Lib.hid hc
    rw [hc] at hne
    clear hc
    go_enter Try.func58, Try.ntmps58
    go_wp2_with fail
    refine (ier_any _ _ _ ps hl ((HZ.out.below ((Below.refl _ _).alloc (Nat.le_refl _) _)).more (by simp))).mono ?_
    rw [HC.out]
    rintro e w1 ⟨rfl, hb⟩
    have RZ := Lib.hid ((Rz.new w 48).keep hb (by simp))
    have hsz : w.heap.size < w1.heap.size := by have := hb.size; simp at this; omega
    have B1 : Hid (Below w.heap.size w w1) := Lib.hid (bel_end (by repeat (first | exact Below.refl _ _ | (refine Below.alloc ?_ (by simp <;> omega) _) | (refine Below.setCell ?_ (by simp <;> omega) _) | (refine Below.drew ?_) | (refine bel_drewN ?_ _))) hb)
    have HZ1 := Lib.hid (HZ.out.below B1.out)
    clear hb
    obtain ⟨⟨z0, z1⟩, z2, z3⟩ := RZ.out
    go_wp2
    exact bodyPost_ret (v := .tuple #[.agg #[.int .i64 0, .int .i64 0], .int .i64 c]) (by simp [results, Try.results58, go_sem, z0, z1]) rfl ⟨resT_of (by rw [encT_bad HI.out, HC.out]), B1.out.setCell (by simp) _ |>.setCell (by simp) _⟩
set_option maxRecDepth 100000 in
set_option maxHeartbeats 4000000 in
theorem sen_any (w : World) (a : Option Addr) (cap : Nat) (ps : List (Int × Int)) (hl : ps.length ≤ 1048576) (hz : Ivs w w.heap.size a ps) :
    Calls Try.prog 56 #[.slice a ps.length cap] w fun e w' => e = .returned (.tuple #[.agg #[.int .i64 (encT ps).1, .int .i64 (encT ps).2.1], .int .i64 (encT ps).2.2]) ∧ Below w.heap.size w w' := by
  have HZ := Lib.hid hz
  clear hz
  by_cases hbig : 200 < ps.length
  · have HI := Lib.hid (ierr_long hbig)
    have h1 : (200 : Int) < (ps.length : Int) := by omega
    clear hbig
    go_enter Try.func56, Try.ntmps56
    go_wp2
    exact bodyPost_ret (v := .tuple #[.agg #[.int .i64 0, .int .i64 0], .int .i64 3]) (by simp [results, Try.results56, go_sem]) rfl ⟨resT_of (by rw [encT_bad (by rw [HI.out]; decide), HI.out]), (by repeat (first | exact Below.refl _ _ | (refine Below.alloc ?_ (by simp <;> omega) _) | (refine Below.setCell ?_ (by simp <;> omega) _) | (refine Below.drew ?_) | (refine bel_drewN ?_ _)))⟩
  · have h1 : ¬ (200 : Int) < (ps.length : Int) := by omega
    have h2 : decide ((200 : Int) < (ps.length : Int)) = false := by simp; omega
    cases hv : allV ps
    · have HI := Lib.hid (ierr_bad hbig hv)
      have HV := Lib.hid hv
      clear hbig hv
      go_enter Try.func56, Try.ntmps56
      go_wp2_with fail
      refine (lal_any _ _ _ ps hl ((HZ.out.below ((Below.refl _ _).alloc (Nat.le_refl _) _)).more (by simp))).mono ?_
      rw [HV.out]
      rintro e w1 ⟨rfl, hb⟩
      have RZ := Lib.hid ((Rz.new w 48).keep hb (by simp))
      have hsz : w.heap.size < w1.heap.size := by have := hb.size; simp at this; omega
      have B1 : Hid (Below w.heap.size w w1) := Lib.hid (bel_end (by repeat (first | exact Below.refl _ _ | (refine Below.alloc ?_ (by simp <;> omega) _) | (refine Below.setCell ?_ (by simp <;> omega) _) | (refine Below.drew ?_) | (refine bel_drewN ?_ _))) hb)
      have HZ1 := Lib.hid (HZ.out.below B1.out)
      clear hb
      obtain ⟨⟨z0, z1⟩, z2, z3⟩ := RZ.out
      go_wp2
      exact bodyPost_ret (v := .tuple #[.agg #[.int .i64 0, .int .i64 0], .int .i64 1]) (by simp [results, Try.results56, go_sem, z0, z1]) rfl ⟨resT_of (by rw [encT_bad (by rw [HI.out]; decide), HI.out]), B1.out.setCell (by simp) _ |>.setCell (by simp) _⟩
    · have HI := Lib.hid (ierr_ok hbig hv)
      have HV := Lib.hid hv
      clear hbig hv
      by_cases hn : ps.length = 0
      · have hn0 : ((ps.length : Int) == 0) = true := by simp; exact List.eq_nil_of_length_eq_zero hn
        have HN := Lib.hid hn
        clear hn
        go_enter Try.func56, Try.ntmps56
        go_wp2_with fail
        refine (lal_any _ _ _ ps hl ((HZ.out.below ((Below.refl _ _).alloc (Nat.le_refl _) _)).more (by simp))).mono ?_
        rw [HV.out]
        rintro e w1 ⟨rfl, hb⟩
        have RZ := Lib.hid ((Rz.new w 48).keep hb (by simp))
        have hsz : w.heap.size < w1.heap.size := by have := hb.size; simp at this; omega
        have B1 : Hid (Below w.heap.size w w1) := Lib.hid (bel_end (by repeat (first | exact Below.refl _ _ | (refine Below.alloc ?_ (by simp <;> omega) _) | (refine Below.setCell ?_ (by simp <;> omega) _) | (refine Below.drew ?_) | (refine bel_drewN ?_ _))) hb)
        have HZ1 := Lib.hid (HZ.out.below B1.out)
        clear hb
        obtain ⟨⟨z0, z1⟩, z2, z3⟩ := RZ.out
        go_wp2
        exact bodyPost_ret (v := .tuple #[.agg #[.int .i64 0, .int .i64 0], .int .i64 4]) (by simp [results, Try.results56, go_sem, z0, z1]) rfl ⟨resT_of (encT_none HI.out HN.out), B1.out.setCell (by simp) _ |>.setCell (by simp) _⟩
      · have hn0 : ((ps.length : Int) == 0) = false := by simp; intro h; subst h; simp at hn
        have hn3 : (0 : Int) < (ps.length : Int) := by omega
        go_enter Try.func56, Try.ntmps56
        go_wp2_with fail
        refine (lal_any _ _ _ ps hl ((HZ.out.below ((Below.refl _ _).alloc (Nat.le_refl _) _)).more (by simp))).mono ?_
        rw [HV.out]
        rintro e w1 ⟨rfl, hb⟩
        have RZ := Lib.hid ((Rz.new w 48).keep hb (by simp))
        have hsz : w.heap.size < w1.heap.size := by have := hb.size; simp at this; omega
        have B1 : Hid (Below w.heap.size w w1) := Lib.hid (bel_end (by repeat (first | exact Below.refl _ _ | (refine Below.alloc ?_ (by simp <;> omega) _) | (refine Below.setCell ?_ (by simp <;> omega) _) | (refine Below.drew ?_) | (refine bel_drewN ?_ _))) hb)
        have HZ1 := Lib.hid (HZ.out.below B1.out)
        clear hb
        have h00 : 0 < ps.length := by omega
        obtain ⟨b, off, x0, y0, rfl, hB0, hxy0, hd1, hd2⟩ := HZ1.out.at_ h00
        rw [Nat.zero_mul, Nat.add_zero] at hd1 hd2
        have HX0 := Lib.hid hxy0
        clear hxy0
        go_wp2
        clear hd1 hd2
        go_loopw [5] (fun i wr => ∃ k : Nat, k + 1 ≤ ps.length ∧ i = .int .i64 ((k : Int) + 1) ∧ Below w1.heap.size w1 wr ∧ wr.heap[w1.heap.size]? = some (.cells #[.int .i64 (hulL ps k), .int .i64 (hulH ps k)] 48 (0, 0))) (fun i _ => ps.length - (intOf i).toNat)
        case atStart => exact ⟨0, by omega, rfl, (Below.refl _ _).alloc (Nat.le_refl _) _, by rw [show hulL ps 0 = x0 from by show (ps.getD 0 (0, 0)).1 = _; rw [HX0.out], show hulH ps 0 = y0 from by show (ps.getD 0 (0, 0)).2 = _; rw [HX0.out]]; exact heap_alloc_new _ _⟩
        case round =>
          obtain ⟨k, hk, rfl, hb, hblk⟩ := hrel
          have g0 := (cell_of_row _ _ 0 _ _ _ hblk).trans (show _ = some (.int .i64 (hulL ps k)) from rfl)
          have g1 := (cell_of_row _ _ 1 _ _ _ hblk).trans (show _ = some (.int .i64 (hulH ps k)) from rfl)
          have e0 := frozen_of_row _ _ 0 _ _ hblk
          have e1 := frozen_of_row _ _ 1 _ _ hblk
          have hG := World.block_lt_of_cell? _ _ g0
          simp only [] at hG
          have HK := Lib.hid hblk
          obtain ⟨l, hl'⟩ : ∃ l, hulL ps k = l := ⟨_, rfl⟩
          obtain ⟨m, hm'⟩ : ∃ l, hulH ps k = l := ⟨_, rfl⟩
          by_cases hlt : k + 1 < ps.length
          · obtain ⟨b', off', x, y, he, hB, hxy, hc1, hc2⟩ := (HZ1.out.below (hb.mono (Nat.le_of_lt hsz))).at_ hlt
            simp only [Option.some.injEq, Addr.mk.injEq, and_true] at he
            obtain ⟨he1, he2⟩ := he
            subst he1 he2
            have hc1' : wr.cell? ⟨b, off + (k + 1) * 2, none⟩ = some (.int .i64 x) := hc1
            have hlt' : ((k : Int) + 1) < (ps.length : Int) := by omega
            rw [hl'] at g0
            rw [hm'] at g1
            have hbne : ¬ b = w1.heap.size := by omega
            have HB := Lib.hid hb
            have HX := Lib.hid hxy
            have HL := Lib.hid hl'
            have HM := Lib.hid hm'
            clear hb hxy hblk hl' hm'
            have i1 : (0 : Int) ≤ (k : Int) + 1 := by omega
            have i2 : ((k : Int) + 1).toNat = k + 1 := by omega
            go_wp2_with fail
            go_still_tail 5, (by kernel_rfl)
            clear i2
            go_wp2_with fail
            refine (hul_any _ _ _ _ _).mono ?_
            rintro e w5 ⟨rfl, hb⟩
            have hblk5 := (hb.block w1.heap.size hG).trans HK.out
            have g0' := (cell_of_row _ _ 0 _ _ _ hblk5).trans (show _ = some (.int .i64 (hulL ps k)) from rfl)
            have g1' := (cell_of_row _ _ 1 _ _ _ hblk5).trans (show _ = some (.int .i64 (hulH ps k)) from rfl)
            have e0' := frozen_of_row _ _ 0 _ _ hblk5
            have e1' := frozen_of_row _ _ 1 _ _ hblk5
            have HK5 := Lib.hid hblk5
            have HB5 := Lib.hid (HB.out.drew.trans (hb.mono HB.out.size))
            clear hb hblk5
            go_wp2
            go_roundw
            case rel => exact ⟨k + 1, by omega, by go_num, (HB5.out.setCell (Nat.le_refl _) _).setCell (Nat.le_refl _) _, by
              rw [show hulL ps (k + 1) = mnI l x from by rw [← HL.out]; show mnI _ (ps.getD (k + 1) (0, 0)).1 = _; rw [HX.out], show hulH ps (k + 1) = mxI m y from by rw [← HM.out]; show mxI _ (ps.getD (k + 1) (0, 0)).2 = _; rw [HX.out]]
              exact blk_set2 HK5.out⟩
            case measure => simp [intOf]; omega
          · obtain rfl : k = ps.length - 1 := by omega
            have hb1 := hb
            have hlt' : ¬ (((ps.length - 1 : Nat) : Int) + 1) < (ps.length : Int) := by omega
            clear hl' hm'
            obtain ⟨⟨z0, z1⟩, z2, z3⟩ := RZ.out.keep hb hsz
            have HB := Lib.hid (bel_end B1.out hb)
            have hlt3 : w.heap.size < wr.heap.size := Nat.lt_trans hsz hG
            clear hb hblk hb1
            go_wp2
            exact bodyPost_ret (v := .tuple #[.agg #[.int .i64 (hulL ps (ps.length - 1)), .int .i64 (hulH ps (ps.length - 1))], .int .i64 0]) (by simp [results, Try.results56, go_sem, z0, z1]) rfl ⟨resT_of (encT_ok HI.out (by omega)), HB.out.setCell (by simp) _ |>.setCell (by simp) _⟩
end Go.Proofs.Ytaaklnabomhleaa
