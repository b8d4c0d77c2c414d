/- Contracts of the laws' own helpers on slices of intervals: a copy, a comparison of equal ones, a bound on their length. -/
import Derived.Test.YtaaklnabomhleaaEnc
import Derived.Deep.OwnRows
namespace Go.Proofs.Ytaaklnabomhleaa
open Go.ChangeShapes Go.WideShapes Go.ChangeAt Go.RowKit Num
set_option linter.unusedVariables false
theorem info_iv : (Try.prog.info? 48).map (fun i => (i.zero, i.size, i.bytes)) = some (some (.agg #[.int .i64 0, .int .i64 0]), 2, 16) := by kernel_rfl
/-- the pairs as the cells of a row -/
def flat (ps : List (Int × Int)) (k i : Nat) : Value := if i < 2 * k then .int .i64 (if i % 2 = 0 then (ps.getD (i / 2) (0, 0)).1 else (ps.getD (i / 2) (0, 0)).2) else .int .i64 0
theorem made_zero (n : Nat) : ∀ i, i < (madeCells #[.int .i64 0, .int .i64 0] n).size → (madeCells #[.int .i64 0, .int .i64 0] n)[i]? = some (.int .i64 0) := by
  intro i hi
  rw [size_madeCells] at hi
  have : i % 2 < 2 := Nat.mod_lt _ (by omega)
  rcases (by omega : i % 2 = 0 ∨ i % 2 = 1) with h | h <;> simp [madeCells, hi, h]
theorem run_make_iv (n : Nat) (hn : n ≤ 1048576) (w : World) :
    (Instr.makeSlice 64 (.int .i64 (n : Int)) (.int .i64 (n : Int))).run Try.prog w = .ok (.slice (some ⟨w.heap.size, 0, none⟩) n n) (w.alloc (.cells (madeCells #[.int .i64 0, .int .i64 0] (n * 2)) 48)) := by
  obtain ⟨i, hi, hzz⟩ := Option.map_eq_some_iff.1 info_iv
  simp only [Prod.mk.injEq] at hzz
  obtain ⟨hz, hs, hb⟩ := hzz
  have h := run_make (P := Try.prog) (w := w) 64 48 i _ Try.underlying64 hi hz .i64 .i64 (n : Int) (n : Int) (by omega) (Int.le_refl _) (by rw [hb]; omega) (by omega)
  simpa only [Int.toNat_natCast, hs, Value.cells] using h

/-- a new slice that holds the pairs -/
def NewIvs (w : World) (ps : List (Int × Int)) (e : Ending) (w' : World) : Prop :=
  ∃ g, e = .returned (.slice (some ⟨g, 0, none⟩) ps.length ps.length) ∧ w.heap.size ≤ g ∧ Ivs w' w'.heap.size (some ⟨g, 0, none⟩) ps ∧ Below w.heap.size w w'
theorem Ivs.of_flat {w : World} {g : Nat} {t : TypeId} {ps : List (Int × Int)} (h : w.rowIs g t (ps.length * 2) (flat ps ps.length)) : Ivs w w.heap.size (some ⟨g, 0, none⟩) ps :=
  fun _ => ⟨g, 0, rfl, h.lt, fun j hj => by
    have h1 := h.cell (i := j * 2) (by omega)
    have h2 := h.cell (i := j * 2 + 1) (by omega)
    rw [show flat ps ps.length (j * 2) = .int .i64 (ps.getD j (0, 0)).1 from by unfold flat; rw [if_pos (by omega), if_pos (by omega), show j * 2 / 2 = j by omega]] at h1
    rw [show flat ps ps.length (j * 2 + 1) = .int .i64 (ps.getD j (0, 0)).2 from by unfold flat; rw [if_pos (by omega), if_neg (by omega), show (j * 2 + 1) / 2 = j by omega]] at h2
    exact ⟨by rw [Nat.zero_add]; exact h1, by rw [Nat.zero_add]; exact h2⟩⟩
theorem flat_step {w : World} {g n k : Nat} {t : TypeId} {ps : List (Int × Int)} {x y : Int} (h : w.rowIs g t n (flat ps k)) (hx : ps.getD k (0, 0) = (x, y)) :
    ((w.setCell ⟨g, k * 2, none⟩ (.int .i64 x)).setCell ⟨g, k * 2 + 1, none⟩ (.int .i64 y)).rowIs g t n (flat ps (k + 1)) := by
  refine ((h.set (k * 2) (.int .i64 x)).set (k * 2 + 1) (.int .i64 y)).congr fun i hi => ?_
  unfold flat
  by_cases e1 : i = k * 2 + 1
  · subst e1
    rw [if_pos rfl, if_pos (by omega), if_neg (by omega), show (k * 2 + 1) / 2 = k by omega, hx]
  · rw [if_neg e1]
    by_cases e2 : i = k * 2
    · subst e2
      rw [if_pos rfl, if_pos (by omega), if_pos (by omega), show k * 2 / 2 = k by omega, hx]
    · rw [if_neg e2]
      by_cases h3 : i < 2 * k
      · have h4 : i < 2 * (k + 1) := by omega
        simp only [if_pos h3, if_pos h4]
      · rw [if_neg h3, if_neg (by omega)]

set_option maxRecDepth 100000 in
set_option maxHeartbeats 1000000 in
theorem tos_any (w : World) (a : Option Addr) (cap : Nat) (ps : List (Int × Int)) (hl : ps.length ≤ 1048576) (hz : Ivs w w.heap.size a ps) :
    Calls Try.prog 57 #[.slice a ps.length cap] w (NewIvs w ps) := by
  have hmk := fun w => run_make_iv ps.length hl w
  go_enter Try.func57, Try.ntmps57
  go_wp2
  clear hmk
  go_loopw [4] (fun i wr => ∃ k : Nat, k ≤ ps.length ∧ i = .int .i64 k ∧ Below w.heap.size w wr ∧ wr.rowIs w.heap.size 48 (ps.length * 2) (flat ps k)) (fun i _ => ps.length - (intOf i).toNat)
  case atStart => exact ⟨0, by omega, rfl, (Below.refl _ _).alloc (Nat.le_refl _) _, by
    have h := World.rowIs_alloc w (madeCells #[.int .i64 0, .int .i64 0] (ps.length * 2)) 48 _ (made_zero _)
    rw [size_madeCells] at h
    exact h.congr (fun i hi => by unfold flat; rw [if_neg (by omega)])⟩
  case round =>
    obtain ⟨k, hk, rfl, hb, hrow⟩ := hrel
    by_cases hlt : k < ps.length
    · obtain ⟨b, off, x, y, rfl, hB, hxy, hc1, hc2⟩ := (hz.below hb).at_ hlt
      have HB := Lib.hid hb
      have HX := Lib.hid hxy
      have HR := Lib.hid hrow
      clear hb hxy hrow
      go_wp2_with fail
      refine (toi_any _ _ _).mono ?_
      rintro e w2 ⟨rfl, hb⟩
      have hrow2 := HR.out.of_block (hb.block w.heap.size HR.out.lt)
      have q0 := hrow2.cell (i := k * 2) (by omega)
      have q1 := hrow2.cell (i := k * 2 + 1) (by omega)
      rw [show flat ps k (k * 2) = .int .i64 0 from by unfold flat; rw [if_neg (by omega)]] at q0
      rw [show flat ps k (k * 2 + 1) = .int .i64 0 from by unfold flat; rw [if_neg (by omega)]] at q1
      have f0 := hrow2.frozen (k * 2)
      have f1 := hrow2.frozen (k * 2 + 1)
      have HR2 := Lib.hid hrow2
      have HB2 := Lib.hid (HB.out.trans (hb.mono HB.out.size))
      clear hb hrow2
      go_wp2
      go_roundw
      case rel => exact ⟨k + 1, by omega, by go_num, (HB2.out.setCell (by simp) _).setCell (by simp) _, flat_step HR2.out HX.out⟩
      case measure => simp [intOf]; omega
    · obtain rfl : k = ps.length := by omega
      go_wp2
      go_ret
      exact ⟨_, rfl, Nat.le_refl _, Ivs.of_flat hrow, hb⟩

set_option maxRecDepth 100000 in
set_option maxHeartbeats 1000000 in
theorem eqs_any (w : World) (B : Nat) (a b : Option Addr) (c d : Nat) (ps : List (Int × Int)) (hl : ps.length ≤ 1048576) (hB : B ≤ w.heap.size) (hx : Ivs w B a ps) (hy : Ivs w B b ps) :
    Calls Try.prog 59 #[.slice a ps.length c, .slice b ps.length d] w fun e w' => e = .returned (.bool true) ∧ Below w.heap.size w w' := by
  go_enter Try.func59, Try.ntmps59
  go_wp2
  go_loopw [5] (fun i wr => ∃ k : Nat, k ≤ ps.length ∧ i = .int .i64 k ∧ Below w.heap.size w wr) (fun i _ => ps.length - (intOf i).toNat)
  case atStart => exact ⟨0, by omega, rfl, Below.refl _ _⟩
  case round =>
    obtain ⟨k, hk, rfl, hb⟩ := hrel
    by_cases hlt : k < ps.length
    · obtain ⟨b1, o1, x, y, rfl, hB1, hxy, hc1, hc2⟩ := (hx.below (hb.mono hB)).at_ hlt
      obtain ⟨b2, o2, x', y', rfl, hB2, hxy2, hd1, hd2⟩ := (hy.below (hb.mono hB)).at_ hlt
      rw [hxy] at hxy2
      simp only [Prod.mk.injEq] at hxy2
      obtain ⟨e1, e2⟩ := hxy2
      subst e1 e2
      have HB := Lib.hid hb
      have HX := Lib.hid hx
      have HY := Lib.hid hy
      clear hb hxy hx hy
      go_wp2_with fail
      go_still_tail 8, (by kernel_rfl)
      go_wp2_with fail
      refine (eqv_any _ _ _ _ _).mono ?_
      rintro e w2 ⟨rfl, hb⟩
      have HB2 := Lib.hid (HB.out.drew.trans (hb.mono HB.out.size))
      clear hb
      go_wp2
      go_roundw
      case rel => exact ⟨k + 1, by omega, by go_num, HB2.out⟩
      case measure => simp [intOf]; omega
    · go_wp2
      go_ret
      exact ⟨rfl, hb⟩
theorem szs_any (w : World) (a : Option Addr) (n c : Nat) (hn : n ≤ 9223372036854775807) :
    Calls Try.prog 55 #[.slice a n c, .int .i64 1048576] w fun e w' => e = .returned (.int .i64 (if 1048576 < n then -1 else 1048576 - (n : Int))) ∧ w = w' := by
  by_cases h : 1048576 < n
  · have h1 : (1048576 : Int) - (n : Int) < 0 := by omega
    have HE : Hid ((if 1048576 < n then -1 else 1048576 - (n : Int)) = -1) := Lib.hid (if_pos h)
    clear h
    go_enter Try.func55, Try.ntmps55
    go_wp2
    go_ret
    exact ⟨rfl, rfl⟩
  · have h1 : ¬ (1048576 : Int) - (n : Int) < 0 := by omega
    have HE : Hid ((if 1048576 < n then -1 else 1048576 - (n : Int)) = 1048576 - (n : Int)) := Lib.hid (if_neg h)
    clear h
    go_enter Try.func55, Try.ntmps55
    go_wp2
    go_ret
    exact ⟨rfl, rfl⟩
end Go.Proofs.Ytaaklnabomhleaa
