/- Contracts of MetresText, the program's and the model's: both hand back the same text at every 64-bit integer. -/
import Derived.Test.YtadgkhpdckocmaaDoorNumB
import Derived.Test.YtadgkhpdckocmaaDoorTxt
import Derived.Test.YtadgkhpdckocmaaDoorFShelf
import Derived.Lib.AppendIntMem
namespace Go.Proofs.YtadgkhpdckocmaaDoor
open Go.ChangeShapes Go.WideShapes Go.ChangeAt Go.RowKit
set_option linter.unusedVariables false
/-- the table that the library reads, in every later world -/
def Pow10 (w : World) : Prop := Lib.TabBelow Tryd.prog w.heap.size w "internal/strconv.uint64pow10" .u64 Lib.pow10Tab
theorem Pow10.later {w w' : World} (h : Pow10 w) (hb : Below w.heap.size w w') : Pow10 w' := fun w2 h2 => h w2 (hb.trans (h2.mono hb.size))
theorem below_grow (w : World) (k : Nat) (os : Array Obj) : Below w.heap.size w (Sort.grow (w.drewN k) os) :=
  ⟨rfl, rfl, rfl, by simp, fun j hj => Sort.heap_grow_old (w.drewN k) os hj⟩
theorem itoa_eq {x : Int} (h : 0 ≤ x) : (⟨(Lib.itoa x).toArray⟩ : ByteArray) = dstr x.toNat := by
  unfold dstr Lib.itoa; rw [if_neg (by omega)]
theorem fmt_any (x : Int) (h0 : 0 ≤ x) (h1 : x ≤ 9223372036854775807) (w : World) (ht : Pow10 w) :
    Calls Tryd.prog 17 #[.int .i64 x, .int .i64 10] w (Told w (dstr x.toNat)) :=
  (show Calls Tryd.prog 17 #[.int .i64 x, .int .i64 10] w _ from Any.strconv_FormatInt_10 Tryd.laysM173 x (by omega) h1 w ht.here).mono fun e w' ⟨he, k, os, hw⟩ => by
    subst hw
    exact ⟨by rw [he, itoa_eq h0], below_grow _ _ _⟩
theorem conv2_new (w : World) (z y : Int) : (convert 22 9 (.slice (some ⟨w.heap.size, 0, none⟩) 2 2)).run Tryd.prog (w.alloc (.cells #[.int .u8 z, .int .u8 y] 5)) = .ok (.string (let2 z y)) (w.alloc (.cells #[.int .u8 z, .int .u8 y] 5)) :=
  run_convert_bytes_arg (P := Tryd.prog) _ 22 5 Tryd.underlying22 Tryd.underlying5 w.heap.size 0 2 2 [z, y] rfl (fun i hi => by
    rw [Nat.zero_add]
    refine (cell_of_row _ _ i _ _ _ (heap_alloc_new w _)).trans ?_
    match i, hi with
    | 0, _ => rfl
    | 1, _ => rfl) 9 Tryd.underlying9

/-- the text of a number of centimetres; empty beside a number that is no value -/
def metT (x : Int) : ByteArray :=
  if valB x then (if x < 0 then ⟨#[45]⟩ else ⟨#[]⟩) ++ dstr (x.natAbs / 100) ++ ⟨#[46]⟩ ++ dstr (x.natAbs / 10 % 10) ++ dstr (x.natAbs % 10) else ⟨#[]⟩
theorem metT_no {x : Int} (h : valB x = false) : metT x = ⟨#[]⟩ := by unfold metT; rw [h]; rfl
theorem metT_neg {x : Int} (h : valB x = true) (g : x < 0) : metT x = ⟨#[45]⟩ ++ dstr (x.natAbs / 100) ++ ⟨#[46]⟩ ++ dstr (x.natAbs / 10 % 10) ++ dstr (x.natAbs % 10) := by
  unfold metT; rw [h, if_pos g]; rfl
theorem metT_pos {x : Int} (h : valB x = true) (g : ¬ x < 0) : metT x = ⟨#[]⟩ ++ dstr (x.natAbs / 100) ++ ⟨#[46]⟩ ++ dstr (x.natAbs / 10 % 10) ++ dstr (x.natAbs % 10) := by
  unfold metT; rw [h, if_neg g]; rfl
theorem let2_eq {a b : Nat} (ha : a < 10) (hb : b < 10) : let2 (48 + (a : Int)) (48 + (b : Int)) = dstr a ++ dstr b := by
  rw [← let1_dig ha, ← let1_dig hb]
  unfold let2 let1 strOfNums
  apply ByteArray.ext
  simp [ByteArray.data_append]

set_option maxHeartbeats 1000000 in
theorem smt_any (x : Int) (w : World) :
    Calls Tryd.prog 12 #[.int .i64 x] w (Told w (metT x)) := by
  cases h : valB x
  · have H := Lib.hid (metT_no h)
    go_enter Tryd.func12, Tryd.ntmps12
    go_wp2_with (go_at_call 21; refine (isl_any _ _).mono ?_; rintro e w' ⟨rfl, rfl⟩)
    go_ret
    exact ⟨ret_str H.out.symm, Below.refl _ _⟩
  · obtain ⟨x1, x2⟩ := valB_t h
    have H1 := Lib.hid (fun g => metT_neg h g)
    have H2 := Lib.hid (fun g => metT_pos h g)
    obtain ⟨m, hm⟩ : ∃ m, x.natAbs = m := ⟨_, rfl⟩
    rw [hm] at H1 H2
    have hmb : m ≤ 1000000000000 := by omega
    have HM := Lib.hid hm
    clear hm
    have s1 := dstr_size (n := m / 100) (by omega)
    have s2 := dstr_size (n := m / 10 % 10) (by omega)
    have s3 := dstr_size (n := m % 10) (by omega)
    have D1 := Lib.hid (fun w => dec_any 18 ((m : Int) / 100) w (by omega) (by omega) (by omega))
    have D2 := Lib.hid (fun w => dec_any 18 ((m : Int) / 10 % 10) w (by omega) (by omega) (by omega))
    have D3 := Lib.hid (fun w => dec_any 18 ((m : Int) % 10) w (by omega) (by omega) (by omega))
    rw [show ((m : Int) / 100).toNat = m / 100 by omega] at D1
    rw [show ((m : Int) / 10 % 10).toNat = m / 10 % 10 by omega] at D2
    rw [show ((m : Int) % 10).toNat = m % 10 by omega] at D3
    by_cases hs : x < 0
    all_goals
      go_enter Tryd.func12, Tryd.ntmps12
      go_wp2_with (first | (go_at_call 21; refine (isl_any _ _).mono ?_; rw [h]; rintro e w' ⟨rfl, rfl⟩) | (go_at_call 22; refine (lab_any _ (by omega) (by omega) _).mono ?_; rw [HM.out]; rintro e w' ⟨rfl, rfl⟩))
      refine (D1.out _).mono ?_
      rintro e w1 ⟨rfl, hb1⟩
      go_wp2_with fail
      refine (D2.out _).mono ?_
      rintro e w2 ⟨rfl, hb2⟩
      go_wp2_with fail
      refine (D3.out _).mono ?_
      rintro e w3 ⟨rfl, hb3⟩
      go_wp2_with fail
      go_ret
      first
        | exact ⟨ret_str (H1.out hs).symm, hb1.trans ((hb2.trans (hb3.mono hb2.size)).mono hb1.size)⟩
        | exact ⟨ret_str (H2.out (by omega)).symm, hb1.trans ((hb2.trans (hb3.mono hb2.size)).mono hb1.size)⟩

set_option maxHeartbeats 1000000 in
theorem imt_any (x : Int) (w : World) (ht : Pow10 w) :
    Calls Tryd.prog 8 #[.int .i64 x] w (Told w (metT x)) := by
  cases h : valB x
  · have H := Lib.hid (metT_no h)
    clear ht
    go_enter Tryd.func8, Tryd.ntmps8
    go_wp2_with (go_at_call 15; refine (isv_any _ _).mono ?_; rintro e w' ⟨rfl, rfl⟩)
    go_ret
    exact ⟨ret_str H.out.symm, Below.refl _ _⟩
  · obtain ⟨x1, x2⟩ := valB_t h
    have H1 := Lib.hid (fun g => metT_neg h g)
    have H2 := Lib.hid (fun g => metT_pos h g)
    have HT := Lib.hid ht
    clear ht
    obtain ⟨m, hm⟩ : ∃ m, x.natAbs = m := ⟨_, rfl⟩
    rw [hm] at H1 H2
    have hmb : m ≤ 1000000000000 := by omega
    have HM := Lib.hid hm
    clear hm
    have s1 := dstr_size (n := m / 100) (by omega)
    have s2 : (let2 (48 + (m : Int) / 10 % 10) (48 + (m : Int) % 10)).size ≤ 2 := by unfold let2; rw [strOfNums_size]; simp
    have D1 := Lib.hid (fun w ht => fmt_any ((m : Int) / 100) (by omega) (by omega) w ht)
    rw [show ((m : Int) / 100).toNat = m / 100 by omega] at D1
    have E2 : Hid (let2 (48 + (m : Int) / 10 % 10) (48 + (m : Int) % 10) = dstr (m / 10 % 10) ++ dstr (m % 10)) := Lib.hid (by
      rw [← let2_eq (by omega) (by omega)]; congr 2)
    have A2 : ∀ s : ByteArray, s ++ dstr (m / 10 % 10) ++ dstr (m % 10) = s ++ let2 (48 + (m : Int) / 10 % 10) (48 + (m : Int) % 10) := fun s => by
      rw [E2.out, ByteArray.append_assoc]
    rw [A2] at H1 H2
    clear A2
    have hcv := conv2_new
    by_cases hs : x < 0
    all_goals
      go_enter Tryd.func8, Tryd.ntmps8
      go_wp2_with (first | (go_at_call 15; refine (isv_any _ _).mono ?_; rw [h]; rintro e w' ⟨rfl, rfl⟩) | (go_at_call 16; refine (abs_any _ (by omega) (by omega) _).mono ?_; rw [HM.out]; rintro e w' ⟨rfl, rfl⟩))
      refine (D1.out _ (HT.out.later ((Below.refl _ _).alloc (Nat.le_refl _) _))).mono ?_
      rintro e w1 ⟨rfl, hb1⟩
      go_wp2_with fail
      go_ret
      first
        | exact ⟨ret_str (H1.out hs).symm, ((Below.refl _ _).alloc (Nat.le_refl _) _).trans (hb1.mono (by simp))⟩
        | exact ⟨ret_str (H2.out (by omega)).symm, ((Below.refl _ _).alloc (Nat.le_refl _) _).trans (hb1.mono (by simp))⟩

theorem lmt (a0 : Int) (w0 : (Lit.int .i64 a0).wf = true) (w : World) (ht : Pow10 w) :
    Calls Tryd.prog 4 #[.int .i64 a0] w fun e w' => e = .returned (.bool true) ∧ Below w.heap.size w w' := by
  have HT := Lib.hid ht
  clear ht w0
  go_enter Tryd.func4, Tryd.ntmps4
  go_wp2_with fail
  refine (smt_any a0 _).mono ?_
  rintro e w1 ⟨rfl, hb1⟩
  have B1 := Lib.hid hb1
  clear hb1
  go_wp2_with fail
  refine (imt_any a0 _ (HT.out.later B1.out)).mono ?_
  rintro e w2 ⟨rfl, hb2⟩
  have B2 := Lib.hid (B1.out.trans (hb2.mono B1.out.size))
  clear hb2
  go_wp2_with fail
  go_ret
  exact ⟨rfl, B2.out⟩
end Go.Proofs.YtadgkhpdckocmaaDoor
