/- Contracts of the model's decimal texts: the digits of a number of at least 0. -/
import Derived.Test.YtcaekheghjnipabDoorRows
import Derived.WalkKit
import Derived.ProofKit
import Derived.OpenShut
import Derived.Outline
import Derived.Below
import Derived.Lib.Hide
import Derived.Lib.ItoaNum
import Derived.Laws.BytesArg
import Derived.WalkSmall
import Derived.Deep.RegionWith
namespace Go.Proofs.YtcaekheghjnipabDoor
open Go.ChangeShapes Go.WideShapes Go.ChangeAt Go.RowKit
set_option linter.unusedVariables false
/-- the decimal digits of a number as a string -/
def dstr (n : Nat) : ByteArray := ⟨(Lib.decDigits n).toArray⟩
/-- a call hands back a string and writes nothing that was there -/
def Told (w : World) (s : ByteArray) (e : Ending) (w' : World) : Prop := e = .returned (.string s) ∧ Below w.heap.size w w'
/-- one letter -/
def let1 (z : Int) : ByteArray := strOfNums [z]
def let2 (z y : Int) : ByteArray := strOfNums [z, y]

theorem conv_cell {w : World} {b : Nat} {z : Int} (h : w.cell? ⟨b, 0, none⟩ = some (.int .u8 z)) :
    (convert 30 9 (.slice (some ⟨b, 0, none⟩) 1 1)).run Tryd.prog w = .ok (.string (let1 z)) w :=
  run_convert_bytes_arg (P := Tryd.prog) w 30 5 Tryd.underlying30 Tryd.underlying5 b 0 1 1 [z] rfl (fun i hi => by
    obtain rfl : i = 0 := by omega
    exact h) 9 Tryd.underlying9
theorem conv_new (w : World) (z : Int) : (convert 30 9 (.slice (some ⟨w.heap.size, 0, none⟩) 1 1)).run Tryd.prog (w.alloc (.cells #[.int .u8 z] 5)) = .ok (.string (let1 z)) (w.alloc (.cells #[.int .u8 z] 5)) :=
  conv_cell (cell_of_row _ _ 0 _ _ _ (heap_alloc_new w _))
theorem conv_newd (w : World) (z : Int) : (convert 30 9 (.slice (some ⟨w.heap.size, 0, none⟩) 1 1)).run Tryd.prog (w.alloc (.cells #[.int .u8 z] 5)).drew = .ok (.string (let1 z)) (w.alloc (.cells #[.int .u8 z] 5)).drew :=
  conv_cell (w := (w.alloc (.cells #[.int .u8 z] 5)).drew) (cell_of_row _ _ 0 _ _ _ (heap_alloc_new w _))
theorem let1_dig {n : Nat} (h : n < 10) : let1 (48 + (n : Int)) = dstr n := by
  unfold let1 dstr strOfNums
  rw [Lib.decDigits_one h]
  have : (48 + (n : Int)).toNat = 48 + n := by omega
  simp [this]

theorem conv_kept {w w' : World} {z : Int} (hb : Below (w.alloc (.cells #[.int .u8 z] 5)).drew.heap.size (w.alloc (.cells #[.int .u8 z] 5)).drew w') :
    (convert 30 9 (.slice (some ⟨w.heap.size, 0, none⟩) 1 1)).run Tryd.prog w' = .ok (.string (let1 z)) w' :=
  conv_cell ((hb.cell (p := ⟨w.heap.size, 0, none⟩) (by simp)).trans (cell_of_row _ _ 0 _ _ _ (heap_alloc_new w _)))
theorem nd_le : ∀ (k u : Nat), u < 10 ^ (k + 1) → Lib.nDigits u ≤ k + 1
  | 0, u, h => by rw [Lib.nDigits_small (by simpa using h)]; omega
  | k + 1, u, h => by
    by_cases hu : u < 10
    · rw [Lib.nDigits_small hu]; omega
    · rw [Lib.nDigits_big hu]
      have := nd_le k (u / 10) (by rw [Nat.pow_succ] at h; omega)
      omega
theorem dstr_size {n : Nat} (h : n < 10000000000000000000) : (dstr n).size ≤ 19 := by
  have h2 := Lib.decDigits_length n
  have h3 := nd_le 18 n (by simpa using h)
  show (Lib.decDigits n).toArray.size ≤ 19
  simp; omega
theorem let1_size (z : Int) : (let1 z).size ≤ 1 := by unfold let1; rw [strOfNums_size]; simp
theorem told_new {w : World} {s t : ByteArray} {o : Obj} (h : s = t) : Told w t (.returned (.string s)) (w.alloc o) :=
  ⟨by rw [h], (Below.refl _ _).alloc (Nat.le_refl _) _⟩
theorem dig_of {x : Int} (h0 : 0 ≤ x) (h : x < 10) : let1 (48 + x) = dstr x.toNat := by
  have := let1_dig (n := x.toNat) (by omega)
  rwa [show ((x.toNat : Nat) : Int) = x by omega] at this

theorem ret_str {s t : ByteArray} (h : s = t) : Ending.returned (.string s) = .returned (.string t) := by rw [h]
theorem dstr_step {x : Int} (h0 : 0 ≤ x) (h : ¬ x < 10) : dstr (x / 10).toNat ++ let1 (48 + x % 10) = dstr x.toNat := by
  have e1 : (x / 10).toNat = x.toNat / 10 := by omega
  have e2 : (48 + x % 10).toNat = 48 + x.toNat % 10 := by omega
  have e3 : ¬ x.toNat < 10 := by omega
  unfold dstr let1 strOfNums
  rw [e1, Lib.decDigits.eq_def x.toNat, dif_neg e3]
  apply ByteArray.ext
  simp [ByteArray.data_append, e2]
theorem below_c1 {w w' : World} {o : Obj} (hb : Below w.drew.heap.size w.drew w') : Below w.heap.size w (w'.alloc o) :=
  ((Below.refl w.heap.size w).drew.trans hb).alloc hb.size o
theorem below_c2 {w w' : World} {o : Obj} (hb : Below (w.alloc o).drew.heap.size (w.alloc o).drew w') : Below w.heap.size w w' :=
  ((Below.refl w.heap.size w).alloc (Nat.le_refl _) o).drew.trans (hb.mono (by simp))

set_option maxRecDepth 100000 in
set_option maxHeartbeats 1000000 in
theorem dec_any (k : Nat) : ∀ (x : Int) (w : World), 0 ≤ x → x < 10 ^ (k + 1) → x ≤ 9000000000000000000 →
    Calls Tryd.prog 40 #[.int .i64 x] w (Told w (dstr x.toNat)) := by
  induction k with
  | zero =>
    intro x w h0 hk hn
    have h : x < 10 := by simp at hk; omega
    have hcv := conv_new
    clear hk
    go_enter Tryd.func40, Tryd.ntmps40
    go_wp2_with fail
    go_ret
    exact told_new (dig_of h0 h)
  | succ k ih =>
    intro x w h0 hk hn
    by_cases h : x < 10
    · have hcv := conv_new
      clear ih hk
      go_enter Tryd.func40, Tryd.ntmps40
      go_wp2_with fail
      go_ret
      exact told_new (dig_of h0 h)
    · have hcv := conv_new
      have hcv2 := conv_newd
      have hk2 : x / 10 < 10 ^ (k + 1) := by
        rw [Int.pow_succ] at hk; omega
      have IH := Lib.hid (ih (x / 10) · (by omega) hk2 (by omega))
      clear ih hk hk2
      have e1 : IntKind.i64.wrap (x / 10) = x / 10 := IntWalk.i64_in _ (by omega)
      have e0 : x.tdiv 10 = x / 10 := Int.tdiv_eq_ediv_of_nonneg h0
      have e2 : x.tmod 10 = x % 10 := Int.tmod_eq_emod_of_nonneg h0
      have e3 : IntKind.i64.wrap (48 + x % 10) = 48 + x % 10 := IntWalk.i64_in _ (by omega)
      have e4 : IntKind.u8.wrap (48 + x % 10) = 48 + x % 10 := IntWalk.u8_in _ (by omega)
      have s1 := dstr_size (n := (x / 10).toNat) (by omega)
      have s2 := let1_size (48 + x % 10)
      go_enter Tryd.func40, Tryd.ntmps40
      go_wp2_with fail
      go_region_with (go_at_call 40; refine (IH.out _).mono ?_; rintro e w' ⟨rfl, hb⟩; first | (have hcvx := conv_kept hb) | skip)
      all_goals
        go_wp2
        go_ret
        first
          | exact ⟨ret_str (dstr_step h0 (by omega)), below_c1 hb⟩
          | exact ⟨ret_str (dstr_step h0 (by omega)), below_c2 hb⟩
end Go.Proofs.YtcaekheghjnipabDoor
