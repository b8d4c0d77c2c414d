/- The contract of the program's text of a fraction: a deferred closure turns what has been written into the result. -/
import Derived.Test.YtcaekheghjnipabDoorRText
import Derived.Test.YtcaekheghjnipabDoorLRat
namespace Go.Proofs.YtcaekheghjnipabDoor
open Go.ChangeShapes Go.WideShapes Go.ChangeAt Go.RowKit Num
set_option linter.unusedVariables false
theorem ain_any (B n : Nat) (i : Int) (h0 : -9223372036854775808 ≤ i) (h1 : i ≤ 9223372036854775807) (sv : Value) (xs : List Value) (w : World) (hown : w.ownsRow B 5 1 sv n xs) (hBw : B ≤ w.heap.size) (hlim : n + 21 ≤ 140737488355328)
    (htab : Lib.TabBelow Tryd.prog B w "internal/strconv.uint64pow10" .u64 Lib.pow10Tab) :
    Calls Tryd.prog 32 #[sv, .int .i64 i, .int .i64 10] w fun e w' => ∃ v', e = .returned v' ∧ w'.ownsRow B 5 1 v' (n + (Lib.itoa i).length) (xs ++ Lib.byteCells (Lib.itoa i)) ∧ Below B w w' :=
  (show Calls Tryd.prog 32 #[sv, .int .i64 i, .int .i64 10] w _ from Any.strconv_AppendInt_10 Tryd.laysM176 B n i h0 h1 sv xs w hown hBw hlim htab).mono fun e w' ⟨v', he, ho, hb, _⟩ => ⟨v', he, ho, hb⟩
theorem info_u8 : (Tryd.prog.info? 5).map (fun i => (i.zero, i.size, i.bytes)) = some (some (.int .u8 0), 1, 1) := by kernel_rfl
theorem itoa_len {x : Int} (h : x.natAbs < 10000000000000000000) : (Lib.itoa x).length ≤ 20 ∧ 1 ≤ (Lib.itoa x).length := by
  have h1 := numS_size h
  refine ⟨h1, ?_⟩
  unfold Lib.itoa
  split
  · simp
  · rw [Lib.decDigits_length]; exact Lib.nDigits_pos _
/-- bytes as numbers, and back -/
theorem bytes_str (l : List UInt8) : strOfNums (l.map fun c => (c.toNat : Int)) = ⟨l.toArray⟩ := by
  unfold strOfNums
  rw [List.map_map]
  congr 2
  have : (fun n : Int => UInt8.ofNat n.toNat) ∘ (fun c : UInt8 => (c.toNat : Int)) = id := by funext c; simp
  rw [this, List.map_id]
theorem own_conv {w : World} {B g cap : Nat} (l : List UInt8) (h : w.ownsRow B 5 1 (.slice (some ⟨g, 0, none⟩) l.length cap) l.length (Lib.byteCells l)) :
    (convert 30 9 (.slice (some ⟨g, 0, none⟩) l.length cap)).run Tryd.prog w = .ok (.string ⟨l.toArray⟩) w := by
  rw [← bytes_str]
  refine run_convert_bytes_arg (P := Tryd.prog) w 30 5 Tryd.underlying30 Tryd.underlying5 g 0 l.length cap (l.map fun c => (c.toNat : Int)) (by simp) (fun i hi => ?_) 9 Tryd.underlying9
  rw [Nat.zero_add, h.cellAt i (by omega)]
  unfold Lib.byteCells
  simp [hi]
theorem ratT_list {a b : Int} (h : ratB a b = true) : (⟨(Lib.itoa a ++ [47] ++ Lib.itoa b).toArray⟩ : ByteArray) = ratT a b := by
  rw [ratT_ok h]
  unfold numS
  apply ByteArray.ext
  simp [ByteArray.data_append]
theorem frozen_keep {w w1 : World} {s g o : Nat} {v : Value} {r : Bool} (hf : w.frozen? ⟨g, o, none⟩ = r) (h : w.cell? ⟨g, o, none⟩ = some v) (hg : w.grownBy w1 (some s)) (hs : g ≠ s) : w1.frozen? ⟨g, o, none⟩ = r :=
  ((rules_grown hg).2 _ _ (World.block_lt_of_cell? w _ h) (by simpa using hs)).trans hf
theorem al_cell {w : World} {g o : Nat} {v : Value} (h : w.cell? ⟨g, o, none⟩ = some v) (x : Obj) : (w.alloc x).cell? ⟨g, o, none⟩ = some v := kp1 h ((Below.refl _ _).alloc (Nat.le_refl _) x)
theorem al_fr {w : World} {g o : Nat} {v : Value} {r : Bool} (f : w.frozen? ⟨g, o, none⟩ = r) (h : w.cell? ⟨g, o, none⟩ = some v) (x : Obj) : (w.alloc x).frozen? ⟨g, o, none⟩ = r := kp_fr f h ((Below.refl _ _).alloc (Nat.le_refl _) x)
end Go.Proofs.YtcaekheghjnipabDoor
