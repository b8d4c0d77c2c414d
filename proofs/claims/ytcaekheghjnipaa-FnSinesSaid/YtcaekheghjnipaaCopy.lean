/- Contracts of the laws' own helpers on slices of integers: a copy of a slice lies in new memory; two slices are compared element by element; a code is big from 4097 letters on. -/
import Derived.Test.YtcaekheghjnipaaMem
import Derived.Test.YtcaekheghjnipaaNum
import Derived.LoopTactic
import Derived.Deep.QuietTactic
import Derived.BigQuiet
import Derived.Deep.OwnRows
import Derived.Outline
namespace Go.Proofs.Ytcaekheghjnipaa
open Go.ChangeShapes Go.WideShapes Go.ChangeAt Go.RowKit Num
set_option linter.unusedVariables false
theorem info_i64 : (Try.prog.info? 2).map (fun i => (i.zero, i.size, i.bytes)) = some (some (.int .i64 0), 1, 8) := by kernel_rfl

/-- the numbers as the cells of a row -/
def cellsOf (zs : List Int) (i : Nat) : Value := .int .i64 (zs.getD i 0)
/-- a new slice that holds the numbers zs in a block of its own -/
def NewInts (w : World) (zs : List Int) (e : Ending) (w' : World) : Prop :=
  ∃ g, e = .returned (.slice (some ⟨g, 0, none⟩) zs.length zs.length) ∧ w.heap.size ≤ g ∧ w'.rowIs g 2 zs.length (cellsOf zs) ∧ Below w.heap.size w w'
theorem Ints.of_rowIs {w : World} {g : Nat} {t : TypeId} {zs : List Int} (h : w.rowIs g t zs.length (cellsOf zs)) : Ints .i64 w w.heap.size (some ⟨g, 0, none⟩) zs :=
  fun _ => ⟨g, 0, rfl, h.lt, fun j hj => by rw [Nat.zero_add]; exact h.cell hj⟩

def upto (zs : List Int) (k : Nat) (i : Nat) : Value := if i < k then .int .i64 (zs.getD i 0) else .int .i64 0

theorem to_any (w : World) (a : Option Addr) (cap : Nat) (zs : List Int) (hl : zs.length ≤ 1048576) (hz : Ints .i64 w w.heap.size a zs) :
    Calls Try.prog 65 #[.slice a zs.length cap] w (NewInts w zs) := by
  have hmk := fun w => run_make_row' (P := Try.prog) 36 2 (.int .i64 0) 8 Try.underlying36 info_i64 rfl .i64 .i64 zs.length (by omega) (by omega) w
  go_enter Try.func65, Try.ntmps65
  go_wp2
  clear hmk
  go_loopw [4] (fun i wr => ∃ k : Nat, k ≤ zs.length ∧ i = .int .i64 k ∧ Below w.heap.size w wr ∧ wr.rowIs w.heap.size 2 zs.length (upto zs k)) (fun i _ => zs.length - (intOf i).toNat)
  case atStart => exact ⟨0, by omega, rfl, (Below.refl _ _).alloc (Nat.le_refl _) _, (World.rowIs_made _ _ _ _).congr (fun i hi => by unfold upto; rw [if_neg (by omega)])⟩
  case round =>
    obtain ⟨k, hk, rfl, hb, hrow⟩ := hrel
    by_cases hlt : k < zs.length
    · obtain ⟨b, off, rfl, hB, hc⟩ := hz.at_ hlt
      have hc1 := (hb.cell (p := ⟨b, off + k, none⟩) hB).trans hc
      have ho := hrow.cell hlt
      have hf := hrow.frozen k
      have hu : upto zs k k = .int .i64 0 := by unfold upto; rw [if_neg (by omega)]
      rw [hu] at ho
      have HB := Lib.hid hb
      have HZ := Lib.hid hz
      have HR := Lib.hid hrow
      clear hb hz hrow hc hu
      obtain ⟨x, hx⟩ : ∃ x, zs.getD k 0 = x := ⟨_, rfl⟩
      rw [hx] at hc1
      have HX := Lib.hid hx
      clear hx
      go_wp2
      go_roundw
      case rel => exact ⟨k + 1, by omega, by go_num, HB.out.setCell (by simp) _, (HR.out.set k (.int .i64 x)).congr (fun i hi => by
        unfold upto
        by_cases e : i = k
        · subst e; rw [if_pos rfl, if_pos (by omega), HX.out]
        · rw [if_neg e]; by_cases h : i < k
          · rw [if_pos h, if_pos (by omega)]
          · rw [if_neg h, if_neg (by omega)])⟩
      case measure => simp [intOf]; omega
    · go_wp2
      go_ret
      exact ⟨_, rfl, Nat.le_refl _, hrow.congr (fun i hi => by unfold upto cellsOf; rw [if_pos (by omega)]), hb⟩

theorem eq_ext {xs ys : List Int} (hl : xs.length = ys.length) (h : ∀ i, i < xs.length → xs.getD i 0 = ys.getD i 0) : xs = ys := by
  apply List.ext_getElem hl
  intro i h1 h2
  have := h i h1
  rwa [List.getD_eq_getElem?_getD, List.getD_eq_getElem?_getD, List.getElem?_eq_getElem h1, List.getElem?_eq_getElem h2] at this
/-- two lists of numbers are the same -/
def sameB (xs ys : List Int) : Bool := decide (xs = ys)
theorem sameB_t {xs ys : List Int} (h : xs = ys) : sameB xs ys = true := by unfold sameB; exact decide_eq_true h
theorem sameB_f {xs ys : List Int} (h : xs ≠ ys) : sameB xs ys = false := by unfold sameB; exact decide_eq_false h

set_option maxHeartbeats 400000 in
theorem eqi_any (w : World) (B : Nat) (a b : Option Addr) (c d : Nat) (xs ys : List Int) (hl : xs.length ≤ 9223372036854775807) (hl2 : ys.length ≤ 9223372036854775807) (hx : Ints .i64 w B a xs) (hy : Ints .i64 w B b ys) :
    Calls Try.prog 38 #[.slice a xs.length c, .slice b ys.length d] w fun e w' => e = .returned (.bool (sameB xs ys)) ∧ ∃ n, w' = w.drewN n := by
  by_cases hlen : xs.length = ys.length
  case neg =>
    have hne : ((xs.length : Int) != (ys.length : Int)) = true := by simp; omega
    have H := Lib.hid hlen
    clear hlen
    go_enter Try.func38, Try.ntmps38
    go_wp2
    go_ret
    exact ⟨ret_bool (sameB_f (fun h => H.out (by rw [h]))).symm, 0, rfl⟩
  case pos =>
    obtain ⟨n, hn⟩ : ∃ n, xs.length = n := ⟨_, rfl⟩
    have hn2 : ys.length = n := by omega
    rw [hn, hn2]
    rw [hn] at hl
    have N1 := Lib.hid hn
    have N2 := Lib.hid hn2
    clear hn hn2 hlen hl2
    go_enter Try.func38, Try.ntmps38
    go_wp2
    go_loopw [5] (fun i wr => ∃ k : Nat, (∃ m, wr = w.drewN m) ∧ k ≤ n ∧ i = .int .i64 k ∧ ∀ j, j < k → xs.getD j 0 = ys.getD j 0) (fun i _ => n - (intOf i).toNat)
    case atStart => exact ⟨0, ⟨0, rfl⟩, by omega, rfl, fun j hj => by omega⟩
    case round =>
      obtain ⟨k, ⟨m, rfl⟩, hk, rfl, hr⟩ := hrel
      have HR := Lib.hid hr
      clear hr
      by_cases hlt : k < n
      · obtain ⟨b1, off1, rfl, _, hc1⟩ := hx.at_ (j := k) (by rw [N1.out]; omega)
        obtain ⟨b2, off2, rfl, _, hc2⟩ := hy.at_ (j := k) (by rw [N2.out]; omega)
        clear hx hy
        obtain ⟨x, hx⟩ : ∃ x, xs.getD k 0 = x := ⟨_, rfl⟩
        obtain ⟨y, hy⟩ : ∃ y, ys.getD k 0 = y := ⟨_, rfl⟩
        rw [hx] at hc1
        rw [hy] at hc2
        have HX := Lib.hid hx
        have HY := Lib.hid hy
        clear hx hy
        by_cases he : x = y
        · subst he
          go_wp2
          go_quiet (fail)
          go_wp2
          go_roundw
          case rel =>
            refine ⟨k + 1, ⟨_, rfl⟩, by omega, by go_num, fun j hj => ?_⟩
            by_cases hjk : j < k
            · exact HR.out j hjk
            · obtain rfl : j = k := by omega
              rw [HX.out, HY.out]
          case measure => simp [intOf]; omega
        · have hb : (x != y) = true := by simpa using he
          go_wp2
          go_quiet (fail)
          go_wp2
          go_ret
          exact ⟨ret_bool (sameB_f (fun h => he (by rw [← HX.out, ← HY.out, h]))).symm, _, World.drewN_drewN _ _ _⟩
      · go_wp2
        go_ret
        exact ⟨ret_bool (sameB_t (eq_ext (by rw [N1.out, N2.out]) (fun i hi => HR.out i (by rw [N1.out] at hi; omega)))).symm, _, rfl⟩
end Go.Proofs.Ytcaekheghjnipaa
