/- Contracts of the laws' own helpers on slices of integers: a copy of a slice lies in new memory; two slices are compared element by element; a code is big from 4097 letters on. -/
import Derived.Test.YtcaekheghjnipabDoorMem
import Derived.Test.YtcaekheghjnipabDoorNum
import Derived.LoopTactic
import Derived.Deep.QuietTactic
import Derived.BigQuiet
import Derived.Deep.OwnRows
import Derived.Outline
namespace Go.Proofs.YtcaekheghjnipabDoor
open Go.ChangeShapes Go.WideShapes Go.ChangeAt Go.RowKit Num
set_option linter.unusedVariables false
theorem info_i64 : (Tryd.prog.info? 2).map (fun i => (i.zero, i.size, i.bytes)) = some (some (.int .i64 0), 1, 8) := by kernel_rfl

/-- the numbers as the cells of a row -/
def cellsOf (zs : List Int) (i : Nat) : Value := .int .i64 (zs.getD i 0)
/-- a new slice that holds the numbers zs in a block of its own -/
def NewInts (w : World) (zs : List Int) (e : Ending) (w' : World) : Prop :=
  ∃ g, e = .returned (.slice (some ⟨g, 0, none⟩) zs.length zs.length) ∧ w.heap.size ≤ g ∧ w'.rowIs g 2 zs.length (cellsOf zs) ∧ Below w.heap.size w w'
theorem Ints.of_rowIs {w : World} {g : Nat} {t : TypeId} {zs : List Int} (h : w.rowIs g t zs.length (cellsOf zs)) : Ints .i64 w w.heap.size (some ⟨g, 0, none⟩) zs :=
  fun _ => ⟨g, 0, rfl, h.lt, fun j hj => by rw [Nat.zero_add]; exact h.cell hj⟩

def upto (zs : List Int) (k : Nat) (i : Nat) : Value := if i < k then .int .i64 (zs.getD i 0) else .int .i64 0

theorem eq_ext {xs ys : List Int} (hl : xs.length = ys.length) (h : ∀ i, i < xs.length → xs.getD i 0 = ys.getD i 0) : xs = ys := by
  apply List.ext_getElem hl
  intro i h1 h2
  have := h i h1
  rwa [List.getD_eq_getElem?_getD, List.getD_eq_getElem?_getD, List.getElem?_eq_getElem h1, List.getElem?_eq_getElem h2] at this
/-- two lists of numbers are the same -/
def sameB (xs ys : List Int) : Bool := decide (xs = ys)
theorem sameB_t {xs ys : List Int} (h : xs = ys) : sameB xs ys = true := by unfold sameB; exact decide_eq_true h
theorem sameB_f {xs ys : List Int} (h : xs ≠ ys) : sameB xs ys = false := by unfold sameB; exact decide_eq_false h

set_option maxHeartbeats 400000 in
theorem eqi_any (w : World) (B : Nat) (a b : Option Addr) (c d : Nat) (xs ys : List Int) (hl : xs.length ≤ 9223372036854775807) (hl2 : ys.length ≤ 9223372036854775807) (hx : Ints .i64 w B a xs) (hy : Ints .i64 w B b ys) :
    Calls Tryd.prog 26 #[.slice a xs.length c, .slice b ys.length d] w fun e w' => e = .returned (.bool (sameB xs ys)) ∧ ∃ n, w' = w.drewN n := by
  by_cases hlen : xs.length = ys.length
  case neg =>
    have hne : ((xs.length : Int) != (ys.length : Int)) = true := by simp; omega
    have H := Lib.hid hlen
    clear hlen
    go_enter Tryd.func26, Tryd.ntmps26
    go_wp2
    go_ret
    exact ⟨ret_bool (sameB_f (fun h => H.out (by rw [h]))).symm, 0, rfl⟩
  case pos =>
    obtain ⟨n, hn⟩ : ∃ n, xs.length = n := ⟨_, rfl⟩
    have hn2 : ys.length = n := by omega
    rw [hn, hn2]
    rw [hn] at hl
    have N1 := Lib.hid hn
    have N2 := Lib.hid hn2
    clear hn hn2 hlen hl2
    go_enter Tryd.func26, Tryd.ntmps26
    go_wp2
    go_loopw [5] (fun i wr => ∃ k : Nat, (∃ m, wr = w.drewN m) ∧ k ≤ n ∧ i = .int .i64 k ∧ ∀ j, j < k → xs.getD j 0 = ys.getD j 0) (fun i _ => n - (intOf i).toNat)
    case atStart => exact ⟨0, ⟨0, rfl⟩, by omega, rfl, fun j hj => by omega⟩
    case round =>
      obtain ⟨k, ⟨m, rfl⟩, hk, rfl, hr⟩ := hrel
      have HR := Lib.hid hr
      clear hr
      by_cases hlt : k < n
      · obtain ⟨b1, off1, rfl, _, hc1⟩ := hx.at_ (j := k) (by rw [N1.out]; omega)
        obtain ⟨b2, off2, rfl, _, hc2⟩ := hy.at_ (j := k) (by rw [N2.out]; omega)
        clear hx hy
        obtain ⟨x, hx⟩ : ∃ x, xs.getD k 0 = x := ⟨_, rfl⟩
        obtain ⟨y, hy⟩ : ∃ y, ys.getD k 0 = y := ⟨_, rfl⟩
        rw [hx] at hc1
        rw [hy] at hc2
        have HX := Lib.hid hx
        have HY := Lib.hid hy
        clear hx hy
        by_cases he : x = y
        · subst he
          go_wp2
          go_quiet (fail)
          go_wp2
          go_roundw
          case rel =>
            refine ⟨k + 1, ⟨_, rfl⟩, by omega, by go_num, fun j hj => ?_⟩
            by_cases hjk : j < k
            · exact HR.out j hjk
            · obtain rfl : j = k := by omega
              rw [HX.out, HY.out]
          case measure => simp [intOf]; omega
        · have hb : (x != y) = true := by simpa using he
          go_wp2
          go_quiet (fail)
          go_wp2
          go_ret
          exact ⟨ret_bool (sameB_f (fun h => he (by rw [← HX.out, ← HY.out, h]))).symm, _, World.drewN_drewN _ _ _⟩
      · go_wp2
        go_ret
        exact ⟨ret_bool (sameB_t (eq_ext (by rw [N1.out, N2.out]) (fun i hi => HR.out i (by rw [N1.out] at hi; omega)))).symm, _, rfl⟩
end Go.Proofs.YtcaekheghjnipabDoor
