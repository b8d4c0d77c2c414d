/- The block of tails as it is made: its cells, its store into a new block, its tables; ranges of chances; a count of a whole block of tails. -/
import Derived.Test.YtgdnapioboodbaaThV
import Derived.Deep.WholeRow
namespace Go.Proofs.Ytgdnapioboodbaa
open Go.ChangeShapes Go.WideShapes Go.ChangeAt Go.RowKit Go.Shelf Num
set_option linter.unusedVariables false
set_option linter.unusedSimpArgs false
def tblZ : List Value := [.int .u32 0, .int .i32 0, .int .u32 0] ++ List.replicate 14 (.int .i64 0)
def tlsL : Nat → List Value
  | 0 => []
  | n + 1 => tblZ ++ tlsL n
/-- the cells of tails for one probability, no table computed -/
def tlsC (a : Int) : Array Value := (Value.int .i64 a :: tlsL 13).toArray
theorem tls_info : (Try.prog.info? 65).map (fun i => (i.zero, i.size)) = some (some (.agg (tlsC 0)), 222) := by kernel_rfl
theorem tls_zero (w : World) : (zeroValue 65).run Try.prog w = .ok (.agg (tlsC 0)) w := (zero_of_info tls_info).1 w
theorem tls_size : (Try.prog.info? 65).map (·.size) = some 222 := (zero_of_info tls_info).2
theorem tlsC_size (a : Int) : (tlsC a).size = 222 := by
  have : (tlsL 13).length = 221 := by decide +kernel
  simp [tlsC, this]
theorem tlsL_one : ∀ (n : Nat) (v : Value), v ∈ tlsL n → v.oneCell' = true := by
  intro n
  induction n with
  | zero => intro v h; cases h
  | succ n ih =>
    intro v h
    rw [tlsL, List.mem_append] at h
    rcases h with h | h
    · simp only [tblZ, List.mem_append, List.mem_cons, List.not_mem_nil, or_false, List.mem_replicate] at h
      rcases h with (rfl | rfl | rfl) | ⟨-, rfl⟩ <;> rfl
    · exact ih v h
theorem tlsC_one (a : Int) : (tlsC a).all (·.oneCell') = true := by
  refine Array.all_eq_true_iff_forall_mem.2 (fun v hv => ?_)
  rw [tlsC, List.mem_toArray, List.mem_cons] at hv
  rcases hv with rfl | hv
  · rfl
  · exact tlsL_one 13 v hv
theorem tls_zeroC : Try.zeroCells65 = tlsC 0 := by kernel_rfl
theorem tlsC_list (a : Int) : Try.zeroCells65.toList.set 0 (.int .i64 a) = (tlsC a).toList := by
  rw [tls_zeroC]
  rfl
theorem tls_store (a : Int) (w : World) : (storeCells ⟨w.heap.size, 0, none⟩ (Try.zeroCells65.toList.set 0 (.int .i64 a))).run Try.prog (w.alloc (.cells Try.zeroCells65 65)) = .ok () (w.alloc (.cells (tlsC a) 65)) := by
  rw [tlsC_list, tls_zeroC]
  exact run_storeCells_new w _ _ _ (by rw [tlsC_size]; exact tls_size) (by rw [tlsC_size, tlsC_size]) (tlsC_one a)
theorem setRow_alloc_old (w : World) (o : Obj) (g : Nat) (c : Array Value) (h : g < w.heap.size) : (w.alloc o).setRow g c = (w.setRow g c).alloc o := by
  simp only [World.setRow, World.alloc]
  congr 1
  apply Array.ext_getElem?
  intro i
  rw [Array.getElem?_modify, Array.getElem?_push, Array.getElem?_push, Array.getElem?_modify, Array.size_modify]
  by_cases h1 : i = w.heap.size
  · subst h1
    simp [show ¬ g = w.heap.size by omega]
  · simp [h1]
theorem tls_store2 (a : Int) (w : World) (o : Obj) : (storeCells ⟨w.heap.size, 0, none⟩ (Try.zeroCells65.toList.set 0 (.int .i64 a))).run Try.prog ((w.alloc (.cells Try.zeroCells65 65)).alloc o) = .ok () ((w.alloc (.cells (tlsC a) 65)).alloc o) := by
  rw [tlsC_list, tls_zeroC]
  have hh : ((w.alloc (.cells (tlsC 0) 65)).alloc o).heap[w.heap.size]? = some (.cells (tlsC 0) 65 (0, 0)) := (Below.heap_alloc _ o w.heap.size (by simp)).trans (World.alloc_heap_new w _)
  have h1 := run_storeVar_row (P := Try.prog) ((w.alloc (.cells (tlsC 0) 65)).alloc o) w.heap.size 65 65 (tlsC 0) (tlsC a) hh (by rw [tlsC_size]; exact tls_size) (by rw [tlsC_size, tlsC_size]) (tlsC_one a)
  rw [setRow_alloc_old _ _ _ _ (by simp), World.setRow_alloc_new] at h1
  cases hq : Try.prog.info? 65 with
  | none => have := tls_size; simp [hq] at this
  | some i =>
    have hs : (tlsC a).size = i.size := by have := tls_size; simp [hq] at this; rw [tlsC_size]; omega
    simpa [storeVar, sizeOf, typeInfo, hq, Value.cells, hs] using h1
theorem tlsL_at : ∀ (N n r : Nat), n < N → r < 17 → (tlsL N)[n * 17 + r]? = tblZ[r]? := by
  intro N
  induction N with
  | zero => intro n r h; omega
  | succ N ih =>
    intro n r h hr
    have hz : tblZ.length = 17 := by decide
    rw [tlsL]
    cases n with
    | zero => rw [Nat.zero_mul, Nat.zero_add, List.getElem?_append_left (by omega)]
    | succ n => rw [List.getElem?_append_right (by omega), hz, show (n + 1) * 17 + r - 17 = n * 17 + r by omega]; exact ih n r (by omega) hr
theorem tblZ_at (j : Nat) (h : j ≤ 13) : tblZ[3 + j]? = some (.int .i64 0) :=
  match j, h with
  | 0, _ => rfl
  | 1, _ => rfl
  | 2, _ => rfl
  | 3, _ => rfl
  | 4, _ => rfl
  | 5, _ => rfl
  | 6, _ => rfl
  | 7, _ => rfl
  | 8, _ => rfl
  | 9, _ => rfl
  | 10, _ => rfl
  | 11, _ => rfl
  | 12, _ => rfl
  | 13, _ => rfl
theorem tlsC_at (a : Int) (x : Nat) : (tlsC a)[1 + x]? = (tlsL 13)[x]? := by
  rw [tlsC, Nat.add_comm]
  simp
theorem tlsC_tb (a c : Int) {n : Nat} (h : n < 13) : TbC (tlsC c) a n := by
  left
  refine ⟨?_, ?_, fun j hj => ?_⟩
  · rw [tlsC_at, ← Nat.add_zero (n * 17), tlsL_at 13 n 0 h (by omega)]; rfl
  · rw [Nat.add_assoc, tlsC_at, tlsL_at 13 n 1 h (by omega)]; rfl
  · rw [Nat.add_assoc, Nat.add_assoc, tlsC_at, tlsL_at 13 n (3 + j) h (by omega)]; exact tblZ_at j hj
/-- a block of tails for a probability -/
def Tls (W : World) (b : Nat) (a : Int) : Prop := ∃ cs, Tkd W b cs a 13
theorem Tls.new {W : World} {b : Nat} {a : Int} (hb : Bk W b (tlsC a) 65) : Tls W b a := ⟨tlsC a, hb, by simp [tlsC], fun n hn => tlsC_tb a a hn⟩
theorem Tls.kept {W W' : World} {row : Option Nat} {b : Nat} {a : Int} (h : Tls W b a) (hg : W.grownBy W' row) (hne : some b ≠ row) : Tls W' b a := ⟨_, h.choose_spec.kept hg hne⟩
theorem Tls.on {W W' : World} {b : Nat} {a : Int} (h : Tls W b a) (hb : Below W.heap.size W W') : Tls W' b a := ⟨_, h.choose_spec.on hb⟩
theorem Tls.lt {W : World} {b : Nat} {a : Int} (h : Tls W b a) : b < W.heap.size := h.choose_spec.bk.lt
theorem cnt_any (w : World) (b : Nat) (a : Int) (n q : Nat) (a0 : 0 ≤ a) (a1 : a ≤ 16) (hn : n ≤ 12) (hq : q ≤ n + 1) (h : Tls w b a) :
    Calls Try.prog 44 #[.pointer (some ⟨b, 0, none⟩), .int .i64 (n : Int), .int .i64 (q : Int)] w fun e w' => e = .returned (.int .i64 (tl a n q)) ∧ Tls w' b a ∧ w.grownBy w' (some b) := by
  obtain ⟨cs, hT⟩ := h
  refine (cou_any a a0 a1 n hn q hq w b cs (hT.less (by omega))).mono ?_
  rintro e w' ⟨rfl, cs', h1, h2, h3⟩
  refine ⟨rfl, ⟨cs', h1.bk, h1.c0, fun m hm => ?_⟩, h3⟩
  by_cases hmn : m < n + 1
  · exact h1.tb m hmn
  · exact (hT.tb m hm).congr (fun x x1 x2 => h2 x (by omega))
/-- the first count of a block that was just made -/
theorem cnt_new (W : World) (a : Int) (n q : Nat) (a0 : 0 ≤ a) (a1 : a ≤ 16) (hn : n ≤ 12) (hq : q ≤ n + 1) :
    Calls Try.prog 44 #[.pointer (some ⟨W.heap.size, 0, none⟩), .int .i64 (n : Int), .int .i64 (q : Int)] (W.alloc (.cells (tlsC a) 65)) fun e w' => e = .returned (.int .i64 (tl a n q)) ∧ Below W.heap.size W w' := by
  refine (cnt_any _ W.heap.size a n q a0 a1 hn hq (Tls.new (Bk.new W _ _))).mono ?_
  rintro e w' ⟨rfl, -, hg⟩
  have hb : Below W.heap.size W (W.alloc (.cells (tlsC a) 65)) := (Below.refl _ _).alloc (Nat.le_refl _) _
  exact ⟨rfl, hb.trans (below_of_grown hg (Nat.le_refl _) hb.size)⟩
-- chances
theorem arc_any (w : World) (a : Option Addr) (c n : Nat) (zs : List Int) (hn : zs.length = n) (hl : n ≤ 1000) (hz : Ints .i64 w w.heap.size a zs) :
    Calls Try.prog 43 #[.slice a n c] w fun e w' => e = .returned (.bool (!anyLack 0 16 zs)) ∧ Below w.heap.size w w' := by
  have K := Lib.hid (are_any w a c n zs 0 16 hn (by omega) hz)
  clear hz hn
  go_enter Try.func43, Try.ntmps43
  go_wp2_with fail
  refine K.out.mono ?_
  rintro e w1 ⟨rfl, hb1⟩
  go_wp2
  go_ret
  exact ⟨rfl, hb1⟩
theorem ints1T (W : World) (x : Int) : Ints .i64 (W.alloc (.cells #[.int .i64 x] 2)) (W.alloc (.cells #[.int .i64 x] 2)).heap.size (some ⟨W.heap.size, 0, none⟩) [x] := fun _ => ⟨W.heap.size, 0, rfl, by simp, fun j hj => by
  rw [Nat.zero_add]
  match j, hj with
  | 0, _ => exact (Bk.new W _ _).cell 0 rfl⟩
theorem ints2T (W : World) (x y : Int) : Ints .i64 (W.alloc (.cells #[.int .i64 x, .int .i64 y] 2)) (W.alloc (.cells #[.int .i64 x, .int .i64 y] 2)).heap.size (some ⟨W.heap.size, 0, none⟩) [x, y] := fun _ => ⟨W.heap.size, 0, rfl, by simp, fun j hj => by
  rw [Nat.zero_add]
  match j, hj with
  | 0, _ => exact (Bk.new W _ _).cell 0 rfl
  | 1, _ => exact (Bk.new W _ _).cell 1 rfl⟩
theorem lack1 (x : Int) : (!anyLack 0 16 [x]) = chB x := by
  unfold anyLack chB inB hasB
  rw [Bool.eq_iff_iff]
  simp
theorem lack2 (x y : Int) : (!anyLack 0 16 [x, y]) = (chB x && chB y) := by
  unfold anyLack chB inB hasB
  rw [Bool.eq_iff_iff]
  simp
theorem arc1_any (W : World) (x : Int) :
    Calls Try.prog 43 #[.slice (some ⟨W.heap.size, 0, none⟩) 1 1] (W.alloc (.cells #[.int .i64 x] 2)) fun e w' => e = .returned (.bool (chB x)) ∧ Below W.heap.size W w' := by
  refine (arc_any _ _ 1 1 [x] rfl (by omega) (ints1T W x)).mono ?_
  rintro e w' ⟨rfl, hb⟩
  exact ⟨ret_bool (lack1 x), bel_end ((Below.refl _ _).alloc (Nat.le_refl _) _) hb⟩
theorem arc2_any (W : World) (x y : Int) :
    Calls Try.prog 43 #[.slice (some ⟨W.heap.size, 0, none⟩) 2 2] (W.alloc (.cells #[.int .i64 x, .int .i64 y] 2)) fun e w' => e = .returned (.bool (chB x && chB y)) ∧ Below W.heap.size W w' := by
  refine (arc_any _ _ 2 2 [x, y] rfl (by omega) (ints2T W x y)).mono ?_
  rintro e w' ⟨rfl, hb⟩
  exact ⟨ret_bool (lack2 x y), bel_end ((Below.refl _ _).alloc (Nat.le_refl _) _) hb⟩
end Go.Proofs.Ytgdnapioboodbaa
