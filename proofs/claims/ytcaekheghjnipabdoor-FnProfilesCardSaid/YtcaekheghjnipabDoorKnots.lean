/- The knots of a profile, produced by a function that is ranged over: contracts of a knot, of the maker, and of the iterator. -/
import Derived.RangeFuncNested
import Derived.RangeFuncBound
import Derived.RangeFuncCalls
import Derived.RangeFuncLeaves
import Derived.Shelf.Abstract
import Derived.Shelf.RegionOpen
import Derived.OwnWalkIn
import Derived.TacticsInMore
import Derived.LoopNIn
import Derived.LoopIn
import Derived.StillTailTactics
import Derived.Test.YtcaekheghjnipabDoorPrf
namespace Go.Proofs.YtcaekheghjnipabDoor
open Go.ChangeShapes Go.WideShapes Go.ChangeAt Go.RowKit Go.Shelf Num
set_option linter.unusedVariables false
attribute [local go_sem] Oper.semAt_some

set_option maxRecDepth 100000 in
theorem kat_any (w : World) (a b : Option Addr) (c d : Nat) (zs ys : List Int) (k : Nat) (hp : Prof w w.heap.size a b zs ys) (hl : ys.length = zs.length) (hk : k < zs.length) :
    Calls Tryd.prog 52 #[.agg #[.slice a zs.length c, .slice b ys.length d], .int .i64 (k : Int)] w fun e w' => e = .returned (.agg #[.int .i64 (zs.getD k 0), .int .i64 (ys.getD k 0)]) ∧ Below w.heap.size w w' := by
  obtain ⟨b1, o1, rfl, hB1, h1⟩ := hp.dz.at_ hk
  obtain ⟨b2, o2, rfl, hB2, h2⟩ := hp.sy.at_ (show k < ys.length by omega)
  have lz := hp.lz
  have hk2 : k < ys.length := by omega
  clear hl
  clear hp
  obtain ⟨x, hx⟩ : ∃ x, zs.getD k 0 = x := ⟨_, rfl⟩
  obtain ⟨y, hy⟩ : ∃ y, ys.getD k 0 = y := ⟨_, rfl⟩
  rw [hx] at h1 ⊢
  rw [hy] at h2 ⊢
  clear hx hy
  go_enter Tryd.func52, Tryd.ntmps52
  go_wp2_with fail
  obtain ⟨W, hW⟩ : ∃ W, W = (w.alloc (.cells #[.slice (some ⟨b1, o1, none⟩) zs.length c, .slice (some ⟨b2, o2, none⟩) ys.length d] 24)).alloc (.cells #[.int .i64 0, .int .i64 0] 55) := ⟨_, rfl⟩
  have p0 : W.cell? ⟨w.heap.size, 0, none⟩ = some (.slice (some ⟨b1, o1, none⟩) zs.length c) := by rw [hW]; simp [go_sem]
  have p1 : W.cell? ⟨w.heap.size, 1, none⟩ = some (.slice (some ⟨b2, o2, none⟩) ys.length d) := by rw [hW]; simp [go_sem]
  have r0 : W.cell? ⟨w.heap.size + 1, 0, none⟩ = some (.int .i64 0) := by rw [hW]; simp [go_sem]
  have r1 : W.cell? ⟨w.heap.size + 1, 1, none⟩ = some (.int .i64 0) := by rw [hW]; simp [go_sem]
  have f0 : W.frozen? ⟨w.heap.size + 1, 0, none⟩ = false := by rw [hW]; simp [go_sem]
  have f1 : W.frozen? ⟨w.heap.size + 1, 1, none⟩ = false := by rw [hW]; simp [go_sem]
  have HB : Hid (Below w.heap.size w W) := Lib.hid (by rw [hW]; exact (by repeat (first | exact Below.refl _ _ | (refine Below.alloc ?_ (by simp <;> omega) _) | (refine Below.setCell ?_ (by simp <;> omega) _) | (refine Below.drew ?_) | (refine bel_drewN ?_ _))))
  replace h1 := kc1 h1 HB.out
  replace h2 := kc1 h2 HB.out
  rw [← hW]
  clear hW
  go_still_tail 11, (by kernel_rfl)
  go_wp2
  exact bodyPost_ret (v := .agg #[.int .i64 x, .int .i64 y]) (by simp [results, Tryd.results52, go_sem, r0, r1]) rfl ⟨rfl, (HB.out.drew.setCell (by simp) _).setCell (by simp) _⟩

theorem kns_any (w : World) (a b : Option Addr) (c d m n : Nat) :
    Calls Tryd.prog 31 #[.agg #[.slice a m c, .slice b n d]] w fun e w' => e = .returned (.func (.func 51) #[] #[.pointer (some ⟨w.heap.size, 0, none⟩)]) ∧ w' = w.alloc (.cells #[.slice a m c, .slice b n d] 24) := by
  go_enter Tryd.func31, Tryd.ntmps31
  go_wp2
  go_ret
  exact ⟨rfl, rfl⟩

/-- a knot as the loop is handed it -/
def knE (zs ys : List Int) (x : Nat) : Array Value := #[.int .i64 (x : Int), .agg #[.int .i64 (zs.getD x 0), .int .i64 (ys.getD x 0)]]
/-- a block of cells, whole -/
def Bk (W : World) (B : Nat) (cs : Array Value) (t : TypeId) : Prop := W.heap[B]? = some (.cells cs t (0, 0))
theorem Bk.lt {W : World} {B : Nat} {cs : Array Value} {t : TypeId} (h : Bk W B cs t) : B < W.heap.size := (Array.getElem?_eq_some_iff.1 h).1
theorem Bk.cell {W : World} {B : Nat} {cs : Array Value} {t : TypeId} (h : Bk W B cs t) (i : Nat) {v : Value} (e : cs[i]? = some v) : W.cell? ⟨B, i, none⟩ = some v := by simp [World.cell?, show W.heap[B]? = _ from h, e]
theorem Bk.frozen {W : World} {B : Nat} {cs : Array Value} {t : TypeId} (h : Bk W B cs t) (i : Nat) : W.frozen? ⟨B, i, none⟩ = false := by simp [World.frozen?, show W.heap[B]? = _ from h]
theorem Bk.new (W : World) (cs : Array Value) (t : TypeId) : Bk (W.alloc (.cells cs t)) W.heap.size cs t := World.alloc_heap_new W _
theorem Bk.new' {W : World} {n : Nat} {cs : Array Value} {t : TypeId} (hn : n = W.heap.size) : Bk (W.alloc (.cells cs t)) n cs t := by subst hn; exact Bk.new W cs t
theorem Bk.kept {W W' : World} {row : Option Nat} {B : Nat} {cs : Array Value} {t : TypeId} (h : Bk W B cs t) (hg : W.grownBy W' row) (hne : some B ≠ row) : Bk W' B cs t := (hg.block B h.lt hne).trans h
theorem Bk.alloc {W : World} {B : Nat} {cs : Array Value} {t : TypeId} (h : Bk W B cs t) (o : Obj) : Bk (W.alloc o) B cs t := h.kept (World.grownBy_alloc W o none) (by simp)
theorem Bk.on {W W' : World} {B : Nat} {cs : Array Value} {t : TypeId} (h : Bk W B cs t) (hb : Below W.heap.size W W') : Bk W' B cs t := (hb.block B h.lt).trans h
theorem Bk.set {W : World} {B : Nat} {cs cs' : Array Value} {t : TypeId} (h : Bk W B cs t) (i : Nat) (v : Value) (e : cs.setIfInBounds i v = cs') : Bk (W.setCell ⟨B, i, none⟩ v) B cs' t := by
  subst e; exact heap_setCell_same W B i _ _ _ h
theorem Bk.other {W : World} {B B' : Nat} {cs : Array Value} {t : TypeId} (h : Bk W B cs t) (hne : B ≠ B') (i : Nat) (u : Value) : Bk (W.setCell ⟨B', i, none⟩ u) B cs t := (Below.heap_setCell W ⟨B', i, none⟩ u B hne).trans h
/-- blocks that were laid ahead of a call lie behind it -/
theorem nk1 {W wA : World} {z y : Value} {t : TypeId} (hb : Below (W.alloc (.cells #[z, y] t)).heap.size (W.alloc (.cells #[z, y] t)) wA) : Bk wA W.heap.size #[z, y] t := (Bk.new W _ _).on hb
theorem nk2 {W wA : World} {z y z' y' : Value} {t t' : TypeId} (hb : Below ((W.alloc (.cells #[z, y] t)).alloc (.cells #[z', y'] t')).heap.size ((W.alloc (.cells #[z, y] t)).alloc (.cells #[z', y'] t')) wA) : Bk wA W.heap.size #[z, y] t ∧ Bk wA (W.heap.size + 1) #[z', y'] t' :=
  ⟨((Bk.new W _ _).alloc _).on hb, (Bk.new' (by simp)).on hb⟩
theorem nk1d {W wA : World} {z y : Value} {t : TypeId} (hb : Below (W.alloc (.cells #[z, y] t)).drew.heap.size (W.alloc (.cells #[z, y] t)).drew wA) : Bk wA W.heap.size #[z, y] t := Bk.on (W := (W.alloc (.cells #[z, y] t)).drew) (Bk.new W _ _) hb
theorem nk2d {W wA : World} {z y z' y' : Value} {t t' : TypeId} (hb : Below ((W.alloc (.cells #[z, y] t)).alloc (.cells #[z', y'] t')).drew.heap.size ((W.alloc (.cells #[z, y] t)).alloc (.cells #[z', y'] t')).drew wA) : Bk wA W.heap.size #[z, y] t ∧ Bk wA (W.heap.size + 1) #[z', y'] t' :=
  ⟨Bk.on (W := ((W.alloc (.cells #[z, y] t)).alloc (.cells #[z', y'] t')).drew) ((Bk.new W _ _).alloc _) hb, Bk.on (W := ((W.alloc (.cells #[z, y] t)).alloc (.cells #[z', y'] t')).drew) (Bk.new' (by simp)) hb⟩
theorem ck1 {wA wB : World} {o : Obj} {B : Nat} {cs : Array Value} {t : TypeId} (hb : Below (wA.alloc o).heap.size (wA.alloc o) wB) (h : Bk wA B cs t) : Bk wB B cs t := (h.alloc o).on hb
theorem Bk.drew {W : World} {B : Nat} {cs : Array Value} {t : TypeId} (h : Bk W B cs t) : Bk W.drew B cs t := h
theorem Bk.own {β : Type} (B : Nat) (f : β → Array Value) (t : TypeId) : Own (fun (s : β) W => Bk W B (f s) t) := fun s X Y row hs hg hrow =>
  hs.kept hg (fun e' => by obtain ⟨o, ho, hc⟩ := hrow B e'.symm; rw [show X.heap[B]? = _ from hs] at ho; cases ho; cases hc)
/-- what a round keeps: whatever lay below n₀, and the box of the profile -/
def KpB (n₀ Bp : Nat) (W W' : World) : Prop := Below n₀ W W' ∧ W'.heap[Bp]? = W.heap[Bp]?
theorem KpB.refl (n₀ Bp : Nat) (W : World) : KpB n₀ Bp W W := ⟨Below.refl _ _, rfl⟩
theorem kpB_t {n₀ Bp : Nat} {A B C : World} (h : KpB n₀ Bp A B) (k : KpB n₀ Bp B C) : KpB n₀ Bp A C := ⟨h.1.trans k.1, k.2.trans h.2⟩
theorem kpB_b {n₀ Bp : Nat} {w : World} (hn : n₀ ≤ w.heap.size) (hB : Bp < w.heap.size) (W : World) (l : Nat) (o o' : Obj) (hl : w.heap.size ≤ l) (h : W.heap[l]? = some o) (h1 : o.isCells = false) (h2 : o.isWalk = false) : KpB n₀ Bp W (W.putObj l o') :=
  ⟨belowK_b hn W l o o' hl h h1 h2, World.putObj_heap_other (by omega)⟩
theorem KpB.of {n₀ Bp : Nat} {W W' : World} (h : Below W.heap.size W W') (hn : n₀ ≤ W.heap.size) (hB : Bp < W.heap.size) : KpB n₀ Bp W W' := ⟨h.mono hn, h.block Bp hB⟩
theorem KpB.cell {n₀ Bp o : Nat} {W W' : World} (h : KpB n₀ Bp W W') : W'.cell? ⟨Bp, o, none⟩ = W.cell? ⟨Bp, o, none⟩ := World.cell?_of_block (a := ⟨Bp, o, none⟩) h.2
theorem KpB.set {n₀ Bp : Nat} (W : World) (B i : Nat) (v : Value) (hn : n₀ ≤ B) (hne : Bp ≠ B) : KpB n₀ Bp W (W.setCell ⟨B, i, none⟩ v) := ⟨(Below.refl _ W).setCell (p := ⟨B, i, none⟩) hn _, Below.heap_setCell W ⟨B, i, none⟩ v Bp hne⟩
theorem grown_none {w w' : World} (h : Below w.heap.size w w') : w.grownBy w' none := ⟨h.os, h.tape, h.output, h.size, fun k hk _ => h.block k hk⟩

set_option maxRecDepth 100000 in
set_option maxHeartbeats 2000000 in
/-- the iterator, for every loop body that keeps what lay below n₀ -/
theorem kn1_in (n : Nat) (hn : 2 ≤ n) (l Bp n₀ : Nat) (a b : Option Addr) (c d : Nat) (zs ys : List Int) (hl : ys.length = zs.length) (J Jx : List Nat → World → Prop)
    (hY : ∀ pre x W, J pre W → pre.length < zs.length → YieldAt Fence.wide (n - 1) Tryd.prog l (knE zs ys x) W fun e W' =>
      (e = .returned (.bool true) ∧ J (pre ++ [x]) W' ∧ KpB n₀ Bp W W') ∨ (e = .returned (.bool false) ∧ Jx (pre ++ [x]) W'))
    (W : World) (hJ : AbidesFrom W.heap.size J) (hBp : Bp < W.heap.size) (hn₀ : n₀ ≤ W.heap.size) (c0 : W.cell? ⟨Bp, 0, none⟩ = some (.slice a zs.length c)) (c1 : W.cell? ⟨Bp, 1, none⟩ = some (.slice b ys.length d)) (hp : Prof W n₀ a b zs ys) (h0 : J [] W) :
    CallsIn Fence.wide n Tryd.prog 51 #[.func (.yield l) #[] #[], .pointer (some ⟨Bp, 0, none⟩)] W fun e W' => (∃ v, e = .returned v) ∧
      ((∃ xs, xs = List.range zs.length ∧ J xs W') ∨ (∃ pre, (∃ k, k ≤ zs.length ∧ pre = List.range k) ∧ Jx pre W')) := by
  have lz := hp.lz
  have HL := Lib.hid hl
  clear hl
  refine callsIn_of_wp Tryd.func51 rfl trivial ?_ rfl
  simp only [Tryd.ntmps51, List.size_toArray, List.length_cons, List.length_nil, Nat.reduceAdd, Nat.reduceSub, Array.replicate_succ, Array.replicate_zero, List.push_toArray, List.append_toArray, List.nil_append, List.cons_append]
  gi_wp2
  gi_loopw [7] (fun i wr => ∃ k : Nat, k ≤ zs.length ∧ i = .int .i64 k ∧ J (List.range k) wr ∧ KpB n₀ Bp W wr ∧ W.heap.size ≤ wr.heap.size) (fun i _ => zs.length - (intOf i).toNat)
  case atStart => exact ⟨0, Nat.zero_le _, rfl, h0, KpB.refl _ _ _, Nat.le_refl _⟩
  case round =>
    obtain ⟨k, hk, rfl, hJs, hb, hsz⟩ := hrel
    have HJ := Lib.hid hJs
    have HB := Lib.hid hb
    clear hJs hb
    by_cases hlt : k < zs.length
    · have d0 := HB.out.cell.trans c0
      have d1 := HB.out.cell.trans c1
      have HP := Lib.hid ((hp.below HB.out.1).more (Nat.le_trans hn₀ hsz))
      have hkat := kat_any wr a b c d zs ys k HP.out HL.out hlt
      have hY' := fun W1 h1 h2 => hY (List.range k) k W1 h1 h2
      unfold knE at hY'
      obtain ⟨x, hx⟩ : ∃ x, zs.getD k 0 = x := ⟨_, rfl⟩
      obtain ⟨y, hy⟩ : ∃ y, ys.getD k 0 = y := ⟨_, rfl⟩
      rw [hx, hy] at hkat
      simp only [hx, hy] at hY'
      clear hx hy
      gi_wp2_with fail
      refine ⟨trivial, fun _ => by omega, ?_⟩
      refine (callsIn_wide.2 hkat).mono ?_
      rintro e w1 ⟨rfl, hb1⟩
      have hJ1 := hJ _ _ _ none HJ.out (grown_none hb1) (fun r e => by cases e)
      have HB1 := Lib.hid (kpB_t HB.out (KpB.of hb1 (Nat.le_trans hn₀ hsz) (Nat.lt_of_lt_of_le hBp hsz)))
      have hsz1 := Nat.le_trans hsz hb1.size
      clear hb1 hkat
      obtain ⟨fn, tmps, assign, body, hy, hR⟩ := hY' w1 hJ1 (by simpa using hlt)
      clear hY'
      have HR := Lib.hid hR
      clear hR
      gi_wp2
      refine ⟨fun _ => by omega, HR.out.mono ?_⟩
      rintro e W3 (⟨rfl, hJ3, hk3⟩ | ⟨rfl, hJx3⟩)
      · have HJ3 := Lib.hid hJ3
        have HB3 := Lib.hid (kpB_t HB1.out hk3)
        have hsz3 := Nat.le_trans hsz1 hk3.1.size
        clear hJ3 hk3
        gi_wp2
        go_roundw
        case rel => exact ⟨k + 1, by omega, by go_num, by rw [List.range_succ]; exact HJ3.out, HB3.out, hsz3⟩
        case measure => simp [intOf]; omega
      · gi_wp2
        refine bodyPost_ret (results_none rfl _ _ _) rfl ?_
        exact ⟨⟨_, rfl⟩, .inr ⟨_, ⟨k + 1, by omega, rfl⟩, by rw [List.range_succ]; exact hJx3⟩⟩
    · obtain rfl : k = zs.length := by omega
      gi_wp2
      go_end0
      exact ⟨⟨_, rfl⟩, .inl ⟨_, rfl, HJ.out⟩⟩

/-- the iterator's contract: all knots, or the first k of them -/
theorem kns_stops (n : Nat) (hn : 2 ≤ n) (Bp n₀ : Nat) (a b : Option Addr) (c d : Nat) (zs ys : List Int) (hl : ys.length = zs.length) (w : World) (hBp : Bp < w.heap.size) (hn₀ : n₀ ≤ w.heap.size)
    (c0 : w.cell? ⟨Bp, 0, none⟩ = some (.slice a zs.length c)) (c1 : w.cell? ⟨Bp, 1, none⟩ = some (.slice b ys.length d)) (hp : Prof w n₀ a b zs ys) :
    SeqStopsK Fence.wide n Tryd.prog 51 #[.pointer (some ⟨Bp, 0, none⟩)] (knE zs ys) (KpB n₀ Bp) (fun xs => xs = List.range zs.length) (fun pre => ∃ k, k ≤ zs.length ∧ pre = List.range k) zs.length w :=
  fun l J Jx W hW hJ _ hY h0 =>
    kn1_in n hn l Bp n₀ a b c d zs ys hl J Jx hY W hJ (Nat.lt_of_lt_of_le hBp hW.size) (Nat.le_trans hn₀ hW.size) ((hW.cell (p := ⟨Bp, 0, none⟩) hBp).trans c0) ((hW.cell (p := ⟨Bp, 1, none⟩) hBp).trans c1) (hp.below (hW.mono hn₀)) h0
end Go.Proofs.YtcaekheghjnipabDoor
