/- maps.Values of a map of marks: the call, and the contract of the iterator that it hands back. -/
import Derived.Test.YtndbpekmjpelaaaPkV
import Derived.Sort.MapsRangeIn
import Derived.Lib.SlKeysI
import Derived.RangeFuncNested
import Derived.RangeFuncLeaves
import Derived.WalkKit
import Derived.OwnWalkIn
import Derived.TacticsInMore
import Derived.RegionIn
import Derived.LoopNIn
import Derived.LoopIn
namespace Go.Proofs.Ytndbpekmjpelaaa
open Go.ChangeShapes Go.WideShapes Go.ChangeAt Go.RowKit Go.Shelf Num
open Go.Maps (Keyed int_keyed keyOf_int_mk has)
set_option linter.unusedVariables false
set_option linter.unusedSimpArgs false
attribute [local go_sem] Oper.semAt_some
/-- a mark as the loop is handed it -/
def mkE (zs : List Int) (i : Nat) : Array Value := #[.agg #[.int .i64 (i : Int), .int .i64 (zs.getD i 0)]]
/-- all candidates, each once -/
def CndOf (zs : List Int) (th : Int) (xs : List Nat) : Prop := xs.Nodup ∧ ∀ i, i ∈ xs ↔ cnd zs th i = true
theorem CndOf.perm {zs : List Int} {th : Int} {xs : List Nat} (h : CndOf zs th xs) : xs.Perm (cndL zs th) :=
  (List.perm_ext_iff_of_nodup h.1 (cndL_nodup zs th)).2 fun i => by rw [h.2 i, cndL_mem]
theorem cndQ_inv {zs : List Int} {th x : Int} (h : cndQ zs th zs.length x = true) : ∃ i : Nat, x = (i : Int) ∧ cnd zs th i = true := by
  unfold cndQ at h
  simp only [Bool.and_eq_true, decide_eq_true_iff] at h
  refine ⟨x.toNat, by omega, ?_⟩
  unfold cnd
  simp only [Bool.and_eq_true, decide_eq_true_iff]
  exact ⟨by omega, h.2⟩
theorem cndQ_of {zs : List Int} {th : Int} {i : Nat} (h : cnd zs th i = true) : cndQ zs th zs.length (i : Int) = true ∧ i < zs.length := by
  unfold cnd at h
  simp only [Bool.and_eq_true, decide_eq_true_iff] at h
  unfold cndQ
  simp only [Bool.and_eq_true, decide_eq_true_iff, Int.toNat_natCast]
  exact ⟨⟨⟨by omega, by omega⟩, h.2⟩, h.1⟩
theorem map_cast_inj {xs : List Nat} {i : Nat} : ((i : Int)) ∈ xs.map (fun j : Nat => (j : Int)) ↔ i ∈ xs := by
  rw [List.mem_map]
  constructor
  · rintro ⟨a, h, e⟩
    obtain rfl : a = i := by omega
    exact h
  · exact fun h => ⟨i, h, rfl⟩
theorem nodup_of_map {xs : List Nat} (h : (xs.map (fun j : Nat => (j : Int))).Nodup) : xs.Nodup := by
  have h' := List.pairwise_map.1 h
  exact h'.imp (fun {a b} hne e => hne (by rw [e]))

theorem mvl_any (w : World) (mb : Option Nat) :
    Calls Try.prog 28 #[.map mb] w fun e w' => e = .returned (.func (.func 44) #[] #[.pointer (some ⟨w.heap.size, 0, none⟩)]) ∧ w' = w.alloc (.cells #[.map mb] 43) := by
  go_enter Try.func28, Try.ntmps28
  go_wp2
  go_ret
  exact ⟨rfl, rfl⟩

set_option maxRecDepth 100000 in
set_option maxHeartbeats 4000000 in
/-- the iterator, for every loop body that leaves maps and iterators alone -/
theorem mv1_in (n : Nat) (hn : 1 ≤ n) (l Bm b nn : Nat) (D0 : DataW Nat) (zs : List Int) (th : Int) (hl4 : zs.length ≤ 400) (hQ : MapQ D0 zs (cndQ zs th zs.length)) (J Jx : List Nat → World → Prop)
    (hY : ∀ pre x W, J pre W → pre.length < Maps.size D0 → YieldAt Fence.wide (n - 1) Try.prog l (mkE zs x) W fun e W' =>
      (e = .returned (.bool true) ∧ J (pre ++ [x]) W' ∧ KeepsWalks W W') ∨ (e = .returned (.bool false) ∧ Jx (pre ++ [x]) W'))
    (W : World) (hJ : AbidesFrom W.heap.size J) (hm : W.cell? ⟨Bm, 0, none⟩ = some (.map (some b))) (hown : W.ownsMap Try.prog 2 mkR b nn D0) (h0 : J [] W) :
    CallsIn Fence.wide n Try.prog 44 #[.func (.yield l) #[] #[], .pointer (some ⟨Bm, 0, none⟩)] W fun e W' => (∃ v, e = .returned v) ∧
      ((∃ xs, CndOf zs th xs ∧ J xs W') ∨ (∃ pre, (∀ i ∈ pre, cnd zs th i = true) ∧ Jx pre W')) := by
  have HQ := Lib.hid hQ
  have HY := Lib.hid hY
  clear hQ hY
  refine callsIn_of_wp Try.func44 rfl trivial ?_ rfl
  simp only [Try.ntmps44, List.size_toArray, List.length_cons, List.length_nil, Nat.reduceAdd, Nat.reduceSub, Array.replicate_succ, Array.replicate_zero, List.push_toArray, List.append_toArray, List.nil_append, List.cons_append]
  gi_wp2_with (first
    | (gi_at_range; refine wpListIn_range_own _ rfl _ 43 rfl 2 48 keyed64 Try.underlying43 _ b nn _ rfl hown ?_; intro w0 hrg0 hg0 hs0)
    | gi_in)
  go_frame
  gi_loopw [4] (fun _ wr => ∃ (left : Lit → Bool) (cnt : Nat) (ps : List Nat), wr.ranges Try.prog 2 mkR b W.heap.size nn D0 left cnt ∧ ps.length + cnt ≤ Maps.size D0 ∧ CollectedI D0 left (ps.map fun j : Nat => (j : Int)) ∧ (∀ i ∈ ps, cnd zs th i = true) ∧ J ps wr)
    (fun _ wr => wr.rangeLeft b W.heap.size)
  case atStart =>
    exact ⟨_, _, [], hrg0, by simp, CollectedI.start D0, by simp, hJ [] W w0 none h0 hg0 (fun r e => by cases e)⟩
  case round =>
    obtain ⟨left, cnt, ps, hrg, hcs, hC, hV, hJs⟩ := hrel
    gi_wp2_with (first
      | (gi_at_next; refine wpListIn_next_ranges _ rfl _ rfl 2 keyed64 mkR encZ (fun p : Int × Int => Value.agg #[.int .i64 p.1, .int .i64 p.2]) (fun key kl hk => by obtain ⟨x, hx, _⟩ := Maps.keyOf_i64 Try.underlying2 hk; exact ⟨x, hx⟩) (fun v y hv => by obtain ⟨i, x, rfl, _⟩ := mkR_inv hv; exact ⟨(i, x), rfl⟩) b W.heap.size nn _ _ _ rfl hrg ?_ ?_)
      | gi_in)
    · intro hc0 hl0
      gi_wp2
      go_end0
      refine ⟨⟨_, rfl⟩, .inl ⟨ps, ⟨nodup_of_map hC.1, fun i => ⟨hV i, fun hi => ?_⟩⟩, hJs⟩⟩
      obtain ⟨hq, hlt⟩ := cndQ_of hi
      have := (HQ.out (i : Int) (wfK64 (by omega))).1
      rw [hq] at this
      exact map_cast_inj.1 ((hC.2 (i : Int)).2 ⟨this, hl0 _⟩)
    · rintro x i v kl yd yp w2 cnt2 hkey hlk hv hat hrg2 hlt hg2 hs2 hen
      obtain ⟨x', ex, rfl, hwf⟩ := Maps.keyOf_i64 Try.underlying2 hkey
      obtain rfl : x = x' := encZ_inj ex
      obtain ⟨i', v', ev, ez⟩ := mkR_inv hv
      have e1 : i = i' ∧ v = v' := by simpa using ev
      obtain ⟨rfl, rfl⟩ := e1
      have hq := HQ.out x hwf
      have hhas : has D0 (.int .i64 x) = true := Go.Maps.has_true_of_atKey hat
      have hqx : cndQ zs th zs.length x = true := by rw [← hq.1]; exact hhas
      obtain ⟨k, hkx, hck⟩ := cndQ_inv hqx
      have hxv : x = i ∧ zs.getD x.toNat 0 = v := by
        have h1 := hq.2 hqx (.lit (.int .i64 0))
        rw [hat, (Prod.mk.inj ez).1] at h1
        obtain ⟨a1, a2⟩ := mkD_inj h1
        exact ⟨a1.symm, a2.symm⟩
      obtain ⟨hxi, hxz⟩ := hxv
      rw [hkx] at hxi hxz
      rw [Int.toNat_natCast] at hxz
      have hJ2 : J ps w2 := hJ ps wr w2 (some W.heap.size) hJs hg2 (fun r e => by cases e; exact ⟨Nat.le_refl _, hrg.iter_walk⟩)
      obtain ⟨W5, hW5⟩ : ∃ X, X = w2.alloc (.cells #[.int .i64 i, .int .i64 v] 48) := ⟨_, rfl⟩
      have hJ5 : J ps W5 := by rw [hW5]; exact hJ ps w2 _ none hJ2 (World.grownBy_alloc w2 _ none) (fun r e => by cases e)
      have hk5 : KeepsWalks w2 W5 := by rw [hW5]; exact KeepsWalks.alloc _ _
      have c0 : W5.cell? ⟨w2.heap.size, 0, none⟩ = some (.int .i64 i) := by rw [hW5]; simp [go_sem]
      have c1 : W5.cell? ⟨w2.heap.size, 1, none⟩ = some (.int .i64 v) := by rw [hW5]; simp [go_sem]
      obtain ⟨fn, tmps, assign, body, hy, hR⟩ := HY.out ps k W5 hJ5 (by omega)
      have hC2 : CollectedI D0 (fun z => left z && !z.sameKey (.int .i64 x)) ((ps ++ [k]).map fun j : Nat => (j : Int)) := by
        have := hC.step hlk hat
        rw [List.map_append, List.map_cons, List.map_nil, ← hkx]
        exact this
      have hV2 : ∀ p ∈ ps ++ [k], cnd zs th p = true := fun p hp => (List.mem_append.1 hp).elim (hV p) (fun e => by simp at e; subst e; exact hck)
      unfold mkE at hy
      rw [hxi, hxz] at hy
      have HR := Lib.hid hR
      have HC2 := Lib.hid hC2
      have HV2 := Lib.hid hV2
      have HRG2 := Lib.hid hrg2
      have HRG := Lib.hid hrg
      have HK5 := Lib.hid hk5
      have HLT := Lib.hid hlt
      clear hs2 hR hC2 hV2 hC hV hrg2 hrg hk5 hJ5 hJ2 hJs hq hhas hqx hlk hat hv ez ev hkey hwf hlt hg2
      gi_wp2_with fail
      rw [← hW5]
      clear hW5
      gi_wp2
      rw [hy]
      refine ⟨fun _ => by omega, HR.out.mono ?_⟩
      rintro e W3 (⟨rfl, hJ3, hk3⟩ | ⟨rfl, hJx3⟩)
      · have HJ3 := Lib.hid hJ3
        have HK3 := Lib.hid hk3
        clear hJ3 hk3
        gi_wp2
        have hrg3 := (HRG2.out.of_walks HK5.out).of_walks HK3.out
        go_roundw
        case rel => exact ⟨_, cnt2, ps ++ [k], hrg3, by have := HLT.out; simp; omega, HC2.out, HV2.out, HJ3.out⟩
        case measure => rw [hrg3.left_eq, HRG.out.left_eq]; exact HLT.out
      · gi_wp2
        refine bodyPost_ret (results_none rfl _ _ _) rfl ?_
        exact ⟨⟨_, rfl⟩, .inr ⟨ps ++ [k], HV2.out, hJx3⟩⟩

/-- the iterator's contract -/
theorem mvs_stops (n : Nat) (hn : 1 ≤ n) (Bm b nn : Nat) (D0 : DataW Nat) (zs : List Int) (th : Int) (hl4 : zs.length ≤ 400) (hQ : MapQ D0 zs (cndQ zs th zs.length)) (w : World) (hBm : Bm < w.heap.size)
    (hm : w.cell? ⟨Bm, 0, none⟩ = some (.map (some b))) (hown : w.ownsMap Try.prog 2 mkR b nn D0) :
    SeqStopsK Fence.wide n Try.prog 44 #[.pointer (some ⟨Bm, 0, none⟩)] (mkE zs) KeepsWalks (CndOf zs th) (fun pre => ∀ i ∈ pre, cnd zs th i = true) (Maps.size D0) w := fun l J Jx W hW hJ _ hY h0 => by
  have hown' : W.ownsMap Try.prog 2 mkR b nn D0 := hown.kept (grown_none hW) (by simp)
  exact mv1_in n hn l Bm b nn D0 zs th hl4 hQ J Jx hY W hJ ((hW.cell (p := ⟨Bm, 0, none⟩) hBm).trans hm) hown' h0
end Go.Proofs.Ytndbpekmjpelaaa
