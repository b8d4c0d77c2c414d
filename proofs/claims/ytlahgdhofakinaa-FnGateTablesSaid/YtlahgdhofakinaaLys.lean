/- The layer of a depth: contracts of the program's search over the knots and of the model's. Codes of a profile together with a depth, a layer, a knot: contracts of the program's and the model's checks. Contracts of LayerOf, the program's and the model's. Contracts of the laws' marks: a slice that lies in a block of its own is filled with counting numbers, and read again. A law of append at a step of a drawn region: onto a row of the call's own that is not nil; any number of elements is appended, none too. Contracts of CutProfile, the program's and the model's. Rows of one's own between two marks of the memory: marking them leaves everything else as it was. The contracts of CutProfile and of the laws' marks of a profile, for every argument. Rows of numbers of one's own, built by append: kept over calls, grown by one, marked. Contracts of the laws' likeInts and hasInt. -/
import Derived.Test.YtlahgdhofakinaaPrs
import Derived.Test.YtlahgdhofakinaaBas
import Derived.Deep.AppendLies
import Derived.Maps.AppendAt
import Derived.Deep.RegionHeld3
import Derived.Deep.DrawnRows
import Derived.OwnWalk
import Derived.WalkSpells
import Derived.Laws.CopyOwn
import Derived.RegionTactic
import Derived.Deep.DeepCutAuto
import Derived.Outline
import Derived.Deep.Onto
namespace Go.Proofs.Ytlahgdhofakinaa
open Go.ChangeShapes Go.WideShapes Go.ChangeAt Go.RowKit Go.Shelf Num
set_option linter.unusedVariables false
attribute [local go_sem] Oper.semAt_some

/-- the last of the knots pre that lies above the depth d -/
def layF (zs : List Int) (d : Int) (pre : List Nat) : Nat := pre.foldl (fun l k => if zs.getD k 0 < d then k else l) 0
theorem layF_snoc (zs : List Int) (d : Int) (pre : List Nat) (x : Nat) : layF zs d (pre ++ [x]) = if zs.getD x 0 < d then x else layF zs d pre := by simp [layF]
def layN (zs : List Int) (d : Int) : Nat := layF zs d (List.range zs.length)
theorem layF_range (zs : List Int) (d : Int) : ∀ n, (layF zs d (List.range n) = 0 ∨ zs.getD (layF zs d (List.range n)) 0 < d) ∧ (layF zs d (List.range n) = 0 ∨ layF zs d (List.range n) < n) ∧ ∀ j, layF zs d (List.range n) < j → j < n → d ≤ zs.getD j 0
  | 0 => ⟨.inl rfl, .inl rfl, fun j _ h => by omega⟩
  | n + 1 => by
    obtain ⟨h1, h2, h3⟩ := layF_range zs d n
    rw [List.range_succ, layF_snoc]
    by_cases h : zs.getD n 0 < d
    · rw [if_pos h]
      exact ⟨.inr h, .inr (by omega), fun j h4 h5 => by omega⟩
    · rw [if_neg h]
      exact ⟨h1, by omega, fun j h4 h5 => by
        rcases Nat.lt_or_ge j n with hj | hj
        · exact h3 j h4 hj
        · obtain rfl : j = n := by omega
          omega⟩
theorem layN_lt {zs ys : List Int} {d : Int} (h : Okp zs ys) (hd : d ≤ zs.getD (zs.length - 1) 0) : layN zs d + 1 < zs.length := by
  obtain ⟨h1, h2, _⟩ := layF_range zs d zs.length
  have hn := h.n2
  have := h.n12
  unfold layN
  rcases h1 with h1 | h1
  · omega
  · rcases h2 with h2 | h2
    · omega
    · rcases Nat.lt_or_ge (layF zs d (List.range zs.length) + 1) zs.length with hlt | hge
      · exact hlt
      · rw [show layF zs d (List.range zs.length) = zs.length - 1 by omega] at h1; omega
theorem layN_le {zs ys : List Int} {d : Int} (h : Okp zs ys) (h0 : 0 ≤ d) : zs.getD (layN zs d) 0 ≤ d := by
  obtain ⟨h1, _, _⟩ := layF_range zs d zs.length
  unfold layN
  rcases h1 with h1 | h1
  · rw [h1, h.zero]; exact h0
  · omega
theorem layN_ge {zs ys : List Int} {d : Int} (h : Okp zs ys) (hd : d ≤ zs.getD (zs.length - 1) 0) : d ≤ zs.getD (layN zs d + 1) 0 := by
  have hlt := layN_lt h hd
  obtain ⟨_, _, h3⟩ := layF_range zs d zs.length
  exact h3 _ (by unfold layN; omega) hlt
/-- the layer is the only number with its two properties -/
theorem layN_uniq {zs ys : List Int} {d : Int} (h : Okp zs ys) {k : Nat} (hk : k + 1 < zs.length) (h1 : k = 0 ∨ zs.getD k 0 < d) (h2 : d ≤ zs.getD (k + 1) 0) : layN zs d = k := by
  obtain ⟨g1, g2, g3⟩ := layF_range zs d zs.length
  have e : layN zs d = layF zs d (List.range zs.length) := rfl
  rw [← e] at g1 g2 g3
  rcases Nat.lt_trichotomy (layN zs d) k with hlt | he | hgt
  · have := g3 k hlt (by omega)
    rcases h1 with h1 | h1 <;> omega
  · exact he
  · have := h.mono (i := k + 1) (layN zs d)
    rcases g1 with g1 | g1
    · omega
    · rcases Nat.lt_or_ge (k + 1) (layN zs d) with hk1 | hk1
      · have := this hk1 (by omega); omega
      · obtain hke : layN zs d = k + 1 := by omega
        rw [hke] at g1; omega

end Go.Proofs.Ytlahgdhofakinaa
namespace Go.Proofs.Ytlahgdhofakinaa
open Go.ChangeShapes Go.WideShapes Go.ChangeAt Go.RowKit Go.Shelf Num
set_option linter.unusedVariables false

/-- the depth, the layer, the knot is one of the profile's -/
def hdB (zs : List Int) (x : Int) : Bool := decide (0 ≤ x) && decide (x ≤ zs.getD (zs.length - 1) 0)
def hlB (zs : List Int) (x : Int) : Bool := decide (0 ≤ x) && decide (x < (zs.length : Int) - 1)
def hkB (zs : List Int) (x : Int) : Bool := decide (0 ≤ x) && decide (x < (zs.length : Int))
theorem hdB_t {zs : List Int} {x : Int} (h : hdB zs x = true) : 0 ≤ x ∧ x ≤ zs.getD (zs.length - 1) 0 := by unfold hdB at h; simpa using h
theorem hlB_t {zs : List Int} {x : Int} (h : hlB zs x = true) : 0 ≤ x ∧ x < (zs.length : Int) - 1 := by unfold hlB at h; simpa using h
theorem hkB_t {zs : List Int} {x : Int} (h : hkB zs x = true) : 0 ≤ x ∧ x < (zs.length : Int) := by unfold hkB at h; simpa using h
/-- the code -/
def cdT (p h : Bool) : Int := if p then (if h then 0 else 2) else 1
theorem cdT_0 {p h : Bool} (e : cdT p h = 0) : p = true ∧ h = true := by cases p <;> cases h <;> simp_all [cdT]
theorem cdT_n {p h : Bool} (e : ¬ (p = true ∧ h = true)) : ¬ cdT p h = 0 := fun g => e (cdT_0 g)

theorem inB_hl (zs : List Int) (x : Int) : inB x 0 ((zs.length : Int) - 1 - 1) = hlB zs x := by
  unfold inB hlB; rw [Bool.eq_iff_iff]; simp; omega
theorem inB_hk (zs : List Int) (x : Int) : inB x 0 ((zs.length : Int) - 1 - 0) = hkB zs x := by
  unfold inB hkB; rw [Bool.eq_iff_iff]; simp; omega
end Go.Proofs.Ytlahgdhofakinaa
namespace Go.Proofs.Ytlahgdhofakinaa
open Go.ChangeShapes Go.WideShapes Go.ChangeAt Go.RowKit Go.Shelf Num
set_option linter.unusedVariables false
theorem rt2 {a b a' b' : Int} (h : a = a') (h2 : b = b') : Ending.returned (.tuple #[.int .i64 a, .int .i64 b]) = .returned (.tuple #[.int .i64 a', .int .i64 b']) := by rw [h, h2]
/-- the layer, 0 where there is none -/
def lyV (zs ys : List Int) (x : Int) : Int := if prfB zs ys && hdB zs x then (layN zs x : Int) else 0
theorem lyV_t {zs ys : List Int} {x : Int} (h : prfB zs ys = true) (g : hdB zs x = true) : lyV zs ys x = (layN zs x : Int) := by unfold lyV; rw [h, g]; rfl
theorem lyV_f {zs ys : List Int} {x : Int} (h : prfB zs ys = false) : lyV zs ys x = 0 := by unfold lyV; rw [h]; rfl
theorem lyV_g {zs ys : List Int} {x : Int} (g : hdB zs x = false) : lyV zs ys x = 0 := by unfold lyV; rw [g, Bool.and_false]; rfl

end Go.Proofs.Ytlahgdhofakinaa
namespace Go.Proofs.Ytlahgdhofakinaa
open Go.ChangeShapes Go.WideShapes Go.ChangeAt Go.RowKit Go.Shelf Num
set_option linter.unusedVariables false
/-- counting numbers from k on -/
def ramp (k : Int) (n : Nat) : List Int := (List.range n).map (fun (i : Nat) => k + (i : Int))
theorem ramp_len (k : Int) (n : Nat) : (ramp k n).length = n := by simp [ramp]
theorem ramp_at (k : Int) {n i : Nat} (h : i < n) : (ramp k n).getD i 0 = k + (i : Int) := by
  unfold ramp
  rw [List.getD_eq_getElem?_getD, List.getElem?_map, List.getElem?_range h]
  rfl
theorem grown_id (w : World) (s : Option Nat) : w.grownBy w s := ⟨rfl, rfl, rfl, Nat.le_refl _, fun _ _ _ => rfl⟩
theorem grown_cell {w w' : World} {s : Nat} (h : w.grownBy w' (some s)) (i : Nat) (v : Value) : w.grownBy (w'.setCell ⟨s, i, none⟩ v) (some s) :=
  ⟨h.os, h.tape, h.output, by simpa using h.size, fun k hk hne => by
    have hks : k ≠ s := fun e => hne (by rw [e])
    rw [← h.block k hk hne]; exact Below.heap_setCell w' ⟨s, i, none⟩ v k hks⟩
/-- how far the marks have come -/
def mkTo (k : Int) (zs : List Int) (j i : Nat) : Value := if i < j then .int .i64 (k + (i : Int)) else .int .i64 (zs.getD i 0)

theorem mki_row (w : World) (g c : Nat) (k : Int) (zs : List Int) (hr : w.rowIs g 2 zs.length (cellsOf zs)) (hn : zs.length ≤ 1048576) (k0 : 0 ≤ k) (k1 : k ≤ 4000000) :
    Calls Try.prog 56 #[.slice (some ⟨g, 0, none⟩) zs.length c, .int .i64 k] w fun e w' => e = .returned (.int .i64 (k + (zs.length : Int))) ∧ w'.rowIs g 2 zs.length (cellsOf (ramp k zs.length)) ∧ w.grownBy w' (some g) := by
  have HR := Lib.hid hr
  clear hr
  go_enter Try.func56, Try.ntmps56
  go_wp2
  go_loopw [1, 5] (fun s i wr => ∃ j : Nat, j ≤ zs.length ∧ i = .int .i64 j ∧ s = .int .i64 (k + (j : Int)) ∧ wr.rowIs g 2 zs.length (mkTo k zs j) ∧ w.grownBy wr (some g)) (fun _ i _ => zs.length - (intOf i).toNat)
  case atStart => exact ⟨0, by omega, rfl, by simp, HR.out.congr (fun i hi => by unfold mkTo cellsOf; rw [if_neg (by omega)]), grown_id _ _⟩
  case round =>
    obtain ⟨j, hj, rfl, rfl, hrow, hg⟩ := hrel
    by_cases hlt : j < zs.length
    · have ho := hrow.cell hlt
      have hf := hrow.frozen j
      obtain ⟨u, hu⟩ : ∃ u, mkTo k zs j j = u := ⟨_, rfl⟩
      rw [hu] at ho
      have HW := Lib.hid hrow
      have HG := Lib.hid hg
      clear hrow hg hu
      go_wp2
      go_roundw
      case rel => exact ⟨j + 1, by omega, by go_num, by go_num, (HW.out.set j (.int .i64 (k + (j : Int)))).congr (fun i hi => by
        unfold mkTo
        by_cases e : i = j
        · subst e; rw [if_pos rfl, if_pos (by omega)]
        · rw [if_neg e]; by_cases h : i < j
          · rw [if_pos h, if_pos (by omega)]
          · rw [if_neg h, if_neg (by omega)]), grown_cell HG.out _ _⟩
      case measure => simp [intOf]; omega
    · obtain rfl : j = zs.length := by omega
      have HW := Lib.hid hrow
      have HG := Lib.hid hg
      clear hrow hg
      go_wp2
      go_ret
      exact ⟨rfl, HW.out.congr (fun i hi => by unfold mkTo cellsOf; rw [if_pos hi, ramp_at k hi]), HG.out⟩
theorem mki_nil (w : World) (c : Nat) (k : Int) :
    Calls Try.prog 56 #[.slice none 0 c, .int .i64 k] w fun e w' => e = .returned (.int .i64 k) ∧ w' = w := by
  go_enter Try.func56, Try.ntmps56
  go_wp2
  go_loopw [1, 5] (fun s i wr => i = .int .i64 0 ∧ s = .int .i64 k ∧ wr = w) (fun _ _ _ => 0)
  case atStart => exact ⟨rfl, rfl, rfl⟩
  case round =>
    obtain ⟨rfl, rfl, rfl⟩ := hrel
    go_wp2
    go_ret
    exact ⟨rfl, rfl⟩

theorem hdi_any (w : World) (B : Nat) (a : Option Addr) (c n : Nat) (k : Int) (hz : Ints .i64 w B a (ramp k n)) (hn : n ≤ 1048576) (k0 : 0 ≤ k) (k1 : k ≤ 4000000) :
    Calls Try.prog 57 #[.slice a n c, .int .i64 k] w fun e w' => e = .returned (.int .i64 (k + (n : Int))) ∧ w = w' := by
  go_enter Try.func57, Try.ntmps57
  go_wp2
  go_loop [1, 5] (fun s i => ∃ j : Nat, j ≤ n ∧ i = .int .i64 j ∧ s = .int .i64 (k + (j : Int))) (fun _ i => n - (intOf i).toNat)
  case atStart => exact ⟨0, by omega, rfl, by simp⟩
  case round =>
    obtain ⟨j, hj, rfl, rfl⟩ := hrel
    by_cases hlt : j < n
    · obtain ⟨b, off, rfl, hB, hc⟩ := hz.at_ (j := j) (by rw [ramp_len]; exact hlt)
      rw [ramp_at k hlt] at hc
      clear hz
      go_wp2
      go_round
      case rel => exact ⟨j + 1, by omega, by go_num, by go_num⟩
      case measure => simp [intOf]; omega
    · obtain rfl : j = n := by omega
      go_wp2
      go_ret
      exact ⟨rfl, rfl⟩
end Go.Proofs.Ytlahgdhofakinaa
namespace Go.Proofs.Ytlahgdhofakinaa
open Go.ChangeShapes Go.WideShapes Go.ChangeAt Go.RowKit
set_option linter.unusedVariables false
section
variable {P : Program} {w : World}
theorem run_app_some {t ty base : Nat} {e : TypeId} {i : TypeInfo} {z : Value} {size bytes : Nat} (ht : P.underlying t = some (.slice e)) (hi : P.info? e = some i) (hz : i.zero = some z)
    (hsize : i.size = size) (hby : i.bytes = bytes) (hzs : z.cells.size = size) (hsz : 0 < size) {g n c : Nat} {xs : List Value} (hown : w.ownsRow base e size (.slice (some ⟨g, 0, none⟩) n c) n xs)
    {ad : Addr} {m c2 : Nat} {news : List Value} (hl : news.length = m * size) (hnews : ∀ j u, news[j]? = some u → w.cell? (ad.add j) = some u) (h1 : ∀ u ∈ news, u.oneCell' = true)
    (h63 : n + m ≤ maxLen) (hbytes : (n + m) * bytes ≤ 140737488355328) (hbase : base ≤ w.heap.size) :
    ∃ g' cap' w', (Builtin.append_ #[t, t] ty #[.slice (some ⟨g, 0, none⟩) n c, .slice (some ad) m c2]).run P w = .ok (.slice (some ⟨g', 0, none⟩) (n + m) cap') w' ∧
      w'.ownsRow base e size (.slice (some ⟨g', 0, none⟩) (n + m) cap') (n + m) (xs ++ news) ∧ w.grownBy w' (some g) := by
  obtain ⟨v', w', hr, h2, h3, h4, h5⟩ := run_append_own_at (P := P) w base t ty e i z size bytes ht hi hz hsize hby hzs hsz _ n xs hown ad m c2 news hl hnews h1 h63 hbytes hbase
  rcases h2.2 with ⟨hn, _⟩ | ⟨g', cap', cur, hv, _⟩
  · exact absurd (h4.1 hn).1 (by simp)
  · subst hv
    exact ⟨g', cap', w', hr, h2, h3⟩
theorem step_app {ops : Array Oper} {o : Oper} {a : Act} {K : Act → World → Prop} {Q : Exit → Act → World → Prop} {E : Prop} (hgd : o.guard = none) (s x : Operand) (t : TypeId)
    (ho : o.op = .call { callee := .builtin .append, args := #[s, x], argTypes := #[t, t] })
    (base : Nat) (e : TypeId) (i : TypeInfo) (z : Value) (size bytes : Nat) (ht : P.underlying t = some (.slice e)) (hi : P.info? e = some i) (hz : i.zero = some z)
    (hsize : i.size = size) (hby : i.bytes = bytes) (hzs : z.cells.size = size) (hsz : 0 < size)
    (g n c : Nat) (xs : List Value) (hs : a.eval s = .slice (some ⟨g, 0, none⟩) n c) (hown : w.ownsRow base e size (.slice (some ⟨g, 0, none⟩) n c) n xs)
    (ad : Addr) (m c2 : Nat) (news : List Value) (hx : a.eval x = .slice (some ad) m c2) (hl : news.length = m * size) (hnews : ∀ j u, news[j]? = some u → w.cell? (ad.add j) = some u) (h1 : ∀ u ∈ news, u.oneCell' = true)
    (h63 : n + m ≤ maxLen) (hbytes : (n + m) * bytes ≤ 140737488355328) (hbase : base ≤ w.heap.size) (N : Nat) (hN : n + m = N)
    (h : ∀ g' cap' w', w'.ownsRow base e size (.slice (some ⟨g', 0, none⟩) N cap') N (xs ++ news) → w.grownBy w' (some g) → K (a.put o.dst (.slice (some ⟨g', 0, none⟩) N cap')) w') :
    if Region.wanted o (yielded ops a.tmps) = true then Oper.wp P o a w K Q else E := by
  subst hN
  have hw : Region.wanted o (yielded ops a.tmps) = true := by simp [Region.wanted, hgd]
  rw [if_pos hw]
  obtain ⟨g', cap', w', hr, h2, h3⟩ := run_app_some (P := P) (w := w) (ty := o.type) ht hi hz hsize hby hzs hsz hown hl hnews h1 h63 hbytes hbase
  unfold Oper.wp execOp
  simp only [ho, resolve, invoke, builtin, Sem.run_bind, Sem.run_pure, Result.andThen_ok, List.map_toArray, List.map_cons, List.map_nil, hs, hx]
  rw [hr]
  exact h g' cap' w' h2 h3
end
end Go.Proofs.Ytlahgdhofakinaa
namespace Go.Proofs.Ytlahgdhofakinaa
open Go.ChangeShapes Go.WideShapes Go.ChangeAt Go.RowKit Go.Shelf Num
set_option linter.unusedVariables false
attribute [local go_sem ↓] Go.wp_at_zero Go.wp_at_succ
/-- the code of a cut -/
def cuC (zs ys : List Int) (x : Int) : Int := if prfB zs ys && hkB zs x then (if x = 0 then 5 else 0) else cdT (prfB zs ys) (hkB zs x)
theorem cuC_0 {zs ys : List Int} {x : Int} (h : cuC zs ys x = 0) : prfB zs ys = true ∧ hkB zs x = true ∧ ¬ x = 0 := by
  unfold cuC cdT at h
  cases hp : prfB zs ys <;> cases hk : hkB zs x <;> rw [hp, hk] at h
  · simp at h
  · simp at h
  · simp at h
  · by_cases h0 : x = 0
    · simp [h0] at h
    · exact ⟨rfl, rfl, h0⟩
theorem take_cells (zs : List Int) {m : Nat} (hm : m ≤ zs.length) : (zs.take m).length = m := by simp; omega
/-- the cells of a part of a list -/
theorem ivs_at {zs : List Int} {m j : Nat} {v : Value} (h : ((zs.take m).map fun z => Value.int .i64 z)[j]? = some v) : j < m ∧ j < zs.length ∧ v = .int .i64 (zs.getD j 0) := by
  rw [List.getElem?_map] at h
  rcases Nat.lt_or_ge j (zs.take m).length with hj | hj
  · rw [List.getElem?_eq_getElem hj] at h
    simp only [Option.map_some, Option.some.injEq] at h
    subst h
    simp only [List.length_take] at hj
    refine ⟨by omega, by omega, ?_⟩
    rw [List.getElem_take, List.getD_eq_getElem?_getD, List.getElem?_eq_getElem (by omega)]; rfl
  · rw [List.getElem?_eq_none hj] at h; simp at h

theorem add_at (b o j : Nat) : (⟨b, o, none⟩ : Addr).add j = ⟨b, o + j, none⟩ := by unfold Addr.add; split <;> simp_all
theorem bk_new1 {W : World} {o : Obj} {cs : Array Value} {t : TypeId} : Bk ((W.alloc o).alloc (.cells cs t)) (W.heap.size + 1) cs t := Bk.new' (by simp)
theorem bk_new2 {W : World} {o o' : Obj} {cs : Array Value} {t : TypeId} : Bk (((W.alloc o).alloc o').alloc (.cells cs t)) (W.heap.size + 1 + 1) cs t := Bk.new' (by simp)
theorem bkd {W : World} {B : Nat} {cs : Array Value} {t : TypeId} (h : Bk W B cs t) : Bk W.drew B cs t := h
theorem info1 : (Try.prog.info? 2).map (·.size) = some 1 := by kernel_rfl
/-- copy into a new row of its own, from a row at least as long -/
theorem cpy_run {w : World} {g m b off cp : Nat} {zs : List Int} (ty : TypeId) (hm : m ≤ zs.length) {cur : Array Value} (hcur : cur.size = m) (hg : Bk w g cur 2)
    (hc : ∀ j, j < zs.length → w.cell? ⟨b, off + j, none⟩ = some (.int .i64 (zs.getD j 0))) :
    ∃ w', (Builtin.copy_ #[38, 38] ty #[.slice (some ⟨g, 0, none⟩) m m, .slice (some ⟨b, off, none⟩) zs.length cp]).run Try.prog w = .ok (goInt m) w' ∧
      w'.rowIs g 2 m (cellsOf (zs.take m)) ∧ (∀ k, k ≠ g → w'.heap[k]? = w.heap[k]?) ∧ w'.heap.size = w.heap.size ∧ (∀ B, B ≤ g → Below B w w') := by
  have hl : ((zs.take m).map fun z => Value.int .i64 z).length = m := by simp; omega
  have hrun := run_copy_row (P := Try.prog) w 38 38 ty 2 g 0 m m ⟨b, off, none⟩ zs.length cp cur 2 ((zs.take m).map fun z => .int .i64 z) Try.underlying38 info1 hg (by rw [hl]; show m = min zs.length m; omega)
    (fun j v hv => by obtain ⟨h1, h2, rfl⟩ := ivs_at hv; rw [add_at]; exact hc j h2) (by omega) (fun v hv => by rw [List.mem_map] at hv; obtain ⟨z, _, rfl⟩ := hv; rfl)
  rw [hl] at hrun
  refine ⟨_, hrun, ?_, fun k hk => setRow_other w g k _ hk, by simp [World.setRow], fun B hB => ⟨rfl, rfl, rfl, by simp [World.setRow], fun k hk => setRow_other w g k _ (by omega)⟩⟩
  refine ⟨_, setRow_heap w g _ _ _ _ hg, ?_, ?_⟩
  · simp; omega
  · intro i hi
    simp only [List.take_zero, List.nil_append, Nat.zero_add, List.getElem?_toArray]
    rw [List.getElem?_append_left (by simp; omega), List.getElem?_map, List.getElem?_eq_getElem (by simp; omega)]
    unfold cellsOf
    rw [List.getD_eq_getElem?_getD, List.getElem?_eq_getElem (by simp; omega)]
    rfl

/-- numbers as cells -/
def ivL (zs : List Int) : List Value := zs.map fun z => Value.int .i64 z
theorem ivL_at {zs : List Int} {j : Nat} {v : Value} (h : (ivL zs)[j]? = some v) : j < zs.length ∧ v = .int .i64 (zs.getD j 0) := by
  unfold ivL at h
  rw [List.getElem?_map] at h
  rcases Nat.lt_or_ge j zs.length with hj | hj
  · rw [List.getElem?_eq_getElem hj] at h
    simp only [Option.map_some, Option.some.injEq] at h
    subst h
    exact ⟨hj, by rw [List.getD_eq_getElem?_getD, List.getElem?_eq_getElem hj]; rfl⟩
  · rw [List.getElem?_eq_none hj] at h; simp at h
theorem ivL_get {zs : List Int} {j : Nat} (hj : j < zs.length) : (ivL zs)[j]? = some (.int .i64 (zs.getD j 0)) := by
  unfold ivL
  rw [List.getElem?_map, List.getElem?_eq_getElem hj, List.getD_eq_getElem?_getD, List.getElem?_eq_getElem hj]; rfl
theorem Ints.of_own {w : World} {B g n c : Nat} {zs : List Int} (h : w.ownsRow B 2 1 (.slice (some ⟨g, 0, none⟩) n c) n (ivL zs)) : Ints .i64 w w.heap.size (some ⟨g, 0, none⟩) zs := fun _ =>
  ⟨g, 0, rfl, (h.lt g rfl).2, fun j hj => by
    have := h.cells (g := g) rfl j _ (ivL_get hj)
    rwa [add_at] at this⟩
theorem own_any (w : World) (a : Option Addr) (c : Nat) (zs : List Int) (hz : Ints .i64 w w.heap.size a zs) (h0 : 0 < zs.length) (hl : zs.length ≤ 1048576) :
    Calls Try.prog 119 #[.slice a zs.length c] w fun e w' => ∃ g cap, e = .returned (.slice (some ⟨g, 0, none⟩) zs.length cap) ∧ w.heap.size ≤ g ∧ Ints .i64 w' w'.heap.size (some ⟨g, 0, none⟩) zs ∧ Below w.heap.size w w' := by
  obtain ⟨b, o, rfl, hB, hc⟩ := hz h0
  obtain ⟨i0, hi, hz0, hz1, hz2⟩ := info_parts info_i64
  have hne : ∀ j u, (ivL zs)[j]? = some u → (w.alloc (.cells #[] 2)).cell? ((⟨b, o, none⟩ : Addr).add j) = some u := fun j u hu => by obtain ⟨h1, rfl⟩ := ivL_at hu; rw [add_at]; exact kc1 (hc j h1) ((Below.refl _ _).alloc (Nat.le_refl _) _)
  have hon : ∀ u ∈ ivL zs, u.oneCell' = true := fun u hu => by unfold ivL at hu; obtain ⟨n, _, rfl⟩ := List.mem_map.1 hu; rfl
  have how : (w.alloc (.cells #[] 2)).ownsRow w.heap.size 2 1 (.slice (some ⟨w.heap.size, 0, none⟩) 0 0) 0 [] := World.ownsRow_lit w #[] 0 (Nat.le_refl w.heap.size) (by decide) (by decide)
  have hll : (ivL zs).length = zs.length * 1 := by simp [ivL]
  have N := Lib.hid hne
  have O1 := Lib.hid hon
  have O2 := Lib.hid how
  have L1 := Lib.hid hll
  clear hne hon how hll hc hz
  go_enter Try.func119, Try.ntmps119
  go_wp2_with (at_builtin; refine wpList_append_own _ rfl (.tmp 3) (.tmp 4) 38 rfl w.heap.size 2 i0 (.int .i64 0) 1 8 Try.underlying38 hi hz0 hz1 hz2 rfl (by decide) (.slice (some ⟨w.heap.size, 0, none⟩) 0 0) 0 [] rfl O2.out ⟨b, o, none⟩ zs.length c (ivL zs) rfl L1.out N.out O1.out (by unfold maxLen; omega) (by omega) (by simp) ?_; intro v' w1 hown hgr hnil; rw [Nat.zero_add, List.nil_append] at hown; (have hgr' : (w.alloc (.cells #[] 2)).grownBy w1 (some w.heap.size) := hgr); clear hgr hnil)
  rcases hown.2 with ⟨h, h9⟩ | ⟨g, cap, cur, rfl, _⟩
  · omega
  have HI := Lib.hid (Ints.of_own hown)
  have hlo := (hown.lt g rfl).1
  have HB : Hid (Below w.heap.size w w1) := Lib.hid (((Below.refl _ _).alloc (Nat.le_refl _) _).grown hgr' (by simp) (fun k e => by injection e; omega))
  clear hown hgr'
  go_wp2
  go_ret
  exact ⟨g, cap, rfl, hlo, HI.out, HB.out⟩

theorem Ints.take {w : World} {B : Nat} {a : Option Addr} {zs : List Int} (h : Ints .i64 w B a zs) (m : Nat) : Ints .i64 w B a (zs.take m) := fun hp => by
  simp only [List.length_take] at hp
  obtain ⟨b, off, e, hB, hc⟩ := h (by omega)
  refine ⟨b, off, e, hB, fun j hj => ?_⟩
  simp only [List.length_take] at hj
  rw [hc j (by omega)]
  congr 2
  rw [List.getD_eq_getElem?_getD, List.getD_eq_getElem?_getD, List.getElem?_take, if_pos (by omega)]
theorem keepP {W w2 : World} {m : Nat} {v0 v1 : Value} (c0 : W.cell? ⟨m, 0, none⟩ = some v0) (c1 : W.cell? ⟨m, 1, none⟩ = some v1) (h : Below W.heap.size W w2) :
    w2.cell? ⟨m, 0, none⟩ = some v0 ∧ w2.cell? ⟨m, 1, none⟩ = some v1 ∧ Below W.heap.size W w2 := ⟨kc1 c0 h, kc1 c1 h, h⟩
theorem Ints.setO {w : World} {B g : Nat} {zs : List Int} (h : Ints .i64 w B (some ⟨g, 0, none⟩) zs) {p : Addr} (hne : p.block ≠ g) (v : Value) : Ints .i64 (w.setCell p v) B (some ⟨g, 0, none⟩) zs := fun hp => by
  obtain ⟨b, off, e, hB, hc⟩ := h hp
  injection e with e
  injection e with e1 e2 e3
  subst e1 e2
  exact ⟨_, _, rfl, hB, fun j hj => (World.cell?_of_block (w := w) (w' := w.setCell p v) (Below.heap_setCell w p v g (fun e => hne e.symm))).trans (hc j hj)⟩
theorem keepQ {w2 W : World} {m : Nat} {v0 v1 : Value} (c0 : w2.cell? ⟨m, 0, none⟩ = some v0) (c1 : w2.cell? ⟨m, 1, none⟩ = some v1) (h : Below (m + 1) w2 W) :
    W.cell? ⟨m, 0, none⟩ = some v0 ∧ W.cell? ⟨m, 1, none⟩ = some v1 ∧ Below (m + 1) w2 W := ⟨(h.cell (p := ⟨m, 0, none⟩) (by simp)).trans c0, (h.cell (p := ⟨m, 1, none⟩) (by simp)).trans c1, h⟩
end Go.Proofs.Ytlahgdhofakinaa
namespace Go.Proofs.Ytlahgdhofakinaa
open Go.ChangeShapes Go.WideShapes Go.ChangeAt Go.RowKit Go.Shelf Num
set_option linter.unusedVariables false
/-- a row of its own, between two marks of the memory, or no row at all -/
def Own1 (w : World) (lo hi : Nat) (a : Option Addr) (zs : List Int) : Prop := (a = none ∧ zs = []) ∨ ∃ g, a = some ⟨g, 0, none⟩ ∧ lo ≤ g ∧ g < hi ∧ w.rowIs g 2 zs.length (cellsOf zs)
/-- only blocks between two marks have turned, or are new -/
structure Kept (lo hi : Nat) (w w' : World) : Prop where
  os : w'.os = w.os
  tape : w'.tape = w.tape
  output : w'.output = w.output
  size : w.heap.size ≤ w'.heap.size
  block : ∀ k, k < w.heap.size → (k < lo ∨ hi ≤ k) → w'.heap[k]? = w.heap[k]?
theorem Kept.below {lo hi : Nat} {w w' : World} (h : Kept lo hi w w') (hl : lo ≤ w.heap.size) : Below lo w w' := ⟨h.os, h.tape, h.output, h.size, fun k hk => h.block k (by omega) (Or.inl hk)⟩
theorem Kept.trans {lo hi : Nat} {a b c : World} (h : Kept lo hi a b) (g : Kept lo hi b c) : Kept lo hi a c :=
  ⟨g.os.trans h.os, g.tape.trans h.tape, g.output.trans h.output, Nat.le_trans h.size g.size, fun k hk hd => (g.block k (Nat.lt_of_lt_of_le hk h.size) hd).trans (h.block k hk hd)⟩
theorem Kept.of_below {lo hi : Nat} {w w' : World} (h : Below w.heap.size w w') : Kept lo hi w w' := ⟨h.os, h.tape, h.output, h.size, fun k hk _ => h.block k hk⟩
theorem Kept.of_grown {lo hi : Nat} {w w' : World} {s : Option Nat} (h : w.grownBy w' s) (hs : ∀ g, s = some g → lo ≤ g ∧ g < hi) : Kept lo hi w w' :=
  ⟨h.os, h.tape, h.output, h.size, fun k hk hd => h.block k hk (fun e => by have := hs k e.symm; omega)⟩
theorem Own1.ints {w : World} {lo hi : Nat} {a : Option Addr} {zs : List Int} (h : Own1 w lo hi a zs) : Ints .i64 w w.heap.size a zs := by
  rcases h with ⟨rfl, rfl⟩ | ⟨g, rfl, _, _, hr⟩
  · intro h; simp at h
  · exact Ints.of_rowIs hr
theorem Own1.at_ {w w' : World} {lo hi : Nat} {a : Option Addr} {zs : List Int} (h : Own1 w lo hi a zs) (hk : ∀ g, a = some ⟨g, 0, none⟩ → w'.heap[g]? = w.heap[g]?) : Own1 w' lo hi a zs := by
  rcases h with h | ⟨g, rfl, h1, h2, hr⟩
  · exact Or.inl h
  · exact Or.inr ⟨g, rfl, h1, h2, hr.of_block (hk g rfl)⟩
theorem Own1.lt {w : World} {lo hi g : Nat} {a : Option Addr} {zs : List Int} (h : Own1 w lo hi a zs) (e : a = some ⟨g, 0, none⟩) : lo ≤ g ∧ g < hi ∧ g < w.heap.size := by
  rcases h with ⟨rfl, _⟩ | ⟨g', rfl, h1, h2, hr⟩
  · cases e
  · injection e with e; injection e with e; subst e; exact ⟨h1, h2, hr.lt⟩
structure OwnP (w : World) (lo hi : Nat) (a b : Option Addr) (zs ys : List Int) : Prop where
  fst : Own1 w lo hi a zs
  snd : Own1 w lo hi b ys
  ne : ∀ g h, a = some ⟨g, 0, none⟩ → b = some ⟨h, 0, none⟩ → g ≠ h
  up : hi ≤ w.heap.size
  lz : zs.length ≤ 1048576
  ly : ys.length ≤ 1048576
theorem OwnP.prof {w : World} {lo hi : Nat} {a b : Option Addr} {zs ys : List Int} (h : OwnP w lo hi a b zs ys) : Prof w w.heap.size a b zs ys := ⟨h.fst.ints, h.snd.ints, h.lz, h.ly⟩
theorem OwnP.on {w w' : World} {lo hi : Nat} {a b : Option Addr} {zs ys : List Int} (h : OwnP w lo hi a b zs ys) (hb : Below w.heap.size w w') : OwnP w' lo hi a b zs ys :=
  ⟨h.fst.at_ (fun g e => hb.block g (h.fst.lt e).2.2), h.snd.at_ (fun g e => hb.block g (h.snd.lt e).2.2), h.ne, Nat.le_trans h.up hb.size, h.lz, h.ly⟩
theorem OwnP.kept {w w' : World} {lo hi l i : Nat} {a b : Option Addr} {zs ys : List Int} (h : OwnP w lo hi a b zs ys) (hk : Kept l i w w') (hd : hi ≤ l ∨ i ≤ lo) : OwnP w' lo hi a b zs ys :=
  ⟨h.fst.at_ (fun g e => hk.block g (h.fst.lt e).2.2 (by have := h.fst.lt e; omega)), h.snd.at_ (fun g e => hk.block g (h.snd.lt e).2.2 (by have := h.snd.lt e; omega)), h.ne, Nat.le_trans h.up hk.size, h.lz, h.ly⟩
theorem Bk.keptP {W W' : World} {B l i : Nat} {cs : Array Value} {t : TypeId} (h : Bk W B cs t) (hk : Kept l i W W') (hd : B < l ∨ i ≤ B) : Bk W' B cs t := (hk.block B h.lt hd).trans h
/-- a profile below a mark -/
structure ProfL (w : World) (L : Nat) (a b : Option Addr) (zs ys : List Int) : Prop where
  at_ : Prof w L a b zs ys
  le : L ≤ w.heap.size
theorem ProfL.of {w : World} {a b : Option Addr} {zs ys : List Int} (h : Prof w w.heap.size a b zs ys) : ProfL w w.heap.size a b zs ys := ⟨h, Nat.le_refl _⟩
theorem ProfL.on {w w' : World} {L : Nat} {a b : Option Addr} {zs ys : List Int} (h : ProfL w L a b zs ys) (hb : Below w.heap.size w w') : ProfL w' L a b zs ys := ⟨h.at_.below (hb.mono h.le), Nat.le_trans h.le hb.size⟩
theorem ProfL.prof {w : World} {L : Nat} {a b : Option Addr} {zs ys : List Int} (h : ProfL w L a b zs ys) : Prof w w.heap.size a b zs ys := h.at_.more h.le
theorem ProfL.kept {w w' : World} {L l i : Nat} {a b : Option Addr} {zs ys : List Int} (h : ProfL w L a b zs ys) (hk : Kept l i w w') (hd : L ≤ l) (hl : l ≤ w.heap.size) : ProfL w' L a b zs ys := ⟨h.at_.below ((hk.below hl).mono hd), Nat.le_trans h.le hk.size⟩

theorem mk1_any (w : World) (lo hi : Nat) (a : Option Addr) (c : Nat) (zs : List Int) (k : Int) (h : Own1 w lo hi a zs) (hn : zs.length ≤ 1048576) (k0 : 0 ≤ k) (k1 : k ≤ 4000000) :
    Calls Try.prog 56 #[.slice a zs.length c, .int .i64 k] w fun e w' => e = .returned (.int .i64 (k + (zs.length : Int))) ∧ Own1 w' lo hi a (ramp k zs.length) ∧ w.grownBy w' (a.map (·.block)) := by
  rcases h with ⟨rfl, rfl⟩ | ⟨g, rfl, h1, h2, hr⟩
  · refine (mki_nil w c k).mono ?_
    rintro e w' ⟨rfl, rfl⟩
    exact ⟨by simp, Or.inl ⟨rfl, rfl⟩, grown_id _ _⟩
  · refine (mki_row w g c k zs hr hn k0 k1).mono ?_
    rintro e w' ⟨rfl, hr', hg⟩
    exact ⟨rfl, Or.inr ⟨g, rfl, h1, h2, by rw [ramp_len]; exact hr'⟩, hg⟩

/-- what a cut keeps of a list -/
def cuL (q x : Int) (zs : List Int) : List Int := if q = 0 then zs.take (x.toNat + 1) else []
end Go.Proofs.Ytlahgdhofakinaa
namespace Go.Proofs.Ytlahgdhofakinaa
open Go.ChangeShapes Go.WideShapes Go.ChangeAt Go.RowKit Go.Shelf Num
set_option linter.unusedVariables false
/-- a row that grows behind the world w1 -/
structure RowIn (w1 : World) (a : Option Addr) (c : Nat) (L : List Int) (W : World) : Prop where
  own : W.ownsRow w1.heap.size 2 1 (.slice a L.length c) L.length (L.map iv4)
  bel : Below w1.heap.size w1 W
theorem RowIn.nil (w1 : World) : RowIn w1 none 0 [] w1 := ⟨World.ownsRow_nil _ _ _ _, Below.refl _ _⟩
theorem RowIn.lit (w1 : World) : RowIn w1 (some ⟨w1.heap.size, 0, none⟩) 0 [] (w1.alloc (.cells #[] 2)) :=
  ⟨World.ownsRow_lit (base := w1.heap.size) (e := 2) (size := 1) w1 #[] 0 (Nat.le_refl _) (by decide) (by decide), (Below.refl _ _).alloc (Nat.le_refl _) _⟩
theorem RowIn.on {w1 W W' : World} {a : Option Addr} {c : Nat} {L : List Int} (h : RowIn w1 a c L W) (hb : Below W.heap.size W W') : RowIn w1 a c L W' := ⟨own_bel h.own hb, bel_end h.bel hb⟩
/-- one number more -/
theorem RowIn.snoc {w1 W w9 : World} {a : Option Addr} {c g cap : Nat} {L : List Int} {x : Int} {o : Obj} (h : RowIn w1 a c L W) (hown : w9.ownsRow w1.heap.size 2 1 (.slice (some ⟨g, 0, none⟩) (L.length + 1) cap) (L.length + 1) (L.map iv4 ++ [.int .i64 x]))
    (hgrow : (W.alloc o).grownBy w9 (Value.slice a L.length c).ownBlock) : RowIn w1 (some ⟨g, 0, none⟩) cap (L ++ [x]) w9 :=
  ⟨by simpa [iv4] using hown, (h.bel.alloc h.bel.size o).grown hgrow (by simp; exact Nat.le_succ_of_le h.bel.size) (fun k e => (h.own.lt k e).1)⟩
/-- a row of one's own between two marks of the memory -/
structure OwnA (w : World) (lo hi : Nat) (a : Option Addr) (c : Nat) (zs : List Int) : Prop where
  own : w.ownsRow lo 2 1 (.slice a zs.length c) zs.length (zs.map iv4)
  lt : ∀ g, (Value.slice a zs.length c).ownBlock = some g → g < hi
  up : hi ≤ w.heap.size
theorem RowIn.ownA {w1 W : World} {a : Option Addr} {c : Nat} {L : List Int} (h : RowIn w1 a c L W) {lo : Nat} (hl : lo ≤ w1.heap.size) : OwnA W lo W.heap.size a c L :=
  ⟨World.ownsRow.mono h.own hl, fun g e => (h.own.lt g e).2, Nat.le_refl _⟩
theorem OwnA.less {w : World} {lo lo' hi : Nat} {a : Option Addr} {c : Nat} {zs : List Int} (h : OwnA w lo hi a c zs) (hl : lo' ≤ lo) : OwnA w lo' hi a c zs := ⟨World.ownsRow.mono h.own hl, h.lt, h.up⟩
theorem OwnP.new2 {w' : World} {s g h : Nat} {zs ys : List Int} (hg : s ≤ g) (hh : g < h) (h1 : w'.rowIs g 2 zs.length (cellsOf zs)) (h2 : w'.rowIs h 2 ys.length (cellsOf ys)) (lz : zs.length ≤ 1048576) (ly : ys.length ≤ 1048576) :
    OwnP w' s w'.heap.size (some ⟨g, 0, none⟩) (some ⟨h, 0, none⟩) zs ys :=
  ⟨Or.inr ⟨g, rfl, hg, h1.lt, h1⟩, Or.inr ⟨h, rfl, by omega, h2.lt, h2⟩, (fun g' h' e e' => by injection e with e; injection e with e; injection e' with e'; injection e' with e'; omega), Nat.le_refl _, lz, ly⟩
/-- a list equals itself -/
theorem eql_any (w : World) (a b : Option Addr) (c d : Nat) (xs : List Int) (hl : xs.length ≤ 1048576) (hx : Ints .i64 w w.heap.size a xs) (hy : Ints .i64 w w.heap.size b xs) :
    Calls Try.prog 54 #[.slice a xs.length c, .slice b xs.length d] w fun e w' => e = .returned (.bool true) ∧ Below w.heap.size w w' :=
  (eqi_any w w.heap.size a b c d xs xs (by omega) (by omega) hx hy).mono (by rintro e w' ⟨rfl, n, rfl⟩; exact ⟨by rw [sameB_t rfl], bel_drewN (Below.refl _ _) _⟩)
theorem OwnA.ints {w : World} {lo hi : Nat} {a : Option Addr} {c : Nat} {zs : List Int} (h : OwnA w lo hi a c zs) : Ints .i64 w w.heap.size a zs := own_ints h.own
theorem OwnA.on {w w' : World} {lo hi : Nat} {a : Option Addr} {c : Nat} {zs : List Int} (h : OwnA w lo hi a c zs) (hb : Below w.heap.size w w') : OwnA w' lo hi a c zs := ⟨own_bel h.own hb, h.lt, Nat.le_trans h.up hb.size⟩
theorem own_at {w w' : World} {B n : Nat} {a : Option Addr} {c : Nat} {xs : List Value} (h : w.ownsRow B 2 1 (.slice a n c) n xs) (hk : ∀ g, (Value.slice a n c).ownBlock = some g → w'.heap[g]? = w.heap[g]?) : w'.ownsRow B 2 1 (.slice a n c) n xs := by
  refine ⟨h.1, ?_⟩
  rcases h.2 with h' | ⟨g, cap, cur, hv, hb, hg, rest⟩
  · exact Or.inl h'
  · exact Or.inr ⟨g, cap, cur, hv, hb, (hk g (by rw [hv]; rfl)).trans hg, rest⟩
theorem OwnA.kept {w w' : World} {lo hi l i : Nat} {a : Option Addr} {c : Nat} {zs : List Int} (h : OwnA w lo hi a c zs) (hk : Kept l i w w') (hd : hi ≤ l ∨ i ≤ lo) : OwnA w' lo hi a c zs :=
  ⟨own_at h.own (fun g e => hk.block g (h.own.lt g e).2 (by have := (h.own.lt g e).1; have := h.lt g e; omega)), h.lt, Nat.le_trans h.up hk.size⟩
/-- numbers below a mark -/
structure IntL (w : World) (L : Nat) (a : Option Addr) (zs : List Int) : Prop where
  at_ : Ints .i64 w L a zs
  le : L ≤ w.heap.size
theorem IntL.of {w : World} {a : Option Addr} {zs : List Int} (h : Ints .i64 w w.heap.size a zs) : IntL w w.heap.size a zs := ⟨h, Nat.le_refl _⟩
theorem IntL.on {w w' : World} {L : Nat} {a : Option Addr} {zs : List Int} (h : IntL w L a zs) (hb : Below w.heap.size w w') : IntL w' L a zs := ⟨h.at_.below (hb.mono h.le), Nat.le_trans h.le hb.size⟩
theorem IntL.ints {w : World} {L : Nat} {a : Option Addr} {zs : List Int} (h : IntL w L a zs) : Ints .i64 w w.heap.size a zs := h.at_.more h.le
theorem IntL.kept {w w' : World} {L l i : Nat} {a : Option Addr} {zs : List Int} (h : IntL w L a zs) (hk : Kept l i w w') (hd : L ≤ l) (hl : l ≤ w.heap.size) : IntL w' L a zs := ⟨h.at_.below ((hk.below hl).mono hd), Nat.le_trans h.le hk.size⟩
/-- how far the marks have come -/
def mkV (k : Int) (zs : List Int) (j : Nat) : List Int := ramp k j ++ zs.drop j
theorem mkV_0 (k : Int) (zs : List Int) : mkV k zs 0 = zs := by simp [mkV, ramp]
theorem mkV_len (k : Int) {zs : List Int} {j : Nat} (h : j ≤ zs.length) : (mkV k zs j).length = zs.length := by simp [mkV, ramp_len]; omega
theorem mkV_end (k : Int) (zs : List Int) : mkV k zs zs.length = ramp k zs.length := by simp [mkV]
theorem mkV_set (k : Int) {zs : List Int} {j : Nat} (h : j < zs.length) : (mkV k zs j).set j (k + (j : Int)) = mkV k zs (j + 1) := by
  unfold mkV
  rw [List.set_append_right _ _ (by rw [ramp_len]; exact Nat.le_refl _), ramp_len, Nat.sub_self]
  have hd : zs.drop j = zs[j] :: zs.drop (j + 1) := List.drop_eq_getElem_cons h
  rw [hd, List.set_cons_zero]
  have hr : ramp k (j + 1) = ramp k j ++ [k + (j : Int)] := by unfold ramp; rw [List.range_succ, List.map_append]; rfl
  rw [hr, List.append_assoc]; rfl
theorem own_set {w : World} {B g c n : Nat} {zs : List Int} (h : w.ownsRow B 2 1 (.slice (some ⟨g, 0, none⟩) n c) n (zs.map iv4)) (j : Nat) (x : Int) :
    (w.setCell ⟨g, j, none⟩ (.int .i64 x)).ownsRow B 2 1 (.slice (some ⟨g, 0, none⟩) n c) n ((zs.set j x).map iv4) := by
  have := (h.stored j (.int .i64 x)).1
  rwa [show (zs.set j x).map iv4 = (zs.map iv4).set j (.int .i64 x) by rw [List.map_set]; rfl]
theorem mka_row (w : World) (B g c : Nat) (k : Int) (zs : List Int) (hr : w.ownsRow B 2 1 (.slice (some ⟨g, 0, none⟩) zs.length c) zs.length (zs.map iv4)) (hn : zs.length ≤ 1048576) (k0 : 0 ≤ k) (k1 : k ≤ 4000000) :
    Calls Try.prog 56 #[.slice (some ⟨g, 0, none⟩) zs.length c, .int .i64 k] w fun e w' => e = .returned (.int .i64 (k + (zs.length : Int))) ∧ w'.ownsRow B 2 1 (.slice (some ⟨g, 0, none⟩) zs.length c) zs.length ((ramp k zs.length).map iv4) ∧ w.grownBy w' (some g) := by
  have HR := Lib.hid hr
  clear hr
  go_enter Try.func56, Try.ntmps56
  go_wp2
  go_loopw [1, 5] (fun s i wr => ∃ j : Nat, j ≤ zs.length ∧ i = .int .i64 j ∧ s = .int .i64 (k + (j : Int)) ∧ wr.ownsRow B 2 1 (.slice (some ⟨g, 0, none⟩) zs.length c) zs.length ((mkV k zs j).map iv4) ∧ w.grownBy wr (some g)) (fun _ i _ => zs.length - (intOf i).toNat)
  case atStart => exact ⟨0, by omega, rfl, by simp, by rw [mkV_0]; exact HR.out, grown_id _ _⟩
  case round =>
    obtain ⟨j, hj, rfl, rfl, hrow, hg⟩ := hrel
    by_cases hlt : j < zs.length
    · obtain ⟨u, ho⟩ : ∃ u, wr.cell? ⟨g, j, none⟩ = some u := by
        rw [hrow.cellAt j (by omega), List.getElem?_map, List.getElem?_eq_getElem (by rw [mkV_len k hj]; exact hlt)]
        exact ⟨_, rfl⟩
      have hf := hrow.frozenAt j
      have HW := Lib.hid hrow
      have HG := Lib.hid hg
      clear hrow hg
      go_wp2
      go_roundw
      case rel => exact ⟨j + 1, by omega, by go_num, by go_num, by rw [← mkV_set k hlt]; exact own_set HW.out j _, grown_cell HG.out _ _⟩
      case measure => simp [intOf]; omega
    · obtain rfl : j = zs.length := by omega
      have HW := Lib.hid hrow
      have HG := Lib.hid hg
      clear hrow hg
      go_wp2
      go_ret
      exact ⟨rfl, by rw [← mkV_end k zs]; exact HW.out, HG.out⟩
theorem mkb_any (w : World) (lo hi : Nat) (a : Option Addr) (c : Nat) (zs : List Int) (k : Int) (h : OwnA w lo hi a c zs) (hn : zs.length ≤ 1048576) (k0 : 0 ≤ k) (k1 : k ≤ 4000000) :
    Calls Try.prog 56 #[.slice a zs.length c, .int .i64 k] w fun e w' => e = .returned (.int .i64 (k + (zs.length : Int))) ∧ OwnA w' lo hi a c (ramp k zs.length) ∧ w.grownBy w' (Value.slice a zs.length c).ownBlock := by
  rcases h.own.2 with ⟨hv, h0⟩ | ⟨g, cap, cur, hv, hb, hg, rest⟩
  · simp only [Value.slice.injEq] at hv
    obtain ⟨rfl, h1, rfl⟩ := hv
    obtain rfl : zs = [] := List.length_eq_zero_iff.1 h1
    refine (mki_nil w 0 k).mono ?_
    rintro e w' ⟨rfl, rfl⟩
    exact ⟨by simp, ⟨by simpa [ramp] using World.ownsRow_nil w' lo 2 1, fun g e => by simp [Value.ownBlock] at e, h.up⟩, grown_id _ _⟩
  · simp only [Value.slice.injEq] at hv
    obtain ⟨rfl, -, rfl⟩ := hv
    refine (mka_row w lo g c k zs h.own hn k0 k1).mono ?_
    rintro e w' ⟨rfl, hr', hgr⟩
    exact ⟨rfl, ⟨by rw [ramp_len]; exact hr', fun x e => h.lt x (by simpa [Value.ownBlock] using e), Nat.le_trans h.up hgr.size⟩, hgr⟩
theorem mka_any (w : World) (lo hi : Nat) (a : Option Addr) (c : Nat) (zs : List Int) (k : Int) (h : OwnA w lo hi a c zs) (hn : zs.length ≤ 1048576) (k0 : 0 ≤ k) (k1 : k ≤ 4000000) :
    Calls Try.prog 56 #[.slice a zs.length c, .int .i64 k] w fun e w' => e = .returned (.int .i64 (k + (zs.length : Int))) ∧ OwnA w' lo hi a c (ramp k zs.length) ∧ Kept lo hi w w' :=
  (mkb_any w lo hi a c zs k h hn k0 k1).mono fun e w' ⟨he, ho, hg⟩ => ⟨he, ho, Kept.of_grown hg (fun g e => ⟨(h.own.lt g e).1, h.lt g e⟩)⟩
/-- two rows of one's own between two marks -/
structure OwnQ (w : World) (lo hi : Nat) (a : Option Addr) (c : Nat) (b : Option Addr) (d : Nat) (zs ys : List Int) : Prop where
  fst : OwnA w lo hi a c zs
  snd : OwnA w lo hi b d ys
  ne : ∀ g, (Value.slice a zs.length c).ownBlock = some g → (Value.slice b ys.length d).ownBlock ≠ some g
theorem OwnQ.nil (w : World) (lo hi : Nat) (h : hi ≤ w.heap.size) : OwnQ w lo hi none 0 none 0 [] [] :=
  ⟨⟨World.ownsRow_nil _ _ _ _, fun g e => by simp [Value.ownBlock] at e, h⟩, ⟨World.ownsRow_nil _ _ _ _, fun g e => by simp [Value.ownBlock] at e, h⟩, fun g e => by simp [Value.ownBlock] at e⟩
theorem OwnQ.prof {w : World} {lo hi : Nat} {a b : Option Addr} {c d : Nat} {zs ys : List Int} (h : OwnQ w lo hi a c b d zs ys) (lz : zs.length ≤ 1048576) (ly : ys.length ≤ 1048576) : Prof w w.heap.size a b zs ys := ⟨h.fst.ints, h.snd.ints, lz, ly⟩
theorem OwnQ.on {w w' : World} {lo hi : Nat} {a b : Option Addr} {c d : Nat} {zs ys : List Int} (h : OwnQ w lo hi a c b d zs ys) (hb : Below w.heap.size w w') : OwnQ w' lo hi a c b d zs ys := ⟨h.fst.on hb, h.snd.on hb, h.ne⟩
theorem OwnQ.kept {w w' : World} {lo hi l i : Nat} {a b : Option Addr} {c d : Nat} {zs ys : List Int} (h : OwnQ w lo hi a c b d zs ys) (hk : Kept l i w w') (hd : hi ≤ l ∨ i ≤ lo) : OwnQ w' lo hi a c b d zs ys := ⟨h.fst.kept hk hd, h.snd.kept hk hd, h.ne⟩
theorem OwnQ.up {w : World} {lo hi : Nat} {a b : Option Addr} {c d : Nat} {zs ys : List Int} (h : OwnQ w lo hi a c b d zs ys) : hi ≤ w.heap.size := h.fst.up
end Go.Proofs.Ytlahgdhofakinaa
namespace Go.Proofs.Ytlahgdhofakinaa
open Go.ChangeShapes Go.WideShapes Go.ChangeAt Go.RowKit Num
set_option linter.unusedVariables false
theorem lki_any (w : World) (B : Nat) (a b : Option Addr) (c d : Nat) (xs : List Int) (hl : xs.length ≤ 1048576) (hx : Ints .i64 w B a xs) (hy : Ints .i64 w B b xs) :
    Calls Try.prog 36 #[.slice a xs.length c, .slice b xs.length d] w fun e w' => e = .returned (.bool true) ∧ ∃ n, w' = w.drewN n := by
  obtain ⟨n, hn⟩ : ∃ n, xs.length = n := ⟨_, rfl⟩
  have N1 := Lib.hid hn
  rw [hn] at hl ⊢
  clear hn
  go_enter Try.func36, Try.ntmps36
  go_wp2
  go_loopw [5] (fun i wr => ∃ k : Nat, (∃ m, wr = w.drewN m) ∧ k ≤ n ∧ i = .int .i64 k) (fun i _ => n - (intOf i).toNat)
  case atStart => exact ⟨0, ⟨0, rfl⟩, by omega, rfl⟩
  case round =>
    obtain ⟨k, ⟨m, rfl⟩, hk, rfl⟩ := hrel
    by_cases hlt : k < n
    · obtain ⟨b1, off1, rfl, _, hc1⟩ := hx.at_ (j := k) (by rw [N1.out]; omega)
      obtain ⟨b2, off2, rfl, _, hc2⟩ := hy.at_ (j := k) (by rw [N1.out]; omega)
      clear hx hy
      obtain ⟨x, hx⟩ : ∃ x, xs.getD k 0 = x := ⟨_, rfl⟩
      rw [hx] at hc1 hc2
      clear hx
      go_wp2
      go_quiet (fail)
      go_wp2
      go_roundw
      case rel => exact ⟨k + 1, ⟨_, rfl⟩, by omega, by go_num⟩
      case measure => simp [intOf]; omega
    · go_wp2
      go_ret
      exact ⟨rfl, _, rfl⟩
theorem mem_at {L : List Int} {x : Int} {k : Nat} (hk : k < L.length) (h : L.getD k 0 = x) : decide (x ∈ L) = true := by
  refine decide_eq_true ?_
  rw [List.getD_eq_getElem?_getD, List.getElem?_eq_getElem hk] at h
  have h' : L[k] = x := h
  exact h' ▸ List.getElem_mem hk
theorem mem_no {L : List Int} {x : Int} (h : ∀ j, j < L.length → L.getD j 0 ≠ x) : decide (x ∈ L) = false := by
  refine decide_eq_false fun hc => ?_
  obtain ⟨j, hj, e⟩ := List.getElem_of_mem hc
  exact h j hj (by rw [List.getD_eq_getElem?_getD, List.getElem?_eq_getElem hj]; exact e)
theorem hsi_any (w : World) (B : Nat) (a : Option Addr) (cap : Nat) (L : List Int) (x : Int) (hl : L.length ≤ 1000000) (hz : Ints .i64 w B a L) :
    Calls Try.prog 25 #[.slice a L.length cap, .int .i64 x] w fun e w' => e = .returned (.bool (decide (x ∈ L))) ∧ w = w' := by
  go_enter Try.func25, Try.ntmps25
  go_wp2
  go_loop [5] (fun i => ∃ k : Nat, k ≤ L.length ∧ i = .int .i64 k ∧ ∀ j, j < k → L.getD j 0 ≠ x) (fun i => L.length - (intOf i).toNat)
  case atStart => exact ⟨0, by omega, rfl, fun j hj => by omega⟩
  case round =>
    obtain ⟨k, hk, rfl, hr⟩ := hrel
    have HR := Lib.hid hr
    clear hr
    by_cases hlt : k < L.length
    · obtain ⟨b, off, rfl, hB, hc⟩ := hz.at_ hlt
      clear hz
      obtain ⟨y, hy⟩ : ∃ y, L.getD k 0 = y := ⟨_, rfl⟩
      rw [hy] at hc
      have HY := Lib.hid hy
      clear hy
      by_cases he : y = x
      · subst he
        have HM := Lib.hid (mem_at hlt HY.out)
        go_wp2
        go_ret
        exact ⟨ret_bool HM.out.symm, rfl⟩
      · have hb : (y == x) = false := by simpa using he
        go_wp2
        go_round
        case rel =>
          refine ⟨k + 1, by omega, by go_num, fun j hj => ?_⟩
          by_cases hjk : j < k
          · exact HR.out j hjk
          · obtain rfl : j = k := by omega
            rw [HY.out]; exact he
        case measure => simp [intOf]; omega
    · have HM := Lib.hid (mem_no (L := L) (x := x) (fun j hj => HR.out j (by omega)))
      go_wp2
      go_ret
      exact ⟨ret_bool HM.out.symm, rfl⟩
end Go.Proofs.Ytlahgdhofakinaa
