/- Contracts of CutProfile, the program's and the model's. -/
import Derived.Test.YtcaekheghjnipabDoorPfl
import Derived.Test.YtcaekheghjnipabDoorMark
import Derived.Test.YtcaekheghjnipabDoorApp
import Derived.Laws.CopyOwn
import Derived.RegionTactic
import Derived.Deep.RegionHeld3
import Derived.Deep.DeepCutAuto
import Derived.Deep.DrawnRows
import Derived.OwnWalk
import Derived.Outline
namespace Go.Proofs.YtcaekheghjnipabDoor
open Go.ChangeShapes Go.WideShapes Go.ChangeAt Go.RowKit Go.Shelf Num
set_option linter.unusedVariables false
attribute [local go_sem ↓] Go.wp_at_zero Go.wp_at_succ
/-- the code of a cut -/
def cuC (zs ys : List Int) (x : Int) : Int := if prfB zs ys && hkB zs x then (if x = 0 then 5 else 0) else cdT (prfB zs ys) (hkB zs x)
theorem cuC_0 {zs ys : List Int} {x : Int} (h : cuC zs ys x = 0) : prfB zs ys = true ∧ hkB zs x = true ∧ ¬ x = 0 := by
  unfold cuC cdT at h
  cases hp : prfB zs ys <;> cases hk : hkB zs x <;> rw [hp, hk] at h
  · simp at h
  · simp at h
  · simp at h
  · by_cases h0 : x = 0
    · simp [h0] at h
    · exact ⟨rfl, rfl, h0⟩
theorem take_cells (zs : List Int) {m : Nat} (hm : m ≤ zs.length) : (zs.take m).length = m := by simp; omega
/-- the cells of a part of a list -/
theorem ivs_at {zs : List Int} {m j : Nat} {v : Value} (h : ((zs.take m).map fun z => Value.int .i64 z)[j]? = some v) : j < m ∧ j < zs.length ∧ v = .int .i64 (zs.getD j 0) := by
  rw [List.getElem?_map] at h
  rcases Nat.lt_or_ge j (zs.take m).length with hj | hj
  · rw [List.getElem?_eq_getElem hj] at h
    simp only [Option.map_some, Option.some.injEq] at h
    subst h
    simp only [List.length_take] at hj
    refine ⟨by omega, by omega, ?_⟩
    rw [List.getElem_take, List.getD_eq_getElem?_getD, List.getElem?_eq_getElem (by omega)]; rfl
  · rw [List.getElem?_eq_none hj] at h; simp at h

theorem add_at (b o j : Nat) : (⟨b, o, none⟩ : Addr).add j = ⟨b, o + j, none⟩ := by unfold Addr.add; split <;> simp_all
theorem bk_new1 {W : World} {o : Obj} {cs : Array Value} {t : TypeId} : Bk ((W.alloc o).alloc (.cells cs t)) (W.heap.size + 1) cs t := Bk.new' (by simp)
theorem bk_new2 {W : World} {o o' : Obj} {cs : Array Value} {t : TypeId} : Bk (((W.alloc o).alloc o').alloc (.cells cs t)) (W.heap.size + 1 + 1) cs t := Bk.new' (by simp)
theorem bkd {W : World} {B : Nat} {cs : Array Value} {t : TypeId} (h : Bk W B cs t) : Bk W.drew B cs t := h
theorem info1 : (Tryd.prog.info? 2).map (·.size) = some 1 := by kernel_rfl
/-- copy into a new row of its own, from a row at least as long -/
theorem cpy_run {w : World} {g m b off cp : Nat} {zs : List Int} (ty : TypeId) (hm : m ≤ zs.length) {cur : Array Value} (hcur : cur.size = m) (hg : Bk w g cur 2)
    (hc : ∀ j, j < zs.length → w.cell? ⟨b, off + j, none⟩ = some (.int .i64 (zs.getD j 0))) :
    ∃ w', (Builtin.copy_ #[22, 22] ty #[.slice (some ⟨g, 0, none⟩) m m, .slice (some ⟨b, off, none⟩) zs.length cp]).run Tryd.prog w = .ok (goInt m) w' ∧
      w'.rowIs g 2 m (cellsOf (zs.take m)) ∧ (∀ k, k ≠ g → w'.heap[k]? = w.heap[k]?) ∧ w'.heap.size = w.heap.size ∧ (∀ B, B ≤ g → Below B w w') := by
  have hl : ((zs.take m).map fun z => Value.int .i64 z).length = m := by simp; omega
  have hrun := run_copy_row (P := Tryd.prog) w 22 22 ty 2 g 0 m m ⟨b, off, none⟩ zs.length cp cur 2 ((zs.take m).map fun z => .int .i64 z) Tryd.underlying22 info1 hg (by rw [hl]; show m = min zs.length m; omega)
    (fun j v hv => by obtain ⟨h1, h2, rfl⟩ := ivs_at hv; rw [add_at]; exact hc j h2) (by omega) (fun v hv => by rw [List.mem_map] at hv; obtain ⟨z, _, rfl⟩ := hv; rfl)
  rw [hl] at hrun
  refine ⟨_, hrun, ?_, fun k hk => setRow_other w g k _ hk, by simp [World.setRow], fun B hB => ⟨rfl, rfl, rfl, by simp [World.setRow], fun k hk => setRow_other w g k _ (by omega)⟩⟩
  refine ⟨_, setRow_heap w g _ _ _ _ hg, ?_, ?_⟩
  · simp; omega
  · intro i hi
    simp only [List.take_zero, List.nil_append, Nat.zero_add, List.getElem?_toArray]
    rw [List.getElem?_append_left (by simp; omega), List.getElem?_map, List.getElem?_eq_getElem (by simp; omega)]
    unfold cellsOf
    rw [List.getD_eq_getElem?_getD, List.getElem?_eq_getElem (by simp; omega)]
    rfl

set_option maxRecDepth 100000 in
set_option maxHeartbeats 4000000 in
theorem icu_ok (w : World) (a b : Option Addr) (c d : Nat) (zs ys : List Int) (kn : Nat) (hp : Prof w w.heap.size a b zs ys) (hv : prfB zs ys = true) (hh : hkB zs (kn : Int) = true) (h0 : ¬ (kn : Int) = 0) :
    Calls Tryd.prog 15 #[.agg #[.slice a zs.length c, .slice b ys.length d], .int .i64 (kn : Int)] w fun e w' => ∃ g h, e = .returned (.tuple #[.agg #[.slice (some ⟨g, 0, none⟩) (zs.take (kn + 1)).length (kn + 1), .slice (some ⟨h, 0, none⟩) (ys.take (kn + 1)).length (kn + 1)], .int .i64 0]) ∧ w.heap.size ≤ g ∧ w.heap.size ≤ h ∧ g ≠ h ∧
      w'.rowIs g 2 (zs.take (kn + 1)).length (cellsOf (zs.take (kn + 1))) ∧ w'.rowIs h 2 (ys.take (kn + 1)).length (cellsOf (ys.take (kn + 1))) ∧ Below w.heap.size w w' := by
  have lz := hp.lz
  have ly := hp.ly
  have HO := Lib.hid (Okp.of hv)
  have hkn : kn < zs.length := by have := (hkB_t hh).2; omega
  have hkn2 : kn < ys.length := by rw [HO.out.len]; exact hkn
  have hk0 : ¬ kn = 0 := by omega
  rw [take_cells zs (show kn + 1 ≤ zs.length by omega), take_cells ys (show kn + 1 ≤ ys.length by omega)]
  obtain ⟨b1, o1, rfl, hB1, h1⟩ := hp.dz (by omega)
  obtain ⟨b2, o2, rfl, hB2, h2⟩ := hp.sy (by omega)
  have H1 := Lib.hid h1
  have H2 := Lib.hid h2
  have HP := Lib.hid hp
  have HV := Lib.hid hv
  have HH := Lib.hid hh
  have hz0 : ((kn : Int) == 0) = false := by simpa using h0
  clear hp hv hh h0 h1 h2
  go_enter Tryd.func15, Tryd.ntmps15
  go_wp2_with fail
  obtain ⟨W, hW⟩ : ∃ W, W = (w.alloc (.cells #[.slice (some ⟨b1, o1, none⟩) zs.length c, .slice (some ⟨b2, o2, none⟩) ys.length d] 24)).alloc (.cells #[.slice none 0 0, .slice none 0 0] 24) := ⟨_, rfl⟩
  have bP : Bk W w.heap.size #[.slice (some ⟨b1, o1, none⟩) zs.length c, .slice (some ⟨b2, o2, none⟩) ys.length d] 24 := by rw [hW]; exact (Bk.new' rfl).alloc _
  have bR : Bk W (w.heap.size + 1) #[.slice none 0 0, .slice none 0 0] 24 := by rw [hW]; exact Bk.new' (by simp)
  have HB : Hid (Below w.heap.size w W) := Lib.hid (by rw [hW]; exact (by repeat (first | exact Below.refl _ _ | (refine Below.alloc ?_ (by simp <;> omega) _) | (refine Below.setCell ?_ (by simp <;> omega) _) | (refine Below.drew ?_) | (refine bel_drewN ?_ _))))
  rw [← hW]
  clear hW
  refine (eok_any _ _ _ _ _ zs ys _ (HP.out.on HB.out)).mono ?_
  rw [HV.out, HH.out, show cdT true true = 0 from rfl]
  rintro e w1 ⟨rfl, hb⟩
  replace bP := bP.on hb
  replace bR := bR.on hb
  replace HB := Lib.hid (bel_end HB.out hb)
  clear hb
  have p0 := bR.lt
  have hmk : ∀ w, (Instr.makeSlice 22 (.int .i64 ((kn : Int) + 1)) (.int .i64 ((kn : Int) + 1))).run Tryd.prog w = .ok (.slice (some ⟨w.heap.size, 0, none⟩) (kn + 1) (kn + 1)) (w.alloc (.cells (madeCells #[.int .i64 0] (kn + 1)) 2)) := fun w => by
    rw [show ((kn : Int) + 1) = ((kn + 1 : Nat) : Int) by omega]; exact run_make_row' (P := Tryd.prog) 22 2 (.int .i64 0) 8 Tryd.underlying22 info_i64 rfl .i64 .i64 (kn + 1) (by omega) (by omega) w
  go_upto_region 6 with fail
  go_cut [7] (fun s wx => ∃ B g h, s = .pointer (some ⟨B, 0, none⟩) ∧ Bk wx B #[.slice (some ⟨g, 0, none⟩) (kn + 1) (kn + 1), .slice (some ⟨h, 0, none⟩) (kn + 1) (kn + 1)] 24 ∧
    Bk wx g (madeCells #[.int .i64 0] (kn + 1)) 2 ∧ Bk wx h (madeCells #[.int .i64 0] (kn + 1)) 2 ∧ (w1.heap.size ≤ B ∧ w1.heap.size ≤ g ∧ w1.heap.size ≤ h ∧ B ≠ g ∧ B ≠ h ∧ g ≠ h) ∧ Below w1.heap.size w1 wx)
  case first =>
    go_region
    all_goals (go_wp2_with fail; go_meet)
    all_goals first
      | refine ⟨_, _, _, rfl, bkd (((Bk.new _ _ _).alloc _).alloc _), ?_, ?_, ?_, ?_⟩
      | refine ⟨_, _, _, rfl, bkd (bk_new1.alloc _), ?_, ?_, ?_, ?_⟩
      | refine ⟨_, _, _, rfl, bkd bk_new2, ?_, ?_, ?_, ?_⟩
    all_goals first | exact bkd (((Bk.new _ _ _).alloc _).alloc _) | exact bkd (bk_new1.alloc _) | exact bkd bk_new2 | omega | exact ((((Below.refl _ _).alloc (Nat.le_refl _) _).alloc (by simp) _).alloc (by simp; omega) _).drew
  case rest =>
    obtain ⟨B7, g, h, rfl, b7, bg, bh, ⟨hB7, hg, hh, n1, n2, n3⟩, hb⟩ := hcut
    replace bP := bP.on hb
    replace bR := bR.on hb
    have l1 : w.heap.size ≤ g := Nat.le_trans HB.out.size hg
    have l2 : w.heap.size ≤ h := Nat.le_trans HB.out.size hh
    replace HB := Lib.hid (bel_end HB.out hb)
    clear hb hmk
    have c0 := bP.cell 0 rfl
    have c1 := bP.cell 1 rfl
    have s0 := b7.cell 0 rfl
    have s1 := b7.cell 1 rfl
    have H1' : ∀ j, j < zs.length → wc.cell? ⟨b1, o1 + j, none⟩ = some (.int .i64 (zs.getD j 0)) := fun j hj => kc1 (H1.out j hj) HB.out
    have H2' : ∀ j, j < ys.length → wc.cell? ⟨b2, o2 + j, none⟩ = some (.int .i64 (ys.getD j 0)) := fun j hj => kc1 (H2.out j hj) HB.out
    have K1 := Lib.hid H1'
    have K2 := Lib.hid H2'
    clear H1' H2'
    obtain ⟨w3, hrun, hr, hk, hsz, hb⟩ := cpy_run (b := b1) (off := o1) (cp := c) 3 (show kn + 1 ≤ zs.length by omega) (size_madeCells _ _) bg K1.out
    have HB3 := Lib.hid (HB.out.trans (hb _ l1))
    have bP3 : Bk w3 w.heap.size _ _ := (hk _ (by omega)).trans bP
    have bR3 : Bk w3 (w.heap.size + 1) _ _ := (hk _ (by omega)).trans bR
    have b73 : Bk w3 B7 _ _ := (hk _ n1).trans b7
    have bh3 : Bk w3 h _ _ := (hk _ (fun e => n3 e.symm)).trans bh
    have HR := Lib.hid hr
    have K3 := Lib.hid (fun j (hj : j < ys.length) => kc1 (H2.out j hj) HB3.out)
    clear hr hk hsz hb bP bR b7 bg bh
    obtain ⟨w4, hrun2, hr, hk, hsz, hb⟩ := cpy_run (b := b2) (off := o2) (cp := d) 3 (show kn + 1 ≤ ys.length by omega) (size_madeCells _ _) bh3 K3.out
    have HB4 := Lib.hid (HB3.out.trans (hb _ l2))
    have bR4 : Bk w4 (w.heap.size + 1) _ _ := (hk _ (by omega)).trans bR3
    have b74 : Bk w4 B7 _ _ := (hk _ n2).trans b73
    have HR4 : Hid (w4.rowIs g 2 (kn + 1) (cellsOf (zs.take (kn + 1)))) := Lib.hid (HR.out.of_block (hk _ n3))
    have HR5 := Lib.hid hr
    clear hr hk hsz hb bh3 HR
    have x0 := bP3.cell 0 rfl
    have x1 := bP3.cell 1 rfl
    have y0 := b73.cell 0 rfl
    have y1 := b73.cell 1 rfl
    have v0 := b74.cell 0 rfl
    have v1 := b74.cell 1 rfl
    have r0 := bR4.cell 0 rfl
    have r1 := bR4.cell 1 rfl
    have rf0 := bR4.frozen 0
    have rf1 := bR4.frozen 1
    go_wp2
    exact bodyPost_ret (v := .tuple #[.agg #[.slice (some ⟨g, 0, none⟩) (kn + 1) (kn + 1), .slice (some ⟨h, 0, none⟩) (kn + 1) (kn + 1)], .int .i64 0]) (by simp [results, Tryd.results15, go_sem, r0, r1]) rfl
      ⟨g, h, rfl, l1, l2, n3, (HR4.out.setOther (by simp; omega) _).setOther (by simp; omega) _, (HR5.out.setOther (by simp; omega) _).setOther (by simp; omega) _, (HB4.out.setCell (by simp) _).setCell (by simp) _⟩

/-- numbers as cells -/
def ivL (zs : List Int) : List Value := zs.map fun z => Value.int .i64 z
theorem ivL_at {zs : List Int} {j : Nat} {v : Value} (h : (ivL zs)[j]? = some v) : j < zs.length ∧ v = .int .i64 (zs.getD j 0) := by
  unfold ivL at h
  rw [List.getElem?_map] at h
  rcases Nat.lt_or_ge j zs.length with hj | hj
  · rw [List.getElem?_eq_getElem hj] at h
    simp only [Option.map_some, Option.some.injEq] at h
    subst h
    exact ⟨hj, by rw [List.getD_eq_getElem?_getD, List.getElem?_eq_getElem hj]; rfl⟩
  · rw [List.getElem?_eq_none hj] at h; simp at h
theorem ivL_get {zs : List Int} {j : Nat} (hj : j < zs.length) : (ivL zs)[j]? = some (.int .i64 (zs.getD j 0)) := by
  unfold ivL
  rw [List.getElem?_map, List.getElem?_eq_getElem hj, List.getD_eq_getElem?_getD, List.getElem?_eq_getElem hj]; rfl
theorem Ints.of_own {w : World} {B g n c : Nat} {zs : List Int} (h : w.ownsRow B 2 1 (.slice (some ⟨g, 0, none⟩) n c) n (ivL zs)) : Ints .i64 w w.heap.size (some ⟨g, 0, none⟩) zs := fun _ =>
  ⟨g, 0, rfl, (h.lt g rfl).2, fun j hj => by
    have := h.cells (g := g) rfl j _ (ivL_get hj)
    rwa [add_at] at this⟩
theorem own_any (w : World) (a : Option Addr) (c : Nat) (zs : List Int) (hz : Ints .i64 w w.heap.size a zs) (h0 : 0 < zs.length) (hl : zs.length ≤ 1048576) :
    Calls Tryd.prog 39 #[.slice a zs.length c] w fun e w' => ∃ g cap, e = .returned (.slice (some ⟨g, 0, none⟩) zs.length cap) ∧ w.heap.size ≤ g ∧ Ints .i64 w' w'.heap.size (some ⟨g, 0, none⟩) zs ∧ Below w.heap.size w w' := by
  obtain ⟨b, o, rfl, hB, hc⟩ := hz h0
  obtain ⟨i0, hi, hz0, hz1, hz2⟩ := info_parts info_i64
  have hne : ∀ j u, (ivL zs)[j]? = some u → (w.alloc (.cells #[] 2)).cell? ((⟨b, o, none⟩ : Addr).add j) = some u := fun j u hu => by obtain ⟨h1, rfl⟩ := ivL_at hu; rw [add_at]; exact kc1 (hc j h1) ((Below.refl _ _).alloc (Nat.le_refl _) _)
  have hon : ∀ u ∈ ivL zs, u.oneCell' = true := fun u hu => by unfold ivL at hu; obtain ⟨n, _, rfl⟩ := List.mem_map.1 hu; rfl
  have how : (w.alloc (.cells #[] 2)).ownsRow w.heap.size 2 1 (.slice (some ⟨w.heap.size, 0, none⟩) 0 0) 0 [] := World.ownsRow_lit w #[] 0 (Nat.le_refl w.heap.size) (by decide) (by decide)
  have hll : (ivL zs).length = zs.length * 1 := by simp [ivL]
  have N := Lib.hid hne
  have O1 := Lib.hid hon
  have O2 := Lib.hid how
  have L1 := Lib.hid hll
  clear hne hon how hll hc hz
  go_enter Tryd.func39, Tryd.ntmps39
  go_wp2_with (at_builtin; refine wpList_append_own _ rfl (.tmp 3) (.tmp 4) 22 rfl w.heap.size 2 i0 (.int .i64 0) 1 8 Tryd.underlying22 hi hz0 hz1 hz2 rfl (by decide) (.slice (some ⟨w.heap.size, 0, none⟩) 0 0) 0 [] rfl O2.out ⟨b, o, none⟩ zs.length c (ivL zs) rfl L1.out N.out O1.out (by unfold maxLen; omega) (by omega) (by simp) ?_; intro v' w1 hown hgr hnil; rw [Nat.zero_add, List.nil_append] at hown; (have hgr' : (w.alloc (.cells #[] 2)).grownBy w1 (some w.heap.size) := hgr); clear hgr hnil)
  rcases hown.2 with ⟨h, h9⟩ | ⟨g, cap, cur, rfl, _⟩
  · omega
  have HI := Lib.hid (Ints.of_own hown)
  have hlo := (hown.lt g rfl).1
  have HB : Hid (Below w.heap.size w w1) := Lib.hid (((Below.refl _ _).alloc (Nat.le_refl _) _).grown hgr' (by simp) (fun k e => by injection e; omega))
  clear hown hgr'
  go_wp2
  go_ret
  exact ⟨g, cap, rfl, hlo, HI.out, HB.out⟩

theorem icu_no (w : World) (a b : Option Addr) (c d : Nat) (zs ys : List Int) (x q : Int) (hp : Prof w w.heap.size a b zs ys) (hq : cuC zs ys x = q) (h0 : ¬ q = 0) :
    Calls Tryd.prog 15 #[.agg #[.slice a zs.length c, .slice b ys.length d], .int .i64 x] w fun e w' => e = .returned (.tuple #[.agg #[.slice none 0 0, .slice none 0 0], .int .i64 q]) ∧ Below w.heap.size w w' := by
  have HP := Lib.hid hp
  unfold cuC at hq
  clear hp
  cases hv : (prfB zs ys && hkB zs x)
  · rw [hv] at hq
    have HQ : Hid (cdT (prfB zs ys) (hkB zs x) = q) := Lib.hid (by simpa using hq)
    have hq0 : (q != 0) = true := by simpa using h0
    clear hv hq h0
    go_enter Tryd.func15, Tryd.ntmps15
    go_wp2_with fail
    obtain ⟨W, hW⟩ : ∃ W, W = (w.alloc (.cells #[.slice a zs.length c, .slice b ys.length d] 24)).alloc (.cells #[.slice none 0 0, .slice none 0 0] 24) := ⟨_, rfl⟩
    have bR : Bk W (w.heap.size + 1) #[.slice none 0 0, .slice none 0 0] 24 := by rw [hW]; exact Bk.new' (by simp)
    have HB : Hid (Below w.heap.size w W) := Lib.hid (by rw [hW]; exact (by repeat (first | exact Below.refl _ _ | (refine Below.alloc ?_ (by simp <;> omega) _) | (refine Below.setCell ?_ (by simp <;> omega) _) | (refine Below.drew ?_) | (refine bel_drewN ?_ _))))
    rw [← hW]
    clear hW
    refine (eok_any _ _ _ _ _ zs ys _ (HP.out.on HB.out)).mono ?_
    rw [HQ.out]
    rintro e w1 ⟨rfl, hb⟩
    replace bR := bR.on hb
    replace HB := Lib.hid (bel_end HB.out hb)
    have r0 := bR.cell 0 rfl
    have r1 := bR.cell 1 rfl
    have rf0 := bR.frozen 0
    have rf1 := bR.frozen 1
    clear hb
    go_wp2
    exact bodyPost_ret (v := .tuple #[.agg #[.slice none 0 0, .slice none 0 0], .int .i64 q]) (by simp [results, Tryd.results15, go_sem, r0, r1]) rfl ⟨rfl, (HB.out.setCell (by simp) _).setCell (by simp) _⟩
  · rw [hv] at hq
    by_cases hx : x = 0
    · subst hx
      obtain rfl : q = 5 := by simpa using hq.symm
      obtain ⟨hv1, hv2⟩ : prfB zs ys = true ∧ hkB zs 0 = true := by simpa using hv
      have HV := Lib.hid hv1
      have HH := Lib.hid hv2
      clear hv hv1 hv2 hq h0
      go_enter Tryd.func15, Tryd.ntmps15
      go_wp2_with fail
      obtain ⟨W, hW⟩ : ∃ W, W = (w.alloc (.cells #[.slice a zs.length c, .slice b ys.length d] 24)).alloc (.cells #[.slice none 0 0, .slice none 0 0] 24) := ⟨_, rfl⟩
      have bR : Bk W (w.heap.size + 1) #[.slice none 0 0, .slice none 0 0] 24 := by rw [hW]; exact Bk.new' (by simp)
      have HB : Hid (Below w.heap.size w W) := Lib.hid (by rw [hW]; exact (by repeat (first | exact Below.refl _ _ | (refine Below.alloc ?_ (by simp <;> omega) _) | (refine Below.setCell ?_ (by simp <;> omega) _) | (refine Below.drew ?_) | (refine bel_drewN ?_ _))))
      rw [← hW]
      clear hW
      refine (eok_any _ _ _ _ _ zs ys _ (HP.out.on HB.out)).mono ?_
      rw [HV.out, HH.out, show cdT true true = 0 from rfl]
      rintro e w1 ⟨rfl, hb⟩
      replace bR := bR.on hb
      replace HB := Lib.hid (bel_end HB.out hb)
      have r0 := bR.cell 0 rfl
      have r1 := bR.cell 1 rfl
      have rf0 := bR.frozen 0
      have rf1 := bR.frozen 1
      clear hb
      go_wp2
      exact bodyPost_ret (v := .tuple #[.agg #[.slice none 0 0, .slice none 0 0], .int .i64 5]) (by simp [results, Tryd.results15, go_sem, r0, r1]) rfl ⟨rfl, (HB.out.setCell (by simp) _).setCell (by simp) _⟩
    · exact absurd (by rw [if_neg hx] at hq; simpa using hq.symm) h0

theorem scu_no (w : World) (a b : Option Addr) (c d : Nat) (zs ys : List Int) (x q : Int) (hp : Prof w w.heap.size a b zs ys) (hq : cuC zs ys x = q) (h0 : ¬ q = 0) :
    Calls Tryd.prog 16 #[.agg #[.slice a zs.length c, .slice b ys.length d], .int .i64 x] w fun e w' => e = .returned (.tuple #[.agg #[.slice none 0 0, .slice none 0 0], .int .i64 q]) ∧ Below w.heap.size w w' := by
  have HP := Lib.hid hp
  unfold cuC at hq
  clear hp
  cases hv : (prfB zs ys && hkB zs x)
  · rw [hv] at hq
    have HQ : Hid (cdT (prfB zs ys) (hkB zs x) = q) := Lib.hid (by simpa using hq)
    have hq0 : (q != 0) = true := by simpa using h0
    have hq1 : (q == 0) = false := by simpa using h0
    clear hv hq h0
    go_enter Tryd.func16, Tryd.ntmps16
    go_wp2_with fail
    obtain ⟨W, hW⟩ : ∃ W, W = (w.alloc (.cells #[.slice a zs.length c, .slice b ys.length d] 24)).alloc (.cells #[.slice none 0 0, .slice none 0 0] 24) := ⟨_, rfl⟩
    have bR : Bk W (w.heap.size + 1) #[.slice none 0 0, .slice none 0 0] 24 := by rw [hW]; exact Bk.new' (by simp)
    have HB : Hid (Below w.heap.size w W) := Lib.hid (by rw [hW]; exact (by repeat (first | exact Below.refl _ _ | (refine Below.alloc ?_ (by simp <;> omega) _) | (refine Below.setCell ?_ (by simp <;> omega) _) | (refine Below.drew ?_) | (refine bel_drewN ?_ _))))
    rw [← hW]
    clear hW
    refine (skc_any _ _ _ _ _ zs ys _ _ (by omega) (by omega) (HP.out.on HB.out)).mono ?_
    rw [inB_hk, HQ.out]
    rintro e w1 ⟨rfl, hb⟩
    replace bR := bR.on hb
    replace HB := Lib.hid (bel_end HB.out hb)
    have r0 := bR.cell 0 rfl
    have r1 := bR.cell 1 rfl
    have rf0 := bR.frozen 0
    have rf1 := bR.frozen 1
    clear hb
    go_wp2
    exact bodyPost_ret (v := .tuple #[.agg #[.slice none 0 0, .slice none 0 0], .int .i64 q]) (by simp [results, Tryd.results16, go_sem, r0, r1]) rfl ⟨rfl, (HB.out.setCell (by simp) _).setCell (by simp) _⟩
  · rw [hv] at hq
    by_cases hx : x = 0
    · subst hx
      obtain rfl : q = 5 := by simpa using hq.symm
      obtain ⟨hv1, hv2⟩ : prfB zs ys = true ∧ hkB zs 0 = true := by simpa using hv
      have HV := Lib.hid hv1
      have HH := Lib.hid hv2
      clear hv hv1 hv2 hq h0
      go_enter Tryd.func16, Tryd.ntmps16
      go_wp2_with fail
      obtain ⟨W, hW⟩ : ∃ W, W = (w.alloc (.cells #[.slice a zs.length c, .slice b ys.length d] 24)).alloc (.cells #[.slice none 0 0, .slice none 0 0] 24) := ⟨_, rfl⟩
      have bR : Bk W (w.heap.size + 1) #[.slice none 0 0, .slice none 0 0] 24 := by rw [hW]; exact Bk.new' (by simp)
      have HB : Hid (Below w.heap.size w W) := Lib.hid (by rw [hW]; exact (by repeat (first | exact Below.refl _ _ | (refine Below.alloc ?_ (by simp <;> omega) _) | (refine Below.setCell ?_ (by simp <;> omega) _) | (refine Below.drew ?_) | (refine bel_drewN ?_ _))))
      rw [← hW]
      clear hW
      refine (skc_any _ _ _ _ _ zs ys _ _ (by omega) (by omega) (HP.out.on HB.out)).mono ?_
      rw [inB_hk, HV.out, HH.out, show cdT true true = 0 from rfl]
      rintro e w1 ⟨rfl, hb⟩
      replace bR := bR.on hb
      replace HB := Lib.hid (bel_end HB.out hb)
      have r0 := bR.cell 0 rfl
      have r1 := bR.cell 1 rfl
      have rf0 := bR.frozen 0
      have rf1 := bR.frozen 1
      clear hb
      go_wp2
      exact bodyPost_ret (v := .tuple #[.agg #[.slice none 0 0, .slice none 0 0], .int .i64 5]) (by simp [results, Tryd.results16, go_sem, r0, r1]) rfl ⟨rfl, (HB.out.setCell (by simp) _).setCell (by simp) _⟩
    · exact absurd (by rw [if_neg hx] at hq; simpa using hq.symm) h0

theorem Ints.take {w : World} {B : Nat} {a : Option Addr} {zs : List Int} (h : Ints .i64 w B a zs) (m : Nat) : Ints .i64 w B a (zs.take m) := fun hp => by
  simp only [List.length_take] at hp
  obtain ⟨b, off, e, hB, hc⟩ := h (by omega)
  refine ⟨b, off, e, hB, fun j hj => ?_⟩
  simp only [List.length_take] at hj
  rw [hc j (by omega)]
  congr 2
  rw [List.getD_eq_getElem?_getD, List.getD_eq_getElem?_getD, List.getElem?_take, if_pos (by omega)]
theorem keepP {W w2 : World} {m : Nat} {v0 v1 : Value} (c0 : W.cell? ⟨m, 0, none⟩ = some v0) (c1 : W.cell? ⟨m, 1, none⟩ = some v1) (h : Below W.heap.size W w2) :
    w2.cell? ⟨m, 0, none⟩ = some v0 ∧ w2.cell? ⟨m, 1, none⟩ = some v1 ∧ Below W.heap.size W w2 := ⟨kc1 c0 h, kc1 c1 h, h⟩
theorem Ints.setO {w : World} {B g : Nat} {zs : List Int} (h : Ints .i64 w B (some ⟨g, 0, none⟩) zs) {p : Addr} (hne : p.block ≠ g) (v : Value) : Ints .i64 (w.setCell p v) B (some ⟨g, 0, none⟩) zs := fun hp => by
  obtain ⟨b, off, e, hB, hc⟩ := h hp
  injection e with e
  injection e with e1 e2 e3
  subst e1 e2
  exact ⟨_, _, rfl, hB, fun j hj => (World.cell?_of_block (w := w) (w' := w.setCell p v) (Below.heap_setCell w p v g (fun e => hne e.symm))).trans (hc j hj)⟩
theorem keepQ {w2 W : World} {m : Nat} {v0 v1 : Value} (c0 : w2.cell? ⟨m, 0, none⟩ = some v0) (c1 : w2.cell? ⟨m, 1, none⟩ = some v1) (h : Below (m + 1) w2 W) :
    W.cell? ⟨m, 0, none⟩ = some v0 ∧ W.cell? ⟨m, 1, none⟩ = some v1 ∧ Below (m + 1) w2 W := ⟨(h.cell (p := ⟨m, 0, none⟩) (by simp)).trans c0, (h.cell (p := ⟨m, 1, none⟩) (by simp)).trans c1, h⟩
set_option maxRecDepth 100000 in
set_option maxHeartbeats 4000000 in
theorem scu_ok (w : World) (a b : Option Addr) (c d : Nat) (zs ys : List Int) (kn : Nat) (hp : Prof w w.heap.size a b zs ys) (hc : zs.length ≤ c) (hd : ys.length ≤ d) (hv : prfB zs ys = true) (hh : hkB zs (kn : Int) = true) (h0 : ¬ (kn : Int) = 0) :
    Calls Tryd.prog 16 #[.agg #[.slice a zs.length c, .slice b ys.length d], .int .i64 (kn : Int)] w fun e w' => ∃ a' b' c' d', e = .returned (.tuple #[.agg #[.slice a' (zs.take (kn + 1)).length c', .slice b' (ys.take (kn + 1)).length d'], .int .i64 0]) ∧
      Prof w' w'.heap.size a' b' (zs.take (kn + 1)) (ys.take (kn + 1)) ∧ Below w.heap.size w w' := by
  have lz := hp.lz
  have ly := hp.ly
  have HO := Lib.hid (Okp.of hv)
  have hkn : kn < zs.length := by have := (hkB_t hh).2; omega
  have hkn2 : kn < ys.length := by rw [HO.out.len]; exact hkn
  have e1 := take_cells zs (show kn + 1 ≤ zs.length by omega)
  have e2 := take_cells ys (show kn + 1 ≤ ys.length by omega)
  have E1 := Lib.hid e1
  have E2 := Lib.hid e2
  have HP := Lib.hid hp
  obtain ⟨b1, o1, rfl, hB1, -⟩ := hp.dz (by omega)
  obtain ⟨b2, o2, rfl, hB2, -⟩ := hp.sy (by omega)
  have K0 : Hid (∀ W : World, Below w.heap.size w W → Calls Tryd.prog 39 #[.slice (some ⟨b1, o1, none⟩) (kn + 1) c] W fun e w' => ∃ g cap, e = .returned (.slice (some ⟨g, 0, none⟩) (kn + 1) cap) ∧ W.heap.size ≤ g ∧ Ints .i64 w' w'.heap.size (some ⟨g, 0, none⟩) (zs.take (kn + 1)) ∧ Below W.heap.size W w') :=
    Lib.hid (fun W hb => by have := own_any W (some ⟨b1, o1, none⟩) c (zs.take (kn + 1)) ((HP.out.on hb).dz.take _) (by omega) (by omega); rwa [e1] at this)
  have K1 : Hid (∀ W : World, Below w.heap.size w W → Calls Tryd.prog 39 #[.slice (some ⟨b2, o2, none⟩) (kn + 1) d] W fun e w' => ∃ g cap, e = .returned (.slice (some ⟨g, 0, none⟩) (kn + 1) cap) ∧ W.heap.size ≤ g ∧ Ints .i64 w' w'.heap.size (some ⟨g, 0, none⟩) (ys.take (kn + 1)) ∧ Below W.heap.size W w') :=
    Lib.hid (fun W hb => by have := own_any W (some ⟨b2, o2, none⟩) d (ys.take (kn + 1)) ((HP.out.on hb).sy.take _) (by omega) (by omega); rwa [e2] at this)
  have HV := Lib.hid hv
  have HH := Lib.hid hh
  have hz0 : ((kn : Int) == 0) = false := by simpa using h0
  clear hp hv hh h0 e1 e2
  go_enter Tryd.func16, Tryd.ntmps16
  go_wp2_with fail
  obtain ⟨W, hW⟩ : ∃ W, W = (w.alloc (.cells #[.slice (some ⟨b1, o1, none⟩) zs.length c, .slice (some ⟨b2, o2, none⟩) ys.length d] 24)).alloc (.cells #[.slice none 0 0, .slice none 0 0] 24) := ⟨_, rfl⟩
  have bP : Bk W w.heap.size #[.slice (some ⟨b1, o1, none⟩) zs.length c, .slice (some ⟨b2, o2, none⟩) ys.length d] 24 := by rw [hW]; exact (Bk.new' rfl).alloc _
  have bR : Bk W (w.heap.size + 1) #[.slice none 0 0, .slice none 0 0] 24 := by rw [hW]; exact Bk.new' (by simp)
  have HB : Hid (Below w.heap.size w W) := Lib.hid (by rw [hW]; exact (by repeat (first | exact Below.refl _ _ | (refine Below.alloc ?_ (by simp <;> omega) _) | (refine Below.setCell ?_ (by simp <;> omega) _) | (refine Below.drew ?_) | (refine bel_drewN ?_ _))))
  rw [← hW]
  clear hW
  refine (skc_any _ _ _ _ _ zs ys _ _ (by omega) (by omega) (HP.out.on HB.out)).mono ?_
  rw [inB_hk, HV.out, HH.out, show cdT true true = 0 from rfl]
  rintro e w2 ⟨rfl, hb⟩
  replace bP := bP.on hb
  replace bR := bR.on hb
  replace HB := Lib.hid (bel_end HB.out hb)
  clear hb
  have c0 := bP.cell 0 rfl
  have c1 := bP.cell 1 rfl
  have ew : IntKind.wrap .i64 ((kn : Int) + 1) = (kn : Int) + 1 := IntWalk.i64_in _ (by omega)
  have i1 : (0 : Int) ≤ (kn : Int) + 1 := by omega
  have i2 : ((kn : Int) + 1).toNat = kn + 1 := by omega
  have i3 : (kn : Int) + 1 ≤ (c : Int) := by omega
  have i4 : (kn : Int) + 1 ≤ (d : Int) := by omega
  have i5 : ¬ kn + 1 = c ∨ kn + 1 = c := by omega
  go_wp2_with fail
  have m1 : w.heap.size + 1 ≤ w2.drew.heap.size := Nat.le_of_lt bR.lt
  have m1s : w.heap.size + 1 < w2.drew.heap.size := bR.lt
  go_region_held3 (fun w' => w'.cell? ⟨w.heap.size, 0, none⟩ = some (.slice (some ⟨b1, o1, none⟩) zs.length c) ∧ w'.cell? ⟨w.heap.size, 1, none⟩ = some (.slice (some ⟨b2, o2, none⟩) ys.length d) ∧ Below (w.heap.size + 1) w2 w')
    (first
      | (exact keepQ c0 c1 (Below.refl _ w2).drew)
      | (exact keepQ c0 c1 ((Below.refl _ w2).drew.trans (hbA.mono m1)))
      | (exact keepQ c0 c1 (((Below.refl _ w2).drew.trans (hbA.mono m1)).trans (hbB.mono (Nat.le_trans m1 hbA.size))))
      | (go_split_ands; refine keepQ c0 c1 ?_; (repeat (first | (with_reducible exact (((Below.refl _ w2).drew.trans (hbA.mono m1)).trans (hbB.mono (Nat.le_trans m1 hbA.size)))) | (refine Below.setCell ?_ (by first | omega | (simp; done) | (simp; omega)) _)))))
    (first
      | (go_at_call 39; (with_reducible refine Calls.mono (K0.out _ (HB.out.trans (Below.mono ?hq (Nat.le_succ _)))) ?_); (case hq => (go_split_ands; assumption)); rintro e wA ⟨g1, cp1, rfl, hl1, hi1, hbA⟩; have I1 := Lib.hid hi1; clear hi1)
      | (go_at_call 39; (with_reducible refine Calls.mono (K1.out _ (HB.out.trans (Below.mono ?hq (Nat.le_succ _)))) ?_); (case hq => (go_split_ands; assumption)); rintro e wB ⟨g2, cp2, rfl, hl2, hi2, hbB⟩; have I2 := Lib.hid hi2; have bRB := (Bk.on (W := w2.drew) bR hbA).on hbB; have r0 := bRB.cell 0 rfl; have r1 := bRB.cell 1 rfl; have rf0 := bRB.frozen 0; have rf1 := bRB.frozen 1; have rl := bRB.lt; clear hi2)
      | (go_at_call 39; trace_state; fail))
  have n1 : w.heap.size + 1 ≠ g1 := by omega
  have n2 : w.heap.size + 1 ≠ g2 := by have := hbA.size; omega
  have P1 := Lib.hid ((((I1.out.below hbB).more hbB.size).setO (p := ⟨w.heap.size + 1, 0, none⟩) n1 (.slice (some ⟨g1, 0, none⟩) (kn + 1) cp1)).setO (p := ⟨w.heap.size + 1, 1, none⟩) n1 (.slice (some ⟨g2, 0, none⟩) (kn + 1) cp2))
  have P2 := Lib.hid ((I2.out.setO (p := ⟨w.heap.size + 1, 0, none⟩) n2 (.slice (some ⟨g1, 0, none⟩) (kn + 1) cp1)).setO (p := ⟨w.heap.size + 1, 1, none⟩) n2 (.slice (some ⟨g2, 0, none⟩) (kn + 1) cp2))
  have HB9 : Hid (Below w.heap.size w _) := Lib.hid (HB.out.trans (Below.mono (show Below (w.heap.size + 1) w2 _ by go_split_ands; assumption) (Nat.le_succ _)))
  go_wp2
  exact bodyPost_ret (v := .tuple #[.agg #[.slice (some ⟨g1, 0, none⟩) (kn + 1) cp1, .slice (some ⟨g2, 0, none⟩) (kn + 1) cp2], .int .i64 0]) (by simp [results, Tryd.results16, go_sem, r0, r1]) rfl
    ⟨some ⟨g1, 0, none⟩, some ⟨g2, 0, none⟩, cp1, cp2, by rw [E1.out, E2.out], ⟨P1.out.more (by simp), P2.out.more (by simp), by rw [E1.out]; omega, by rw [E2.out]; omega⟩, HB9.out⟩
end Go.Proofs.YtcaekheghjnipabDoor
