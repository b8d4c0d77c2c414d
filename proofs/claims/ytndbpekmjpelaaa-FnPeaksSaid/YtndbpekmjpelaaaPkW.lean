/- The candidates of peaks, sorted: strongestFirst's contract with the world told, slices.SortedFunc of the values of a map of marks. -/
import Derived.Test.YtndbpekmjpelaaaPkC
import Derived.Test.YtndbpekmjpelaaaKShelf
namespace Go.Proofs.Ytndbpekmjpelaaa
open Go.ChangeShapes Go.WideShapes Go.ChangeAt Go.RowKit Go.Shelf Go.Sort Num
set_option linter.unusedVariables false
set_option linter.unusedSimpArgs false
theorem grow_dr (w : World) (os : Array Obj) : (grow w os).drew = grow w.drew os := rfl
set_option maxRecDepth 100000 in
set_option maxHeartbeats 1000000 in
theorem sfi_gr (w : World) (i1 v1 i2 v2 : Int) (a1 : -9000000000000000000 ≤ v1) (a2 : v1 ≤ 9000000000000000000) (b1 : -9000000000000000000 ≤ v2) (b2 : v2 ≤ 9000000000000000000) :
    Calls Try.prog 29 #[.agg #[.int .i64 i1, .int .i64 v1], .agg #[.int .i64 i2, .int .i64 v2]] w fun e w' => e = .returned (.int .i64 (sfV i1 v1 i2 v2)) ∧ ∃ q os', w' = grow (w.drewN q) os' := by
  have K1 := Lib.hid (fun (W : World) => (abs_any v1 a1 a2 W).mono (R' := fun e w' => e = .returned (.int .i64 (v1.natAbs : Int)) ∧ w' = W) (fun e w' h => ⟨h.1, h.2.symm⟩))
  have K2 := Lib.hid (fun (W : World) => (abs_any v2 b1 b2 W).mono (R' := fun e w' => e = .returned (.int .i64 (v2.natAbs : Int)) ∧ w' = W) (fun e w' h => ⟨h.1, h.2.symm⟩))
  have K3 := Lib.hid (fun (x y : Int) (W : World) => (cpv_any x y W).mono (R' := fun e w' => e = .returned (.int .i64 (cmpV x y)) ∧ w' = W) (fun e w' h => ⟨h.1, h.2.symm⟩))
  have HE : Hid (sfV i1 v1 i2 v2 = orV (cmpV (v2.natAbs : Int) (v1.natAbs : Int)) (cmpV i1 i2)) := Lib.hid rfl
  go_enter Try.func29, Try.ntmps29
  go_wp2_with fail
  obtain ⟨W, hW⟩ : ∃ W, W = (w.alloc (.cells #[.int .i64 i1, .int .i64 v1] 48)).alloc (.cells #[.int .i64 i2, .int .i64 v2] 48) := ⟨_, rfl⟩
  have p0 : W.cell? ⟨w.heap.size, 0, none⟩ = some (.int .i64 i1) := by rw [hW]; simp [go_sem]
  have p1 : W.cell? ⟨w.heap.size, 1, none⟩ = some (.int .i64 v1) := by rw [hW]; simp [go_sem]
  have r0 : W.cell? ⟨w.heap.size + 1, 0, none⟩ = some (.int .i64 i2) := by rw [hW]; simp [go_sem]
  have r1 : W.cell? ⟨w.heap.size + 1, 1, none⟩ = some (.int .i64 v2) := by rw [hW]; simp [go_sem]
  have HW := Lib.hid hW
  rw [← hW]
  clear hW
  refine wp_region_still_tail 12 (by kernel_rfl) (by kernel_rfl) ?_
  simp only [List.take_succ_cons, List.take_zero, List.drop_succ_cons, List.drop_zero]
  repeat still_step
  still_call (K2.out _)
  repeat still_step
  still_call (K1.out _)
  still_call (K3.out _ _ _)
  repeat still_step
  still_call (K3.out _ _ _)
  refine wpStill_nil ?_
  obtain ⟨C1, hC1⟩ : ∃ C1, cmpV (v2.natAbs : Int) (v1.natAbs : Int) = C1 := ⟨_, rfl⟩
  obtain ⟨C2, hC2⟩ : ∃ C2, cmpV i1 i2 = C2 := ⟨_, rfl⟩
  rw [hC1, hC2] at HE
  rw [hC1, hC2]
  clear hC1 hC2
  go_wp2_with fail
  refine (or_any _ _ C1 C2 (by simp [go_sem]) (by simp [go_sem])).mono ?_
  rintro e w' ⟨rfl, rfl⟩
  go_wp2
  go_ret
  exact ⟨ret_int HE.out.symm, 1, _, by rw [HW.out]; simp only [alloc_eq_grow, grow_dr, grow_grow]; rfl⟩

/-- a mark's two cells -/
def encM (zs : List Int) (i : Nat) : List Value := [.int .i64 (i : Int), .int .i64 (zs.getD i 0)]
theorem ltOf_eq (zs : List Int) (i j : Nat) : ltOf (cfP zs) i j = ltP zs i j := rfl
theorem swoM (zs : List Int) : SWO (ltOf (cfP zs)) where
  irrefl x := ltP_irr zs x
  trans x y z h1 h2 := ltP_trans zs x y z h1 h2
  ntrans x y z h1 h2 := by
    simp only [ltOf_eq, Bool.eq_false_iff, ne_eq, ltP_iff] at *
    omega
theorem cmpM (zs : List Int) (hs : smlL 1000000000000 zs) (blk off size : Nat) (w : World) : CmpLays Try.prog 29 #[] (encM zs) 2 (cfP zs) blk off size w :=
  fun _ _ _ _ x y => sfi_gr _ (x : Int) (zs.getD x 0) (y : Int) (zs.getD y 0) (by have := hs x; omega) (by have := hs x; omega) (by have := hs y; omega) (by have := hs y; omega)
theorem mkC_cons (zs : List Int) (x : Nat) (xs : List Nat) : mkC zs (x :: xs) = .int .i64 (x : Int) :: .int .i64 (zs.getD x 0) :: mkC zs xs := rfl
theorem mkC_at (zs : List Int) : ∀ (xs : List Nat) (j : Nat), j < xs.length → (mkC zs xs)[j * 2]? = some (.int .i64 ((xs.getD j 0 : Nat) : Int)) ∧ (mkC zs xs)[j * 2 + 1]? = some (.int .i64 (zs.getD (xs.getD j 0) 0))
  | [], j, h => by simp at h
  | x :: xs, 0, _ => ⟨rfl, rfl⟩
  | x :: xs, j + 1, h => by
    have ih := mkC_at zs xs j (by simpa using h)
    rw [mkC_cons, show (j + 1) * 2 = j * 2 + 1 + 1 by omega, List.getElem?_cons_succ, List.getElem?_cons_succ, List.getElem?_cons_succ, List.getElem?_cons_succ]
    exact ih
/-- marks in a block -/
def MkP (w : World) (g : Nat) (zs : List Int) (ys : List Nat) : Prop := g < w.heap.size ∧ ∀ j, j < ys.length → w.cell? ⟨g, j * 2, none⟩ = some (.int .i64 ((ys.getD j 0 : Nat) : Int)) ∧ w.cell? ⟨g, j * 2 + 1, none⟩ = some (.int .i64 (zs.getD (ys.getD j 0) 0))
theorem MkP.on {w w' : World} {g : Nat} {zs : List Int} {ys : List Nat} (h : MkP w g zs ys) (hb : Below w.heap.size w w') : MkP w' g zs ys :=
  ⟨Nat.lt_of_lt_of_le h.1 hb.size, fun j hj => ⟨(hb.cell (p := ⟨g, j * 2, none⟩) h.1).trans (h.2 j hj).1, (hb.cell (p := ⟨g, j * 2 + 1, none⟩) h.1).trans (h.2 j hj).2⟩⟩
theorem MkP.grown {w w' : World} {g : Nat} {row : Option Nat} {zs : List Int} {ys : List Nat} (h : MkP w g zs ys) (hg : w.grownBy w' row) (hne : some g ≠ row) : MkP w' g zs ys :=
  ⟨Nat.lt_of_lt_of_le h.1 hg.size, fun j hj => ⟨(World.cell?_of_block (a := ⟨g, j * 2, none⟩) (hg.block g h.1 hne)).trans (h.2 j hj).1, (World.cell?_of_block (a := ⟨g, j * 2 + 1, none⟩) (hg.block g h.1 hne)).trans (h.2 j hj).2⟩⟩
theorem get_toArr (ys : List Nat) (j : Nat) (h : j < ys.length) : ys.toArray[j]! = ys.getD j 0 := by
  rw [getElem!_pos ys.toArray j (by simpa using h), List.getD_eq_getElem?_getD, List.getElem?_eq_getElem h]
  simp
theorem mkP_of_holds {w : World} {g : Nat} {zs : List Int} {ys : List Nat} (hg : g < w.heap.size) (h : HoldsK (encM zs) 2 w g 0 ys.toArray) : MkP w g zs ys := by
  refine ⟨hg, fun j hj => ?_⟩
  have h0 := (h (j * 2) (by rw [size_flatK]; simp; omega)).1
  have h1 := (h (j * 2 + 1) (by rw [size_flatK]; simp; omega)).1
  rw [get_flatK _ _ _ _ (by simp; omega), show j * 2 / 2 = j by omega, show j * 2 % 2 = 0 by omega, get_toArr ys j hj, Nat.zero_add] at h0
  rw [get_flatK _ _ _ _ (by simp; omega), show (j * 2 + 1) / 2 = j by omega, show (j * 2 + 1) % 2 = 1 by omega, get_toArr ys j hj, Nat.zero_add] at h1
  exact ⟨h0, h1⟩
theorem holds_of_row {w : World} {g cap : Nat} {zs : List Int} {xs : List Nat} {cur : Array Value} {e : TypeId} (hb : w.heap[g]? = some (.cells cur e (0, 0))) (ht : cur.toList.take (xs.length * 2) = mkC zs xs) : HoldsK (encM zs) 2 w g 0 xs.toArray := by
  intro t ht0
  have ht' : t < xs.length * 2 := by simpa using ht0
  refine ⟨?_, by simp [World.frozen?, hb]⟩
  rw [get_flatK _ _ _ _ (by simpa using ht'), get_toArr xs (t / 2) (by omega)]
  obtain ⟨m0, m1⟩ := mkC_at zs xs (t / 2) (by omega)
  have hc : w.cell? ⟨g, 0 + t, none⟩ = (mkC zs xs)[t]? := by
    rw [← ht, List.getElem?_take_of_lt ht']
    simp only [World.cell?, hb, Nat.zero_add]
    simp
  rw [hc]
  rcases Nat.mod_two_eq_zero_or_one t with e | e
  · rw [e]
    rw [show t / 2 * 2 = t by omega] at m0
    exact m0
  · rw [e]
    rw [show t / 2 * 2 + 1 = t by omega] at m1
    exact m1
theorem grownBy_sortedK {zs : List Int} {w : World} {g n : Nat} {os : Array Obj} (d : Array Nat) : w.grownBy (sortWorldK (encM zs) 2 w g 0 n d os) (some g) := by
  refine ⟨rfl, rfl, rfl, by simp [sortWorldK, putRowK, putRow, mapBlock, Sort.ahead], fun k hk hne => ?_⟩
  unfold sortWorldK putRowK
  rw [heap_grow_old _ _ (by simpa [putRow, mapBlock, Sort.ahead] using hk)]
  have : g ≠ k := fun e => hne (by rw [e])
  simp [putRow, mapBlock, Sort.ahead, Array.getElem?_modify, this]
/-- a slice of the marks -/
def MkS (w : World) (n₀ : Nat) (a : Option Addr) (zs : List Int) (ys : List Nat) : Prop := ys = [] ∨ ∃ g, a = some ⟨g, 0, none⟩ ∧ n₀ ≤ g ∧ MkP w g zs ys
set_option maxRecDepth 100000 in
set_option maxHeartbeats 4000000 in
theorem srf_any (w : World) (Bm b nn : Nat) (D0 : DataW Nat) (zs : List Int) (th : Int) (hl4 : zs.length ≤ 400) (hs : smlL 1000000000000 zs) (hQ : MapQ D0 zs (cndQ zs th zs.length)) (hnn : nn ≤ 1000) (hBm : Bm < w.heap.size)
    (hm : w.cell? ⟨Bm, 0, none⟩ = some (.map (some b))) (hown : w.ownsMap Try.prog 2 mkR b nn D0) :
    Calls Try.prog 27 #[.func (.func 44) #[] #[.pointer (some ⟨Bm, 0, none⟩)], .func (.func 29) #[] #[]] w fun e w' => ∃ (a : Option Addr) (c : Nat), e = .returned (.slice a (cndS zs th).length c) ∧ MkS w' w.heap.size a zs (cndS zs th) ∧ Below w.heap.size w w' := by
  have HQ := Lib.hid hQ
  have HM := Lib.hid hm
  have HOW := Lib.hid hown
  have HS := Lib.hid hs
  clear hQ hm hown hs
  have hN := fun (p : Option Addr) (cap : Nat) (fv : Value) (W : World) => AnyF.slices_SortFunc_none Try.laysortf p cap fv W
  change ∀ p cap fv W, Calls Try.prog 43 _ _ _ at hN
  have HN := Lib.hid hN
  clear hN
  go_enter Try.func27, Try.ntmps27
  go_wp2_with (go_at_call 42; refine (clc_any w Bm b nn D0 zs th hl4 HQ.out hnn hBm HM.out HOW.out).mono ?_; rintro e w1 ⟨sv, xs, rfl, h1, h2, h3⟩; have H1 := Lib.hid h1; have H2 := Lib.hid h2; have H3 := Lib.hid h3; clear h1 h2 h3)
  have hlen : (cndS zs th).length = xs.length := by rw [show cndS zs th = srtP zs xs from (srtP_perm H1.out.perm).symm]; exact List.length_mergeSort _
  rcases H2.out.2 with ⟨rfl, hk⟩ | ⟨g, cap, cur, rfl, hg, hgb, hk1, hk2, hcs, htk⟩
  · obtain rfl : xs = [] := List.length_eq_zero_iff.1 hk
    have E0 : Hid (cndS zs th = []) := Lib.hid (List.length_eq_zero_iff.1 hlen)
    clear hlen hk
    go_wp2_with (go_at_call 43; refine (HN.out none 0 _ _).mono ?_; rintro e w' ⟨rfl, rfl⟩)
    go_ret
    exact ⟨none, 0, by rw [E0.out]; rfl, .inl E0.out, H3.out⟩
  · by_cases hx : xs = []
    · subst hx
      have E0 : Hid (cndS zs th = []) := Lib.hid (List.length_eq_zero_iff.1 hlen)
      clear hlen hk1 hk2 hcs htk hgb
      go_wp2_with (go_at_call 43; refine (HN.out (some ⟨g, 0, none⟩) cap _ _).mono ?_; rintro e w' ⟨rfl, rfl⟩)
      go_ret
      exact ⟨some ⟨g, 0, none⟩, cap, by rw [E0.out]; rfl, .inl E0.out, H3.out⟩
    · have eg : ∀ args w, (callFunc 29 args).run Try.prog w = .ok (.enter 29 args) w := enters_of Try.func29 (by kernel_rfl) rfl
      have hgl : g < w1.heap.size := (Array.getElem?_eq_some_iff.1 hgb).1
      have hH := holds_of_row (cap := cap) hgb htk
      have hxl : xs.length ≤ 400 := by rw [← hlen]; exact Nat.le_trans (cndS_len zs th) hl4
      have hcon := AnyQ.slices_SortFunc_total Try.laysortf 2 Try.isAgg48 Try.sizeOf48 (encM zs) (fun _ => rfl) (fun x v hv => by simp [encM] at hv; rcases hv with rfl | rfl <;> rfl) (cfP zs) (swoM zs) 29 #[] g 0 cap xs.toArray w1 eg (cmpM zs HS.out g 0 xs.toArray.size w1) hH hgl (by simp; omega) (fun x y h1 h2 => ltP_tot zs x y h1 h2)
      change Calls Try.prog 43 #[.slice (some ⟨g, 0, none⟩) xs.length cap, .func (.func 29) #[] #[]] w1 _ at hcon
      have HC := Lib.hid hcon
      have HH := Lib.hid hH
      have HL := Lib.hid hlen
      clear hcon hH hgb htk hcs hlen hx hk1 hk2 eg
      go_wp2_with (go_at_call 43; refine HC.out.mono ?_; rintro e w2 ⟨rfl, n, os, hw2⟩; have HW2 := Lib.hid hw2; clear hw2)
      go_ret
      have e1 : cndS zs th = xs.mergeSort (fun x y => !(ltOf (cfP zs)) y x) := (srtP_perm H1.out.perm).symm
      have hh := holdsK_sortWorldK_c (encM zs) 2 w1 g 0 xs.toArray (cndS zs th).toArray n os HH.out hgl (by simp [HL.out])
      have e2 : w2 = sortWorldK (encM zs) 2 w1 g 0 n (cndS zs th).toArray os := by rw [HW2.out, e1]
      have hgr : w1.grownBy w2 (some g) := by rw [e2]; exact grownBy_sortedK _
      rw [← e2] at hh
      exact ⟨some ⟨g, 0, none⟩, cap, by rw [HL.out]; rfl, .inr ⟨g, rfl, hg, mkP_of_holds (Nat.lt_of_lt_of_le hgl hgr.size) hh⟩, H3.out.grown hgr H3.out.size (fun k e => by cases e; exact hg)⟩
end Go.Proofs.Ytndbpekmjpelaaa
