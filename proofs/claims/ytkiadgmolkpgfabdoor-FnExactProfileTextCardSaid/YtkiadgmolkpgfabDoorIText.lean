/- The contract of the program's text of a fraction: a deferred closure turns what has been written into the result. -/
import Derived.Test.YtkiadgmolkpgfabDoorRText
import Derived.Test.YtkiadgmolkpgfabDoorLRat
namespace Go.Proofs.YtkiadgmolkpgfabDoor
open Go.ChangeShapes Go.WideShapes Go.ChangeAt Go.RowKit Num
set_option linter.unusedVariables false
theorem clo_any (bw bt : Nat) (sv x : Value) (s : ByteArray) (w : World) (hw : w.cell? ⟨bw, 0, none⟩ = some sv) (ht : w.cell? ⟨bt, 0, none⟩ = some x) (hz : w.frozen? ⟨bt, 0, none⟩ = false)
    (hcv : (convert 22 9 sv).run Tryd.prog w = .ok (.string s) w) :
    CallsD Tryd.prog 83 #[.pointer (some ⟨bw, 0, none⟩), .pointer (some ⟨bt, 0, none⟩)] .returning w fun e u' w' => u' = .returning ∧ (e = .returned (.tuple #[]) ∧ w' = w.setCell ⟨bt, 0, none⟩ (.string s)) := by
  go_enter_d Tryd.func83, Tryd.ntmps83
  go_wp2
  go_end0
  exact ⟨rfl, rfl⟩
theorem ain_any (B n : Nat) (i : Int) (h0 : -9223372036854775808 ≤ i) (h1 : i ≤ 9223372036854775807) (sv : Value) (xs : List Value) (w : World) (hown : w.ownsRow B 5 1 sv n xs) (hBw : B ≤ w.heap.size) (hlim : n + 21 ≤ 140737488355328)
    (htab : Lib.TabBelow Tryd.prog B w "internal/strconv.uint64pow10" .u64 Lib.pow10Tab) :
    Calls Tryd.prog 40 #[sv, .int .i64 i, .int .i64 10] w fun e w' => ∃ v', e = .returned v' ∧ w'.ownsRow B 5 1 v' (n + (Lib.itoa i).length) (xs ++ Lib.byteCells (Lib.itoa i)) ∧ Below B w w' :=
  (show Calls Tryd.prog 40 #[sv, .int .i64 i, .int .i64 10] w _ from Any.strconv_AppendInt_10 Tryd.laysM176 B n i h0 h1 sv xs w hown hBw hlim htab).mono fun e w' ⟨v', he, ho, hb, _⟩ => ⟨v', he, ho, hb⟩
theorem info_u8 : (Tryd.prog.info? 5).map (fun i => (i.zero, i.size, i.bytes)) = some (some (.int .u8 0), 1, 1) := by kernel_rfl
theorem itoa_len {x : Int} (h : x.natAbs < 10000000000000000000) : (Lib.itoa x).length ≤ 20 ∧ 1 ≤ (Lib.itoa x).length := by
  have h1 := numS_size h
  refine ⟨h1, ?_⟩
  unfold Lib.itoa
  split
  · simp
  · rw [Lib.decDigits_length]; exact Lib.nDigits_pos _
/-- bytes as numbers, and back -/
theorem bytes_str (l : List UInt8) : strOfNums (l.map fun c => (c.toNat : Int)) = ⟨l.toArray⟩ := by
  unfold strOfNums
  rw [List.map_map]
  congr 2
  have : (fun n : Int => UInt8.ofNat n.toNat) ∘ (fun c : UInt8 => (c.toNat : Int)) = id := by funext c; simp
  rw [this, List.map_id]
theorem own_conv {w : World} {B g cap : Nat} (l : List UInt8) (h : w.ownsRow B 5 1 (.slice (some ⟨g, 0, none⟩) l.length cap) l.length (Lib.byteCells l)) :
    (convert 22 9 (.slice (some ⟨g, 0, none⟩) l.length cap)).run Tryd.prog w = .ok (.string ⟨l.toArray⟩) w := by
  rw [← bytes_str]
  refine run_convert_bytes_arg (P := Tryd.prog) w 22 5 Tryd.underlying22 Tryd.underlying5 g 0 l.length cap (l.map fun c => (c.toNat : Int)) (by simp) (fun i hi => ?_) 9 Tryd.underlying9
  rw [Nat.zero_add, h.cellAt i (by omega)]
  unfold Lib.byteCells
  simp [hi]
theorem ratT_list {a b : Int} (h : ratB a b = true) : (⟨(Lib.itoa a ++ [47] ++ Lib.itoa b).toArray⟩ : ByteArray) = ratT a b := by
  rw [ratT_ok h]
  unfold numS
  apply ByteArray.ext
  simp [ByteArray.data_append]
theorem frozen_keep {w w1 : World} {s g o : Nat} {v : Value} {r : Bool} (hf : w.frozen? ⟨g, o, none⟩ = r) (h : w.cell? ⟨g, o, none⟩ = some v) (hg : w.grownBy w1 (some s)) (hs : g ≠ s) : w1.frozen? ⟨g, o, none⟩ = r :=
  ((rules_grown hg).2 _ _ (World.block_lt_of_cell? w _ h) (by simpa using hs)).trans hf
theorem al_cell {w : World} {g o : Nat} {v : Value} (h : w.cell? ⟨g, o, none⟩ = some v) (x : Obj) : (w.alloc x).cell? ⟨g, o, none⟩ = some v := kp1 h ((Below.refl _ _).alloc (Nat.le_refl _) x)
theorem al_fr {w : World} {g o : Nat} {v : Value} {r : Bool} (f : w.frozen? ⟨g, o, none⟩ = r) (h : w.cell? ⟨g, o, none⟩ = some v) (x : Obj) : (w.alloc x).frozen? ⟨g, o, none⟩ = r := kp_fr f h ((Below.refl _ _).alloc (Nat.le_refl _) x)
set_option maxRecDepth 100000 in
set_option maxHeartbeats 4000000 in
theorem itx_any (a b : Int) (w : World) (ht : Pow10 w) :
    Calls Tryd.prog 64 #[.agg #[.int .i64 a, .int .i64 b]] w (Told w (ratT a b)) := by
  have HT := Lib.hid ht
  clear ht
  have hmf : ∀ (fn : Fn) (first cap : Array Value) (w : World), (Instr.makeFunc fn first cap).run Tryd.prog w = .ok (.func fn first cap) w := fun _ _ _ _ => rfl
  cases ha : ratB a b
  · have H := Lib.hid (ratT_no ha)
    have HA := Lib.hid ha
    clear ha
    go_enter_defers Tryd.func64, Tryd.ntmps64
    go_wp2_with fail
    obtain ⟨W, hW⟩ : ∃ W, W = ((w.alloc (.cells #[.int .i64 a, .int .i64 b] 45)).alloc (.cells #[.string ⟨#[]⟩] 9)).alloc (.cells #[.slice none 0 0] 22) := ⟨_, rfl⟩
    have t0 : W.cell? ⟨w.heap.size + 1, 0, none⟩ = some (.string ⟨#[]⟩) := by rw [hW]; simp [go_sem]
    have f0 : W.frozen? ⟨w.heap.size + 1, 0, none⟩ = false := by rw [hW]; simp [go_sem]
    have v0 : W.cell? ⟨w.heap.size + 2, 0, none⟩ = some (.slice none 0 0) := by rw [hW]; simp [go_sem]
    have HB : Hid (Below w.heap.size w W) := Lib.hid (by rw [hW]; exact (by repeat (first | exact Below.refl _ _ | (refine Below.alloc ?_ (by simp <;> omega) _) | (refine Below.setCell ?_ (by simp <;> omega) _) | (refine Below.drew ?_) | (refine bel_drewN ?_ _))))
    rw [← hW]
    clear hW
    refine (irt_is HA.out _).mono ?_
    rintro e w1 ⟨rfl, hb⟩
    replace f0 := kp_fr f0 t0 hb
    replace t0 := kp1 t0 hb
    replace v0 := kp1 v0 hb
    replace HB := Lib.hid (bel_end HB.out hb)
    clear hb
    go_wp2
    refine leaves_cons (f := 83) (args := #[.pointer (some ⟨w.heap.size + 2, 0, none⟩), .pointer (some ⟨w.heap.size + 1, 0, none⟩)]) (by simp) (by simp [go_sem]) ?_
    refine (clo_any _ _ _ _ ⟨#[]⟩ _ v0 t0 f0 (run_convert_bytes_nil (P := Tryd.prog) w1 22 5 Tryd.underlying22 Tryd.underlying5 0 0 9 Tryd.underlying9)).mono ?_
    rintro e u' w'' ⟨rfl, rfl, rfl⟩
    have HE := Lib.hid (HB.out.setCell (by simp) (.string ⟨#[]⟩) (p := ⟨w.heap.size + 1, 0, none⟩))
    simp [Leaves, settle, results, Tryd.results64, go_sem, t0]
    exact ⟨ret_str H.out.symm, HE.out⟩
  · have H := Lib.hid (ratT_list ha)
    obtain ⟨a1, a2, b1, b2, -⟩ := ratB_t ha
    obtain ⟨la1, la2⟩ := itoa_len (x := a) (by omega)
    obtain ⟨lb1, lb2⟩ := itoa_len (x := b) (by omega)
    have HA := Lib.hid ha
    clear ha
    obtain ⟨LA, hLA⟩ : ∃ l, Lib.itoa a = l := ⟨_, rfl⟩
    obtain ⟨LB, hLB⟩ : ∃ l, Lib.itoa b = l := ⟨_, rfl⟩
    rw [hLA] at la1 la2 H
    rw [hLB] at lb1 lb2 H
    have EA := Lib.hid hLA
    have EB := Lib.hid hLB
    clear hLA hLB
    obtain ⟨i0, hi, hz0, hz1, hz2⟩ := info_parts info_u8
    go_enter_defers Tryd.func64, Tryd.ntmps64
    go_wp2_with fail
    obtain ⟨W, hW⟩ : ∃ W, W = ((w.alloc (.cells #[.int .i64 a, .int .i64 b] 45)).alloc (.cells #[.string ⟨#[]⟩] 9)).alloc (.cells #[.slice none 0 0] 22) := ⟨_, rfl⟩
    have c0 : W.cell? ⟨w.heap.size, 0, none⟩ = some (.int .i64 a) := by rw [hW]; simp [go_sem]
    have c1 : W.cell? ⟨w.heap.size, 1, none⟩ = some (.int .i64 b) := by rw [hW]; simp [go_sem]
    have t0 : W.cell? ⟨w.heap.size + 1, 0, none⟩ = some (.string ⟨#[]⟩) := by rw [hW]; simp [go_sem]
    have f0 : W.frozen? ⟨w.heap.size + 1, 0, none⟩ = false := by rw [hW]; simp [go_sem]
    have v0 : W.cell? ⟨w.heap.size + 1 + 1, 0, none⟩ = some (.slice none 0 0) := by rw [hW]; simp [go_sem]
    have fv : W.frozen? ⟨w.heap.size + 1 + 1, 0, none⟩ = false := by rw [hW]; simp [go_sem]
    have HB : Hid (Below w.heap.size w W) := Lib.hid (by rw [hW]; exact (by repeat (first | exact Below.refl _ _ | (refine Below.alloc ?_ (by simp <;> omega) _) | (refine Below.setCell ?_ (by simp <;> omega) _) | (refine Below.drew ?_) | (refine bel_drewN ?_ _))))
    have hsz : W.heap.size = w.heap.size + 3 := by rw [hW]; simp
    rw [← hW]
    clear hW
    refine (irt_is HA.out _).mono ?_
    rintro e w1 ⟨rfl, hb⟩
    replace f0 := kp_fr f0 t0 hb
    replace fv := kp_fr fv v0 hb
    replace t0 := kp1 t0 hb
    replace v0 := kp1 v0 hb
    replace c0 := kp1 c0 hb
    replace c1 := kp1 c1 hb
    have hs1 : w.heap.size + 3 ≤ w1.heap.size := by have := hb.size; omega
    replace HB := Lib.hid (bel_end HB.out hb)
    clear hb hsz
    obtain ⟨B, hB⟩ : ∃ B, w1.heap.size = B := ⟨_, rfl⟩
    rw [hB] at hs1
    go_wp2_with fail
    refine (ain_any B 0 a (by omega) (by omega) (.slice none 0 0) [] w1 (World.ownsRow_nil _ _ _ _) (by omega) (by omega) (HT.out.tab HB.out (by omega))).mono ?_
    rintro e w2 ⟨v, rfl, hown, hb⟩
    rw [EA.out, Nat.zero_add, List.nil_append] at hown
    rw [← hB] at hb
    replace f0 := kp_fr f0 t0 hb
    replace fv := kp_fr fv v0 hb
    replace t0 := kp1 t0 hb
    replace v0 := kp1 v0 hb
    replace c1 := kp1 c1 hb
    have hs2 : B ≤ w2.heap.size := by have := hb.size; omega
    replace HB := Lib.hid (bel_end HB.out hb)
    clear hb c0
    obtain ⟨g, cap, rfl, hg1, hg2⟩ := hown.form (by omega)
    have hne : ¬ g = w.heap.size + 1 + 1 := by omega
    have HO := Lib.hid (hown.kept (grown_set (grown_refl w2 (w.heap.size + 1 + 1)) 0 (.slice (some ⟨g, 0, none⟩) LA.length cap)) (Or.inr (by simp [Value.ownBlock]; omega)))
    clear hown
    obtain ⟨x, hx⟩ : ∃ x, x = w2.setCell ⟨w.heap.size + 1 + 1, 0, none⟩ (.slice (some ⟨g, 0, none⟩) LA.length cap) := ⟨_, rfl⟩
    have v2 : x.cell? ⟨w.heap.size + 1 + 1, 0, none⟩ = some (.slice (some ⟨g, 0, none⟩) LA.length cap) := by rw [hx]; simp [go_sem, v0]
    have fv2 : x.frozen? ⟨w.heap.size + 1 + 1, 0, none⟩ = false := by rw [hx]; simp [go_sem, fv]
    have t2 : x.cell? ⟨w.heap.size + 1, 0, none⟩ = some (.string ⟨#[]⟩) := by rw [hx]; simp [go_sem, t0]
    have f2 : x.frozen? ⟨w.heap.size + 1, 0, none⟩ = false := by rw [hx]; simp [go_sem, f0]
    have c2 : x.cell? ⟨w.heap.size, 1, none⟩ = some (.int .i64 b) := by rw [hx]; simp [go_sem, c1]
    have HX : Hid (Below w.heap.size w x) := Lib.hid (by rw [hx]; exact HB.out.setCell (by simp; omega) _)
    have hxs : w.heap.size + 1 + 1 < x.heap.size ∧ B ≤ x.heap.size ∧ g < x.heap.size := by rw [hx]; simp; omega
    obtain ⟨hxs1, hxs2, hxs3⟩ := hxs
    go_upto_region 5 with fail
    rw [← hx]
    rw [← hx] at HO
    clear hx f0 fv t0 v0 c1
    go_wp2_with (at_builtin; (refine wpList_append_lies _ rfl _ _ 22 rfl B 5 i0 (.int .u8 0) 1 1 Tryd.underlying22 hi hz0 hz1 hz2 rfl (by decide) (.slice (some ⟨g, 0, none⟩) LA.length cap) LA.length (Lib.byteCells LA) rfl (HO.out.alloc _) ⟨x.heap.size, 0, none⟩ 1 1 [.int .u8 47] rfl rfl (World.news_of_block (cs := #[.int .u8 47]) (t := 5) (fr := (0, 0)) (heap_alloc_new x (.cells #[.int .u8 47] 5 (0, 0)))) (by simp [Value.oneCell']) (by omega) (by unfold maxLen; omega) (by omega) (by simp; omega) (x.heap.size + 1) (by simp) ?_); intro g2 cap2 w9 hown3 hgrow hat hlt9; simp only [Value.ownBlock] at hgrow; have v9 := cell_keep (al_cell v2 _) hgrow (by omega); have fv9 := frozen_keep (al_fr fv2 v2 _) (al_cell v2 _) hgrow (by omega); have t9 := cell_keep (al_cell t2 _) hgrow (by omega); have f9 := frozen_keep (al_fr f2 t2 _) (al_cell t2 _) hgrow (by omega); have c9 := cell_keep (al_cell c2 _) hgrow (by omega))
    have hg9 : B ≤ g2 := (hown3.lt g2 rfl).1
    have HG9 : Hid (Below w.heap.size w w9) := Lib.hid (below_src (HX.out.alloc (by omega) _) hgrow (by omega) (Nat.le_refl _))
    have HO9 := Lib.hid (hown3.kept (grown_set (grown_refl w9 (w.heap.size + 1 + 1)) 0 (.slice (some ⟨g2, 0, none⟩) (LA.length + 1) cap2)) (Or.inr (by simp [Value.ownBlock]; omega)))
    have h29 : B ≤ w9.heap.size := by omega
    clear v2 fv2 t2 f2 c2 hgrow hat hown3 HO HX
    obtain ⟨y, hy⟩ : ∃ y, y = w9.setCell ⟨w.heap.size + 1 + 1, 0, none⟩ (.slice (some ⟨g2, 0, none⟩) (LA.length + 1) cap2) := ⟨_, rfl⟩
    have v3 : y.cell? ⟨w.heap.size + 1 + 1, 0, none⟩ = some (.slice (some ⟨g2, 0, none⟩) (LA.length + 1) cap2) := by rw [hy]; simp [go_sem, v9]
    have fv3 : y.frozen? ⟨w.heap.size + 1 + 1, 0, none⟩ = false := by rw [hy]; simp [go_sem, fv9]
    have t3 : y.cell? ⟨w.heap.size + 1, 0, none⟩ = some (.string ⟨#[]⟩) := by rw [hy]; simp [go_sem, t9]
    have f3 : y.frozen? ⟨w.heap.size + 1, 0, none⟩ = false := by rw [hy]; simp [go_sem, f9]
    have HY : Hid (Below w.heap.size w y) := Lib.hid (by rw [hy]; exact HG9.out.setCell (by simp; omega) _)
    have hys : B ≤ y.heap.size := by rw [hy]; simpa using h29
    rw [← hy]
    rw [← hy] at HO9
    clear hy v9 fv9 t9 f9 c9
    refine (ain_any B (LA.length + 1) b (by omega) (by omega) _ _ y HO9.out hys (by omega) (HT.out.tab HY.out (by omega))).mono ?_
    rintro e z ⟨v, rfl, hown, hb⟩
    rw [EB.out] at hown
    have v4 := (hb.cell (p := ⟨w.heap.size + 1 + 1, 0, none⟩) (by simp; omega)).trans v3
    have fv4 := (hb.frozen (p := ⟨w.heap.size + 1 + 1, 0, none⟩) (by simp; omega)).trans fv3
    have t4 := (hb.cell (p := ⟨w.heap.size + 1, 0, none⟩) (by simp; omega)).trans t3
    have f4 := (hb.frozen (p := ⟨w.heap.size + 1, 0, none⟩) (by simp; omega)).trans f3
    have HZ := Lib.hid (HY.out.trans (hb.mono (by omega)))
    clear hb v3 fv3 t3 f3
    obtain ⟨g4, cap4, rfl, hg4, hg5⟩ := hown.form (by omega)
    have hl4 : (LA ++ [47] ++ LB).length = LA.length + 1 + LB.length := by simp; omega
    have hb4 : Lib.byteCells (LA ++ [47] ++ LB) = Lib.byteCells LA ++ [.int .u8 47] ++ Lib.byteCells LB := by simp [Lib.byteCells]
    have hown5 := hown.kept (grown_set (grown_refl z (w.heap.size + 1 + 1)) 0 (.slice (some ⟨g4, 0, none⟩) (LA.length + 1 + LB.length) cap4)) (Or.inr (by simp [Value.ownBlock]; omega))
    rw [← hl4, ← hb4] at hown5
    have hcv := own_conv (LA ++ [47] ++ LB) hown5
    rw [hl4, H.out] at hcv
    have HCV := Lib.hid hcv
    clear hcv hown hown5 HO9
    go_wp2
    obtain ⟨q, hq⟩ : ∃ q, q = z.setCell ⟨w.heap.size + 1 + 1, 0, none⟩ (.slice (some ⟨g4, 0, none⟩) (LA.length + 1 + LB.length) cap4) := ⟨_, rfl⟩
    have v5 : q.cell? ⟨w.heap.size + 1 + 1, 0, none⟩ = some (.slice (some ⟨g4, 0, none⟩) (LA.length + 1 + LB.length) cap4) := by rw [hq]; simp [go_sem, v4]
    have t5 : q.cell? ⟨w.heap.size + 1, 0, none⟩ = some (.string ⟨#[]⟩) := by rw [hq]; simp [go_sem, t4]
    have f5 : q.frozen? ⟨w.heap.size + 1, 0, none⟩ = false := by rw [hq]; simp [go_sem, f4]
    have HQ : Hid (Below w.heap.size w q) := Lib.hid (by rw [hq]; exact HZ.out.setCell (by simp; omega) _)
    rw [← hq]
    rw [← hq] at HCV
    clear hq v4 fv4 t4 f4
    refine leaves_cons (f := 83) (args := #[.pointer (some ⟨w.heap.size + 1 + 1, 0, none⟩), .pointer (some ⟨w.heap.size + 1, 0, none⟩)]) (by simp) (by simp [go_sem]) ?_
    refine (clo_any _ _ _ _ (ratT a b) _ v5 t5 f5 HCV.out).mono ?_
    rintro e u' w'' ⟨rfl, rfl, rfl⟩
    have HE := Lib.hid (HQ.out.setCell (by simp) (.string (ratT a b)) (p := ⟨w.heap.size + 1, 0, none⟩))
    simp [Leaves, settle, results, Tryd.results64, go_sem, t5]
    exact ⟨rfl, HE.out⟩
theorem irtx_any (a b : Int) (w : World) (ht : Pow10 w) :
    Calls Tryd.prog 28 #[.agg #[.int .i64 a, .int .i64 b]] w (Told w (ratT a b)) := by
  have HT := Lib.hid ht
  clear ht
  go_enter Tryd.func28, Tryd.ntmps28
  go_wp2_with fail
  refine (itx_any _ _ _ (HT.out.later ((Below.refl _ _).alloc (Nat.le_refl _) _))).mono ?_
  rintro e w1 ⟨rfl, hb⟩
  have HB := Lib.hid (bel_end ((Below.refl w.heap.size w).alloc (Nat.le_refl _) _) hb)
  clear hb
  go_wp2
  go_ret
  exact ⟨rfl, HB.out⟩
end Go.Proofs.YtkiadgmolkpgfabDoor
