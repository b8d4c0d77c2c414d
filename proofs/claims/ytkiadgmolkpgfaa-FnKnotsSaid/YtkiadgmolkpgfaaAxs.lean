/- Contracts of AxisOf and FastestTo, the program's and the model's. -/
import Derived.Test.YtkiadgmolkpgfaaPfl
import Derived.Deep.RegionHeld3
import Derived.Deep.DeepCutAuto
import Derived.Deep.DrawnRows
import Derived.Outline
namespace Go.Proofs.Ytkiadgmolkpgfaa
open Go.ChangeShapes Go.WideShapes Go.ChangeAt Go.RowKit Go.Shelf Num
set_option linter.unusedVariables false
attribute [local go_sem] Oper.semAt_some
attribute [local go_sem ↓] Go.wp_at_zero Go.wp_at_succ
/-- the least knot with the least speed, of the knots pre, from a beginning -/
def axF (ys : List Int) (pre : List Nat) : Nat × Int := pre.foldl (fun s k => if ys.getD k 0 < s.2 then (k, ys.getD k 0) else s) (0, ys.getD 0 0)
theorem axF_snoc (ys : List Int) (pre : List Nat) (x : Nat) : axF ys (pre ++ [x]) = if ys.getD x 0 < (axF ys pre).2 then (x, ys.getD x 0) else axF ys pre := by simp [axF]
def axN (ys : List Int) (n : Nat) : Nat := (axF ys (List.range n)).1
theorem axF_val (ys : List Int) : ∀ n, (axF ys (List.range n)).2 = ys.getD (axF ys (List.range n)).1 0
  | 0 => rfl
  | n + 1 => by
    rw [List.range_succ, axF_snoc]
    by_cases h : ys.getD n 0 < (axF ys (List.range n)).2
    · rw [if_pos h]
    · rw [if_neg h]; exact axF_val ys n
theorem axN_succ (ys : List Int) (n : Nat) : axN ys (n + 1) = if ys.getD n 0 < ys.getD (axN ys n) 0 then n else axN ys n := by
  unfold axN
  rw [List.range_succ, axF_snoc, ← axF_val ys n]
  split <;> rfl
theorem axN_one (ys : List Int) : axN ys 1 = 0 := by rw [axN_succ]; show (if ys.getD 0 0 < ys.getD 0 0 then 0 else 0) = 0; simp
theorem axN_lt (ys : List Int) : ∀ n, axN ys n = 0 ∨ axN ys n < n
  | 0 => .inl rfl
  | n + 1 => by
    rw [axN_succ]
    split
    · exact .inr (by omega)
    · rcases axN_lt ys n with h | h
      · exact .inl h
      · exact .inr (by omega)
theorem axN_le (ys : List Int) : ∀ n, ∀ j, j < n → ys.getD (axN ys n) 0 ≤ ys.getD j 0
  | 0 => fun j h => by omega
  | n + 1 => fun j h => by
    rw [axN_succ]
    have ih := axN_le ys n
    by_cases hn : ys.getD n 0 < ys.getD (axN ys n) 0
    · rw [if_pos hn]
      rcases Nat.lt_or_ge j n with hj | hj
      · have := ih j hj; omega
      · obtain rfl : j = n := by omega
        omega
    · rw [if_neg hn]
      rcases Nat.lt_or_ge j n with hj | hj
      · exact ih j hj
      · obtain rfl : j = n := by omega
        omega
theorem bkd {W : World} {B : Nat} {cs : Array Value} {t : TypeId} (h : Bk W B cs t) : Bk W.drew B cs t := h
theorem keepA {W w2 : World} {m n o k : Nat} {v0 v1 : Value} (c0 : W.cell? ⟨m, k, none⟩ = some v0) (c1 : W.cell? ⟨n, o, none⟩ = some v1) (h : Below W.heap.size W w2) :
    w2.cell? ⟨m, k, none⟩ = some v0 ∧ w2.cell? ⟨n, o, none⟩ = some v1 ∧ Below W.heap.size W w2 := ⟨kc1 c0 h, kc1 c1 h, h⟩
/-- the axis, 0 where there is none -/
def axV (zs ys : List Int) : Int := if prfB zs ys then (axN ys zs.length : Int) else 0
def axC (zs ys : List Int) : Int := if prfB zs ys then 0 else 1

set_option maxRecDepth 100000 in
set_option maxHeartbeats 4000000 in
theorem iax_ok (w : World) (a b : Option Addr) (c d : Nat) (zs ys : List Int) (hp : Prof w w.heap.size a b zs ys) (hv : prfB zs ys = true) :
    Calls Try.prog 19 #[.agg #[.slice a zs.length c, .slice b ys.length d]] w fun e w' => e = .returned (.tuple #[.int .i64 (axN ys zs.length : Int), .int .i64 0]) ∧ Below w.heap.size w w' := by
  have lz := hp.lz
  have ly := hp.ly
  have HO := Lib.hid (Okp.of hv)
  have hy0 : 0 < ys.length := by rw [HO.out.len]; have := HO.out.n2; omega
  obtain ⟨b1, o1, rfl, hB1, h1⟩ := hp.sy.at_ hy0
  rw [Nat.add_zero] at h1
  obtain ⟨q0, hq0⟩ : ∃ q, ys.getD 0 0 = q := ⟨_, rfl⟩
  rw [hq0] at h1
  have HQ := Lib.hid hq0
  have HP := Lib.hid hp
  have HV := Lib.hid hv
  clear hp hv hq0
  refine (callsIn_wide (n := 6)).1 ?_
  refine callsIn_of_wp_marks Try.func19 rfl trivial ?_ rfl
  simp only [Try.ntmps19, List.size_toArray, List.length_cons, List.length_nil, Nat.reduceAdd, Nat.reduceSub, Array.replicate_succ, Array.replicate_zero, List.push_toArray, List.append_toArray, List.nil_append, List.cons_append]
  gi_wp2_with fail
  obtain ⟨W, hW⟩ : ∃ W, W = w.alloc (.cells #[.slice a zs.length c, .slice (some ⟨b1, o1, none⟩) ys.length d] 26) := ⟨_, rfl⟩
  have bP : Bk W w.heap.size #[.slice a zs.length c, .slice (some ⟨b1, o1, none⟩) ys.length d] 26 := by rw [hW]; exact Bk.new' rfl
  have HB : Hid (Below w.heap.size w W) := Lib.hid (by rw [hW]; exact (by repeat (first | exact Below.refl _ _ | (refine Below.alloc ?_ (by simp <;> omega) _) | (refine Below.setCell ?_ (by simp <;> omega) _) | (refine Below.drew ?_) | (refine bel_drewN ?_ _))))
  rw [← hW]
  clear hW
  refine ⟨trivial, (callsIn_wide.2 (ipr_any _ _ _ _ _ zs ys (HP.out.on HB.out))).mono ?_⟩
  rw [HV.out]
  rintro e w1 ⟨rfl, hb⟩
  replace bP := bP.on hb
  replace HB := Lib.hid (bel_end HB.out hb)
  replace h1 := kc1 h1 HB.out
  clear hb
  have c0 := bP.cell 0 rfl
  have c1 := bP.cell 1 rfl
  gi_wp2_with fail
  refine wpIn_wide.2 ?_
  go_cut [4, 5] from 11 to 14 (fun s t wx => ∃ g h, s = .pointer (some ⟨g, 0, none⟩) ∧ t = .pointer (some ⟨h, 0, none⟩) ∧ g ≠ h ∧ w1.heap.size ≤ g ∧ w1.heap.size ≤ h ∧ Bk wx g #[.int .i64 0] 2 ∧ Bk wx h #[.int .i64 q0] 2 ∧ Below w1.heap.size w1 wx)
  case first =>
    have p0 := bP.lt
    go_region_held3 (fun w' => w'.cell? ⟨w.heap.size, 1, none⟩ = some (.slice (some ⟨b1, o1, none⟩) ys.length d) ∧ w'.cell? ⟨b1, o1, none⟩ = some (.int .i64 q0) ∧ Below w1.heap.size w1 w')
      (first
        | (exact keepA c1 h1 (Below.refl _ w1).drew)
        | (go_split_ands; exact keepA c1 h1 (bel_al (by assumption) (Nat.le_refl _)))
        | (refine keepA c1 h1 ?_; (repeat (first | (with_reducible exact (Below.refl _ _)) | (refine Below.drew ?_) | (refine Below.alloc ?_ (by first | omega | (simp; done) | (simp; omega)) _) | (refine Below.setCell ?_ (by first | omega | (simp; done) | (simp; omega)) _)))))
      (first | fail)
    all_goals (go_wp2_with fail; go_meet; go_split_ands)
    all_goals first
      | exact ⟨_, _, rfl, rfl, by omega, Nat.le_refl _, by omega, bkd ((Bk.new _ _ _).alloc _), bkd (Bk.new' (by simp)), (((Below.refl _ _).alloc (Nat.le_refl _) _).alloc (by simp) _).drew⟩
      | exact ⟨_, _, rfl, rfl, by omega, by omega, Nat.le_refl _, bkd (Bk.new' (by simp)), bkd ((Bk.new _ _ _).alloc _), (((Below.refl _ _).alloc (Nat.le_refl _) _).alloc (by simp) _).drew⟩
  case rest =>
    obtain ⟨B4, B5, rfl, rfl, hne, hg, hh, b4, b5, hb⟩ := hcut
    rename_i Q1 K1 hK1
    have l4 : w.heap.size ≤ B4 := Nat.le_trans HB.out.size hg
    have l5 : w.heap.size ≤ B5 := Nat.le_trans HB.out.size hh
    replace bP := bP.on hb
    replace HB := Lib.hid (bel_end HB.out hb)
    clear hb c0 c1 h1
    have c0 := bP.cell 0 rfl
    have c1 := bP.cell 1 rfl
    refine hK1 _ _ ?_
    clear hK1
    gi_wp2_with fail
    refine ⟨trivial, (callsIn_wide.2 (kns_any _ _ _ _ _ _ _)).mono ?_⟩
    rintro e w3 ⟨rfl, rfl⟩
    obtain ⟨W0, hW⟩ : ∃ W0, W0 = wc.alloc (.cells #[.slice a zs.length c, .slice (some ⟨b1, o1, none⟩) ys.length d] 26) := ⟨_, rfl⟩
    have hb : Below wc.heap.size wc W0 := by rw [hW]; exact (by repeat (first | exact Below.refl _ _ | (refine Below.alloc ?_ (by simp <;> omega) _) | (refine Below.setCell ?_ (by simp <;> omega) _) | (refine Below.drew ?_) | (refine bel_drewN ?_ _)))
    have bQ : Bk W0 wc.heap.size #[.slice a zs.length c, .slice (some ⟨b1, o1, none⟩) ys.length d] 26 := by rw [hW]; exact Bk.new' rfl
    have hB4 := b4.lt
    have hB5 := b5.lt
    replace b4 := b4.on hb
    replace b5 := b5.on hb
    replace HB := Lib.hid (bel_end HB.out hb)
    have hsz : W0.heap.size = wc.heap.size + 1 := by rw [hW]; simp
    have hB0 := HB.out
    have hwc : w.heap.size ≤ wc.heap.size := by omega
    gi_wp2_with fail
    rw [← hW]
    clear hW hb c0 c1
    refine wpIn_rangeFunc_ownH rfl (by omega) (gf := 74) (lb := #[.pointer (some ⟨wc.heap.size, 0, none⟩)]) rfl trivial (enters_of Try.func74 (by kernel_rfl) rfl)
      (kns_stops 5 (by omega) wc.heap.size w.heap.size a (some ⟨b1, o1, none⟩) c d zs ys HO.out.len W0 (by omega) (by omega) (bQ.cell 0 rfl) (bQ.cell 1 rfl) (HP.out.below hB0)) kpB_t (kpB_b (by omega) (by omega)) (Below.refl _ _) (fun _ => rfl)
      (fun pre W => (Bk W B4 #[.int .i64 ((axF ys pre).1 : Int)] 2 ∧ Bk W B5 #[.int .i64 (axF ys pre).2] 2 ∧ Bk W wc.heap.size #[.slice a zs.length c, .slice (some ⟨b1, o1, none⟩) ys.length d] 26) ∧ Below w.heap.size w W)
      (fun _ _ _ => False)
      (OwnFrom.and (OwnFrom.and (Own.from (Bk.own _ _ _) _) (OwnFrom.and (Own.from (Bk.own _ _ _) _) (Own.from (Bk.own _ _ _) _))) (ownFrom_below (Nat.le_refl _) (by omega)))
      (fun _ _ _ _ _ hs _ _ => hs)
      ⟨⟨b4, by rw [show (axF ys []).2 = q0 from HQ.out]; exact b5, bQ⟩, hB0⟩
      (fun x a' W => ∃ Bx, wc.heap.size < Bx ∧ Bk W Bx #[.int .i64 (zs.getD x 0), .int .i64 (ys.getD x 0)] 57 ∧ a' = { tmps := #[.agg #[.slice a zs.length c, .slice (some ⟨b1, o1, none⟩) ys.length d], .pointer (some ⟨w.heap.size, 0, none⟩), .int .i64 0, .int .i64 0, .pointer (some ⟨B4, 0, none⟩), .pointer (some ⟨B5, 0, none⟩), .int .i64 (x : Int), .pointer (some ⟨Bx, 0, none⟩), .agg #[.slice a zs.length c, .slice (some ⟨b1, o1, none⟩) ys.length d], .bool true, .bool false, u11, u12, u13, u14, .agg #[.slice a zs.length c, .slice (some ⟨b1, o1, none⟩) ys.length d], .func (.func 74) #[] #[.pointer (some ⟨wc.heap.size, 0, none⟩)], .int .i64 (x : Int), .agg #[.int .i64 (zs.getD x 0), .int .i64 (ys.getD x 0)], undef, undef, undef, undef, undef, undef, undef, undef], defers := [] })
      (fun x a' _ X Y row hs hg hr => by obtain ⟨Bx, h1, h2, h3⟩ := hs; exact ⟨Bx, h1, Bk.own Bx (fun (_ : Unit) => #[.int .i64 (zs.getD x 0), .int .i64 (ys.getD x 0)]) _ () X Y row h2 hg (fun r e => (hr r e).2), h3⟩)
      ?assign ?body ?done ?stop
    case assign =>
      rintro l pre x W K ⟨⟨bA, bB, bP'⟩, hB⟩ hK
      have hs := hB.size
      have hlt := bP'.lt
      unfold knE
      obtain ⟨z, hz⟩ : ∃ z, zs.getD x 0 = z := ⟨_, rfl⟩
      obtain ⟨y, hy⟩ : ∃ z, ys.getD x 0 = z := ⟨_, rfl⟩
      rw [hz, hy] at hK ⊢
      clear hz hy
      gi_wp2
      exact hK _ _ ((KeepsOthers.alloc _ _).from _) (KpB.of ((Below.refl _ _).alloc (Nat.le_refl _) _) hB.size bP'.lt) ⟨⟨bA.alloc _, bB.alloc _, bP'.alloc _⟩, hB.alloc hB.size _⟩ ⟨W.heap.size, bP'.lt, Bk.new W _ _, rfl⟩
    case body =>
      rintro l pre x a' W hl - ⟨⟨bA, bB, bP'⟩, hB⟩ ⟨Bx, hBx, bX, rfl⟩ hlt
      have hx := axF_snoc ys pre x
      obtain ⟨z, hz⟩ : ∃ z, zs.getD x 0 = z := ⟨_, rfl⟩
      obtain ⟨y, hy⟩ : ∃ z, ys.getD x 0 = z := ⟨_, rfl⟩
      obtain ⟨s, hs⟩ : ∃ z, axF ys pre = z := ⟨_, rfl⟩
      rw [hz, hy] at bX
      rw [hy, hs] at hx
      rw [hs] at bA bB
      rw [hz, hy]
      have HX := Lib.hid hx
      clear hz hy hx hs
      have cX := bX.cell 1 rfl
      have cA := bA.cell 0 rfl
      have cB := bB.cell 0 rfl
      have fA := bA.frozen 0
      have fB := bB.frozen 0
      have n1 : ¬ Bx = B4 := by omega
      have n2 : ¬ Bx = B5 := by omega
      have n3 : ¬ B4 = B5 := hne
      have n4 : ¬ B5 = B4 := fun h => hne h.symm
      have hmx : Try.prog.follows .mixedOrders = true := by kernel_rfl
      by_cases h : y < s.2
      · gi_wp2_with fail
        gi_region_with_o (fail)
        all_goals gi_wp2
        all_goals exact ⟨(((KeepsOthers.setCell _ _ _).trans (KeepsOthers.setCell _ _ _)).trans (KeepsOthers.drew _)).from _, kpB_t (kpB_t (KpB.set _ _ _ _ (by omega) (by omega)) (KpB.set _ _ _ _ (by omega) (by omega))) ⟨(Below.refl _ _).drew, rfl⟩,
          ⟨by rw [HX.out, if_pos h]; exact bkd ((bA.set 0 _ rfl).other n3 _ _), by rw [HX.out, if_pos h]; exact bkd ((bB.other n4 _ _).set 0 _ rfl), bkd ((bP'.other (by omega) _ _).other (by omega) _ _)⟩, ((hB.setCell (p := ⟨B4, 0, none⟩) (by simp; omega) _).setCell (p := ⟨B5, 0, none⟩) (by simp; omega) _).drew⟩
      · gi_wp2
        exact ⟨(KeepsOthers.refl _).from _, KpB.refl _ _ _, ⟨by rw [HX.out, if_neg (by omega)]; exact bA, by rw [HX.out, if_neg (by omega)]; exact bB, bP'⟩, hB⟩
    case done =>
      rintro D xs W hD rfl ⟨⟨bA, bB, bP'⟩, hB⟩ hK
      have cA := bA.cell 0 rfl
      gi_wp2
      refine ⟨by simp, .inl ⟨_, _, rfl, run_takeDeferred hK, ?_⟩⟩
      exact ⟨.tuple #[.int .i64 ((axF ys (List.range zs.length)).1 : Int), .int .i64 0], by simp [results, Try.results19, go_sem], rfl, hB.trans (belowK_b (w := w) (Nat.le_refl _) W D _ _ (by omega) hK rfl rfl)⟩
    case stop =>
      rintro D c pre W _ _ h _
      exact h.elim

theorem iax_any (w : World) (a b : Option Addr) (c d : Nat) (zs ys : List Int) (hp : Prof w w.heap.size a b zs ys) :
    Calls Try.prog 19 #[.agg #[.slice a zs.length c, .slice b ys.length d]] w fun e w' => e = .returned (.tuple #[.int .i64 (axV zs ys), .int .i64 (axC zs ys)]) ∧ Below w.heap.size w w' := by
  cases hv : prfB zs ys
  · have HP := Lib.hid hp
    have HV := Lib.hid hv
    have HX : Hid (axV zs ys = 0 ∧ axC zs ys = 1) := Lib.hid (by unfold axV axC; rw [hv]; exact ⟨rfl, rfl⟩)
    clear hp hv
    go_enter Try.func19, Try.ntmps19
    go_wp2_with fail
    refine (ipr_any _ _ _ _ _ zs ys (HP.out.on (by repeat (first | exact Below.refl _ _ | (refine Below.alloc ?_ (by simp <;> omega) _) | (refine Below.setCell ?_ (by simp <;> omega) _) | (refine Below.drew ?_) | (refine bel_drewN ?_ _))))).mono ?_
    rw [HV.out]
    rintro e w1 ⟨rfl, hb⟩
    have HB : Hid (Below w.heap.size w w1) := Lib.hid (bel_end (by repeat (first | exact Below.refl _ _ | (refine Below.alloc ?_ (by simp <;> omega) _) | (refine Below.setCell ?_ (by simp <;> omega) _) | (refine Below.drew ?_) | (refine bel_drewN ?_ _))) hb)
    clear hb
    go_wp2
    go_ret2
    exact ⟨rt2 HX.out.1.symm HX.out.2.symm, HB.out⟩
  · have := iax_ok w a b c d zs ys hp hv
    rwa [show axV zs ys = (axN ys zs.length : Int) by unfold axV; rw [hv]; rfl, show axC zs ys = 0 by unfold axC; rw [hv]; rfl]

set_option maxRecDepth 100000 in
set_option maxHeartbeats 2000000 in
theorem sax_any (w : World) (a b : Option Addr) (c d : Nat) (zs ys : List Int) (hp : Prof w w.heap.size a b zs ys) :
    Calls Try.prog 20 #[.agg #[.slice a zs.length c, .slice b ys.length d]] w fun e w' => e = .returned (.tuple #[.int .i64 (axV zs ys), .int .i64 (axC zs ys)]) ∧ Below w.heap.size w w' := by
  have ly := hp.ly
  cases hv : prfB zs ys
  · have HP := Lib.hid hp
    have HV := Lib.hid hv
    have HX : Hid (axV zs ys = 0 ∧ axC zs ys = 1) := Lib.hid (by unfold axV axC; rw [hv]; exact ⟨rfl, rfl⟩)
    clear hp hv
    go_enter Try.func20, Try.ntmps20
    go_wp2_with fail
    refine (spr_any _ _ _ _ _ zs ys (HP.out.on (by repeat (first | exact Below.refl _ _ | (refine Below.alloc ?_ (by simp <;> omega) _) | (refine Below.setCell ?_ (by simp <;> omega) _) | (refine Below.drew ?_) | (refine bel_drewN ?_ _))))).mono ?_
    rw [HV.out]
    rintro e w1 ⟨rfl, hb⟩
    have HB : Hid (Below w.heap.size w w1) := Lib.hid (bel_end (by repeat (first | exact Below.refl _ _ | (refine Below.alloc ?_ (by simp <;> omega) _) | (refine Below.setCell ?_ (by simp <;> omega) _) | (refine Below.drew ?_) | (refine bel_drewN ?_ _))) hb)
    clear hb
    go_wp2
    go_ret2
    exact ⟨rt2 HX.out.1.symm HX.out.2.symm, HB.out⟩
  · have HO := Lib.hid (Okp.of hv)
    have hy0 : 1 < ys.length := by rw [HO.out.len]; have := HO.out.n2; omega
    obtain ⟨b1, o1, rfl, hB1, h1⟩ := hp.sy (by omega)
    have HP := Lib.hid hp
    have HV := Lib.hid hv
    have HX : Hid (axV zs ys = (axN ys ys.length : Int) ∧ axC zs ys = 0) := Lib.hid (by unfold axV axC; rw [hv, HO.out.len]; exact ⟨rfl, rfl⟩)
    have H1 := Lib.hid h1
    clear hp hv h1
    go_enter Try.func20, Try.ntmps20
    go_wp2_with fail
    obtain ⟨W, hW⟩ : ∃ W, W = w.alloc (.cells #[.slice a zs.length c, .slice (some ⟨b1, o1, none⟩) ys.length d] 26) := ⟨_, rfl⟩
    have bP : Bk W w.heap.size #[.slice a zs.length c, .slice (some ⟨b1, o1, none⟩) ys.length d] 26 := by rw [hW]; exact Bk.new' rfl
    have HB : Hid (Below w.heap.size w W) := Lib.hid (by rw [hW]; exact (by repeat (first | exact Below.refl _ _ | (refine Below.alloc ?_ (by simp <;> omega) _) | (refine Below.setCell ?_ (by simp <;> omega) _) | (refine Below.drew ?_) | (refine bel_drewN ?_ _))))
    rw [← hW]
    clear hW
    refine (spr_any _ _ _ _ _ zs ys (HP.out.on HB.out)).mono ?_
    rw [HV.out]
    rintro e w1 ⟨rfl, hb⟩
    replace bP := bP.on hb
    replace HB := Lib.hid (bel_end HB.out hb)
    clear hb
    have c1 := bP.cell 1 rfl
    go_wp2_with fail
    go_loopw [4, 5] (fun s i wr => ∃ k : Nat, 1 ≤ k ∧ k ≤ ys.length ∧ i = .int .i64 k ∧ s = .int .i64 (axN ys k : Int) ∧ ∃ m, wr = w1.drewN m) (fun _ i _ => ys.length - (intOf i).toNat)
    case atStart => exact ⟨1, by omega, by omega, rfl, by rw [axN_one]; rfl, 0, rfl⟩
    case round =>
      obtain ⟨k, hk0, hk, rfl, rfl, nd, rfl⟩ := hrel
      by_cases hlt : k < ys.length
      · have hs := axN_succ ys k
        have hl : axN ys k < ys.length := by rcases axN_lt ys k with h | h <;> omega
        have g1 := kc1 (H1.out k hlt) HB.out
        have g2 := kc1 (H1.out _ hl) HB.out
        obtain ⟨s, hs'⟩ : ∃ s, axN ys k = s := ⟨_, rfl⟩
        rw [hs'] at hs hl g2 ⊢
        obtain ⟨y, hy⟩ : ∃ q, ys.getD k 0 = q := ⟨_, rfl⟩
        obtain ⟨z, hz⟩ : ∃ q, ys.getD s 0 = q := ⟨_, rfl⟩
        rw [hy, hz] at hs
        rw [hy] at g1
        rw [hz] at g2
        have HS := Lib.hid hs
        clear hs hs' hy hz
        have i1 : (k : Int) < (ys.length : Int) := by omega
        have i2 : (s : Int) < (ys.length : Int) := by omega
        by_cases h : y < z
        all_goals
          go_wp2_with fail
          go_quiet (fail)
          go_wp2
          go_roundw
          case rel => exact ⟨k + 1, by omega, by omega, by go_num, by rw [HS.out]; first | rw [if_pos h] | rw [if_neg (by omega)], _, by first | rfl | exact (World.drewN_drewN _ _ _)⟩
          case measure => simp [intOf]; omega
      · obtain rfl : k = ys.length := by omega
        go_wp2
        go_ret2
        exact ⟨rt2 HX.out.1.symm HX.out.2.symm, bel_drewN HB.out _⟩
end Go.Proofs.Ytkiadgmolkpgfaa
