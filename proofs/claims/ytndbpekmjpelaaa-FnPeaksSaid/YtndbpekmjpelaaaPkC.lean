/- slices.AppendSeq and slices.Collect of the values of a map of marks. -/
import Derived.Test.YtndbpekmjpelaaaPkI
import Derived.RangeFuncBox
import Derived.Maps.AppendAt
namespace Go.Proofs.Ytndbpekmjpelaaa
open Go.ChangeShapes Go.WideShapes Go.ChangeAt Go.RowKit Go.Shelf Num
set_option linter.unusedVariables false
set_option linter.unusedSimpArgs false
attribute [local go_sem] Oper.semAt_some
/-- the cells of marks -/
def mkC (zs : List Int) (xs : List Nat) : List Value := xs.flatMap fun (i : Nat) => ([.int .i64 (i : Int), .int .i64 (zs.getD i 0)] : List Value)
theorem mkC_snoc (zs : List Int) (xs : List Nat) (i : Nat) : mkC zs (xs ++ [i]) = mkC zs xs ++ [.int .i64 (i : Int), .int .i64 (zs.getD i 0)] := by simp [mkC]
theorem mkC_len (zs : List Int) (xs : List Nat) : (mkC zs xs).length = xs.length * 2 := by
  induction xs with
  | nil => rfl
  | cons x xs ih =>
    show (([.int .i64 (x : Int), .int .i64 (zs.getD x 0)] : List Value) ++ mkC zs xs).length = _
    rw [List.length_append, ih]
    simp only [List.length_cons, List.length_nil]
    omega
theorem cell2n {w : World} {x y : Value} {t : TypeId} {b : Nat} (h : b = w.heap.size) : ∀ j u, [x, y][j]? = some u → (w.alloc (.cells #[x, y] t)).cell? ((⟨b, 0, none⟩ : Addr).add j) = some u := by
  subst h
  intro j u hu
  match j with
  | 0 => cases hu; simp [go_sem]
  | 1 => cases hu; simp [go_sem]
  | j + 2 => simp at hu
theorem kw_of {W W' : World} (h : KeepsOthers W W') : KeepsWalks W W' := ⟨h.size, fun k o hk ho => h.same k o hk (Obj.not_cells_of_walk ho)⟩
theorem ne_mk : (45 : TypeId) ≠ 48 := by decide
set_option maxRecDepth 100000 in
set_option maxHeartbeats 4000000 in
theorem aps_any (w : World) (Bm b nn : Nat) (D0 : DataW Nat) (zs : List Int) (th : Int) (hl4 : zs.length ≤ 400) (hQ : MapQ D0 zs (cndQ zs th zs.length)) (hnn : nn ≤ 1000) (hBm : Bm < w.heap.size)
    (hm : w.cell? ⟨Bm, 0, none⟩ = some (.map (some b))) (hown : w.ownsMap Try.prog 2 mkR b nn D0) :
    Calls Try.prog 52 #[.slice none 0 0, .func (.func 44) #[] #[.pointer (some ⟨Bm, 0, none⟩)]] w fun e w' => ∃ (sv : Value) (xs : List Nat), e = .returned sv ∧ CndOf zs th xs ∧ w'.ownsRow w.heap.size 48 2 sv xs.length (mkC zs xs) ∧ Below w.heap.size w w' := by
  obtain ⟨i0, hi, hz0, hz1, hz2⟩ := info_parts info_mrk
  have HI := Lib.hid hi
  have HQ := Lib.hid hQ
  have hsz0 := hown.size_le
  have HM := Lib.hid hm
  have HOW := Lib.hid hown
  clear hQ hm hown hi
  refine (callsIn_wide (n := 6)).1 ?_
  refine callsIn_of_wp_marks Try.func52 rfl trivial ?_ rfl
  simp only [Try.ntmps52, List.size_toArray, List.length_cons, List.length_nil, Nat.reduceAdd, Nat.reduceSub, Array.replicate_succ, Array.replicate_zero, List.push_toArray, List.append_toArray, List.nil_append, List.cons_append]
  gi_wp2_with fail
  obtain ⟨W0, hW⟩ : ∃ W0, W0 = w.alloc (.cells #[.slice none 0 0] 45) := ⟨_, rfl⟩
  have hb : Below w.heap.size w W0 := by rw [hW]; exact (by repeat (first | exact Below.refl _ _ | (refine Below.alloc ?_ (by simp <;> omega) _) | (refine Below.setCell ?_ (by simp <;> omega) _) | (refine Below.drew ?_) | (refine bel_drewN ?_ _)))
  have bT : Boxed W0 w.heap.size 45 (.slice none 0 0) := by rw [hW]; exact Boxed.new _ _ _
  have hsz : W0.heap.size = w.heap.size + 1 := by rw [hW]; simp
  rw [← hW]
  clear hW
  refine wpIn_rangeFunc_ownH rfl (by omega) (gf := 44) (lb := #[.pointer (some ⟨Bm, 0, none⟩)]) rfl trivial (enters_of Try.func44 (by kernel_rfl) rfl)
    (mvs_stops 5 (by omega) Bm b nn D0 zs th hl4 HQ.out W0 (by omega) ((hb.cell (p := ⟨Bm, 0, none⟩) hBm).trans HM.out) (HOW.out.kept (grown_none hb) (by simp))) KeepsWalks.trans (fun W l o o' _ h _ h2 => KeepsWalks.putObj o' h h2) (Below.refl _ _) (fun _ => rfl)
    (fun pre W => (∃ sv, Boxed W w.heap.size 45 sv ∧ W.ownsRow w.heap.size 48 2 sv pre.length (mkC zs pre) ∧ True) ∧ Below w.heap.size w W)
    (fun _ _ _ => False)
    (OwnFrom.and (Own.from (holdsRow_own w.heap.size w.heap.size 45 48 2 (fun pre : List Nat => pre.length) (fun pre => mkC zs pre) (fun _ _ => True)) _) (ownFrom_below (Nat.le_refl _) (by omega)))
    (fun _ _ _ _ _ hs _ _ => hs)
    ⟨⟨_, bT, World.ownsRow_nil _ _ _ _, trivial⟩, hb⟩
    (fun x a' W => ∃ Bx, w.heap.size < Bx ∧ Bk W Bx #[.int .i64 (x : Int), .int .i64 (zs.getD x 0)] 48 ∧ a' = { tmps := #[.slice none 0 0, .func (.func 44) #[] #[.pointer (some ⟨Bm, 0, none⟩)], .pointer (some ⟨w.heap.size, 0, none⟩), undef, .slice none 0 0, .pointer (some ⟨Bx, 0, none⟩), .func (.func 44) #[] #[.pointer (some ⟨Bm, 0, none⟩)], .agg #[.int .i64 (x : Int), .int .i64 (zs.getD x 0)], undef, undef, undef, undef, undef], defers := [] })
    (fun x a' _ X Y row hs hg hr => by obtain ⟨Bx, h1, h2, h3⟩ := hs; exact ⟨Bx, h1, Bk.own Bx (fun (_ : Unit) => #[.int .i64 (x : Int), .int .i64 (zs.getD x 0)]) _ () X Y row h2 hg (fun r e => (hr r e).2), h3⟩)
    ?assign ?body ?done ?stop
  case assign =>
    rintro l pre x W K ⟨⟨sv, bT, hr, -⟩, hB⟩ hK
    have hlt := bT.lt
    unfold mkE
    obtain ⟨z, hz⟩ : ∃ z, zs.getD x 0 = z := ⟨_, rfl⟩
    rw [hz] at hK ⊢
    clear hz
    gi_wp2
    exact hK _ _ ((KeepsOthers.alloc _ _).from _) (KeepsWalks.alloc _ _) ⟨⟨sv, bT.alloc _, hr.alloc _, trivial⟩, hB.alloc hB.size _⟩ ⟨W.heap.size, hlt, Bk.new W _ _, rfl⟩
  case body =>
    rintro l pre x a' W hl - ⟨⟨sv, bT, hrow, -⟩, hB⟩ ⟨Bx, hBx, bX, rfl⟩ hlt
    have hsn := mkC_snoc zs pre x
    obtain ⟨z, hz⟩ : ∃ z, zs.getD x 0 = z := ⟨_, rfl⟩
    rw [hz] at bX hsn ⊢
    clear hz
    have HB := Lib.hid hB
    have HSN := Lib.hid hsn
    have BT := Lib.hid bT
    have HROW := Lib.hid hrow
    have hsB := hB.size
    have cX : W.cell? ⟨Bx, 0, none⟩ = some (.int .i64 (x : Int)) := bX.cell 0 rfl
    have cY : W.cell? ⟨Bx, 1, none⟩ = some (.int .i64 z) := bX.cell 1 rfl
    have cT := bT.cell
    clear hB hsn hrow bX
    gi_wp2_with (gi_at_builtin; refine wpListIn_append_own _ rfl _ _ 45 rfl w.heap.size 48 i0 (.agg #[.int .i64 0, .int .i64 0]) 2 16 Try.underlying45 HI.out hz0 hz1 hz2 rfl (by decide) sv pre.length (mkC zs pre) rfl (HROW.out.alloc _) ⟨W.heap.size, 0, none⟩ 1 1 [.int .i64 (x : Int), .int .i64 z] rfl rfl (cell2n (by simp)) (by simp [Value.oneCell']) (by unfold maxLen; omega) (by omega) (by simp; omega) ?_; intro v1 wa hown hgrow _; obtain ⟨g1, cp1, rfl⟩ := ownsRow_succ hown; have Q := Lib.hid (Boxed.appended BT.out ne_mk HROW.out hsB (Nat.le_refl _) hown hgrow); have q1 := Q.out.1.cell; have q2 := Q.out.1.frozen; clear hown hgrow)
    obtain ⟨-, p2, p3, p4, p5⟩ := Q.out
    exact ⟨p4.from _, kw_of p4, ⟨_, p2, by rw [HSN.out, List.length_append]; exact p3, trivial⟩, HB.out.trans p5⟩
  case done =>
    rintro D xs W hD hS ⟨⟨sv, bT, hrow, -⟩, hB⟩ hK
    have cT := bT.cell
    gi_wp2
    refine ⟨by simp, .inl ⟨_, _, rfl, run_takeDeferred hK, ?_⟩⟩
    exact ⟨_, results_tmp rfl _ _ _, _, xs, rfl, hS, ownsRow_putObj hrow _ hK rfl, hB.trans (belowK_b (w := w) (Nat.le_refl _) W D _ _ (by omega) hK rfl rfl)⟩
  case stop =>
    rintro D c pre W _ _ h _
    exact h.elim

set_option maxRecDepth 100000 in
set_option maxHeartbeats 4000000 in
theorem clc_any (w : World) (Bm b nn : Nat) (D0 : DataW Nat) (zs : List Int) (th : Int) (hl4 : zs.length ≤ 400) (hQ : MapQ D0 zs (cndQ zs th zs.length)) (hnn : nn ≤ 1000) (hBm : Bm < w.heap.size)
    (hm : w.cell? ⟨Bm, 0, none⟩ = some (.map (some b))) (hown : w.ownsMap Try.prog 2 mkR b nn D0) :
    Calls Try.prog 42 #[.func (.func 44) #[] #[.pointer (some ⟨Bm, 0, none⟩)]] w fun e w' => ∃ (sv : Value) (xs : List Nat), e = .returned sv ∧ CndOf zs th xs ∧ w'.ownsRow w.heap.size 48 2 sv xs.length (mkC zs xs) ∧ Below w.heap.size w w' := by
  have HQ := Lib.hid hQ
  have HM := Lib.hid hm
  have HOW := Lib.hid hown
  clear hQ hm hown
  go_enter Try.func42, Try.ntmps42
  go_wp2_with (go_at_call 52; refine (aps_any w Bm b nn D0 zs th hl4 HQ.out hnn hBm HM.out HOW.out).mono ?_; rintro e w' ⟨sv, xs, rfl, h1, h2, h3⟩; have H1 := Lib.hid h1; have H2 := Lib.hid h2; have H3 := Lib.hid h3; clear h1 h2 h3)
  go_ret
  exact ⟨sv, xs, rfl, H1.out, H2.out, H3.out⟩
end Go.Proofs.Ytndbpekmjpelaaa
