/- The contract of the model's draw of a scaled interval. -/
import Derived.Test.YtaamfgpdfakakaaIDraw
import Derived.StillTailTactics
import Derived.Deep.RegionHeld3
import Derived.Deep.DrawnRows
import Derived.IntWalk
namespace Go.Proofs.Ytaamfgpdfakakaa
open Go.ChangeShapes Go.WideShapes Go.ChangeAt Go.RowKit
set_option linter.unusedVariables false
attribute [local go_sem ↓] Go.wp_at_zero Go.wp_at_succ
/-- what a draw of an interval and two numbers leaves -/
def ScDrawn (w : World) (e : Ending) (w' : World) : Prop :=
  ∃ x y n d : Int, e = .returned (.tuple #[.agg #[.int .i64 x, .int .i64 y], .int .i64 n, .int .i64 d]) ∧ Below w.heap.size w w'
theorem Code8.drew {w : World} {B : Nat} {a : Option Addr} {zs : List Int} (h : Code8 w B a zs) : Code8 w.drew B a zs := ⟨h.ints, h.len, h.byte⟩
theorem Src.drew {w : World} {s : Nat} (h : Src w s) : Src w.drew s := by
  obtain ⟨a, cap, zs, k, seed, hb, hc, rest⟩ := h
  exact ⟨a, cap, zs, k, seed, hb, hc.drew, rest⟩
theorem Rzz.drew {w : World} {g : Nat} (h : Rzz w g) : Rzz w.drew g := h
theorem kz {w w2 : World} {g : Nat} (h : Rzz w g) (hb : Below w.heap.size w w2) : Rzz w2 g := by
  have hl := World.block_lt_of_cell? w _ h.1.1
  exact ⟨⟨(hb.cell (p := ⟨g, 0, none⟩) hl).trans h.1.1, (hb.cell (p := ⟨g, 1, none⟩) hl).trans h.1.2⟩, (hb.frozen (p := ⟨g, 0, none⟩) hl).trans h.2.1, (hb.frozen (p := ⟨g, 1, none⟩) hl).trans h.2.2⟩
theorem Rzz.keep2 {w w1 : World} {s g : Nat} (h : Rzz w g) (hg : w.grownBy w1 (some s)) (hs : g ≠ s) : Rzz w1 g := by
  obtain ⟨hc, hf⟩ := rules_grown hg
  have hne : (g == s) = false := by simpa using hs
  have hl := World.block_lt_of_cell? w _ h.1.1
  exact ⟨⟨(hc _ _ hl hne).trans h.1.1, (hc _ _ hl hne).trans h.1.2⟩, (hf _ _ hl hne).trans h.2.1, (hf _ _ hl hne).trans h.2.2⟩
theorem cell_keep {w w1 : World} {s g o : Nat} {v : Value} (h : w.cell? ⟨g, o, none⟩ = some v) (hg : w.grownBy w1 (some s)) (hs : g ≠ s) : w1.cell? ⟨g, o, none⟩ = some v :=
  ((rules_grown hg).1 _ _ (World.block_lt_of_cell? w _ h) (by simpa using hs)).trans h
theorem below_refl2 (w : World) (o p : Obj) : Below w.heap.size w ((w.alloc o).alloc p) := ((Below.refl _ _).alloc (Nat.le_refl _) _).alloc (by simp) _
theorem below_src {B : Nat} {w w1 w2 : World} {s : Nat} (h : Below B w w1) (hg : w1.grownBy w2 (some s)) (hB : B ≤ s) (hw : B ≤ w.heap.size) : Below B w w2 := h.trans (below_of_grown hg hB (Nat.le_trans hw h.size))

/-- the source, the result's block and the old blocks, in a later world of a draw -/
def Ctx (w wq : World) (s : Nat) : Prop := Src wq s ∧ Rzz wq w.heap.size ∧ Below w.heap.size w wq ∧ w.heap.size < s
theorem Ctx.drew {w wq : World} {s : Nat} (h : Ctx w wq s) : Ctx w wq.drew s := ⟨h.1.drew, h.2.1.drew, h.2.2.1.drew, h.2.2.2⟩
theorem Ctx.alloc {w wq : World} {s : Nat} (h : Ctx w wq s) (o : Obj) : Ctx w (wq.alloc o) s :=
  ⟨h.1.alloc o, kz h.2.1 ((Below.refl _ _).alloc (Nat.le_refl _) o), h.2.2.1.alloc h.2.2.1.size o, h.2.2.2⟩
theorem Ctx.src {w wq : World} {s : Nat} (h : Ctx w wq s) : Src wq s := h.1
theorem Ctx.next {w wq wr : World} {s : Nat} (h : Ctx w wq s) (hs : Src wr s) (hg : wq.grownBy wr (some s)) : Ctx w wr s :=
  ⟨hs, h.2.1.keep2 hg (by have := h.2.2.2; omega), below_src h.2.2.1 hg (Nat.le_of_lt h.2.2.2) (Nat.le_refl _), h.2.2.2⟩
theorem heap_at_new {w : World} {o : Obj} {b : Nat} (e : b = w.heap.size) : (w.alloc o).heap[b]? = some o := by subst e; exact heap_alloc_new w o
theorem pick_n (w : World) (s b cap n : Nat) (zs : List Int) (h : Src w s) (hn : zs.length = n) (hb : ¬ b = s) (hl : 1 < n) (hl2 : n ≤ 1000) (hc : ∀ j, j < n → w.cell? ⟨b, j, none⟩ = some (.int .i64 (zs.getD j 0))) (hlt : b < w.heap.size) :
    Calls Try.prog 89 #[.pointer (some ⟨s, 0, none⟩), .slice (some ⟨b, 0, none⟩) n cap] w (Picked w s zs) := by
  subst hn
  exact pick_any w s b cap zs h hb hl hl2 hc hlt
def five : List Int := [1000000, 1000001, -1000000, -1000001, 3]
theorem pick_five (w : World) (s b cap : Nat) (h : Src w s) (hb : ¬ b = s) (hk : w.heap[b]? = some (.cells #[.int .i64 1000000, .int .i64 1000001, .int .i64 (-1000000), .int .i64 (-1000001), .int .i64 3] 2 (0, 0))) :
    Calls Try.prog 89 #[.pointer (some ⟨s, 0, none⟩), .slice (some ⟨b, 0, none⟩) 5 cap] w (Picked w s five) :=
  pick_n w s b cap 5 five h rfl hb (by decide) (by decide) (fun j hj => (cell_of_row w b j _ _ _ hk).trans (match j, hj with
    | 0, _ => rfl
    | 1, _ => rfl
    | 2, _ => rfl
    | 3, _ => rfl
    | 4, _ => rfl)) (by obtain ⟨hlt, _⟩ := Array.getElem?_eq_some_iff.1 hk; exact hlt)
def four : List Int := [0, 1, 1000000, 1000001]
theorem pick_four (w : World) (s b cap : Nat) (h : Src w s) (hb : ¬ b = s) (hk : w.heap[b]? = some (.cells #[.int .i64 0, .int .i64 1, .int .i64 1000000, .int .i64 1000001] 2 (0, 0))) :
    Calls Try.prog 89 #[.pointer (some ⟨s, 0, none⟩), .slice (some ⟨b, 0, none⟩) 4 cap] w (Picked w s four) :=
  pick_n w s b cap 4 four h rfl hb (by decide) (by decide) (fun j hj => (cell_of_row w b j _ _ _ hk).trans (match j, hj with
    | 0, _ => rfl
    | 1, _ => rfl
    | 2, _ => rfl
    | 3, _ => rfl)) (by obtain ⟨hlt, _⟩ := Array.getElem?_eq_some_iff.1 hk; exact hlt)
set_option maxRecDepth 100000 in
set_option maxHeartbeats 4000000 in
theorem dsc_any (w : World) (a : Option Addr) (cap : Nat) (zs : List Int) (h : Code8 w w.heap.size a zs) :
    Calls Try.prog 48 #[.slice a zs.length cap] w (ScDrawn w) := by
  have H := Lib.hid h
  clear h
  go_enter Try.func48, Try.ntmps48
  go_wp2_with fail
  refine (from_any _ _ _ zs ((H.out.below ((Below.refl _ _).alloc (Nat.le_refl _) _) (Nat.le_refl _)).more (by simp))).mono ?_
  rintro e w1 ⟨s, rfl, hs, hsrc, hb⟩
  have RZ := Lib.hid (kz (g := w.heap.size) ⟨⟨by simp [go_sem], by simp [go_sem]⟩, by simp [go_sem], by simp [go_sem]⟩ hb)
  have hs0 : w.heap.size < s := by simp at hs; omega
  have S1 := Lib.hid hsrc
  have B1 : Hid (Below w.heap.size w w1) := Lib.hid (bel_end (by repeat (first | exact Below.refl _ _ | (refine Below.alloc ?_ (by simp <;> omega) _) | (refine Below.setCell ?_ (by simp <;> omega) _) | (refine Below.drew ?_) | (refine bel_drewN ?_ _))) hb)
  clear hsrc hb hs
  go_wp2_with fail
  refine (dtw_any _ _ S1.out).mono ?_
  rintro e w2 ⟨x, y, u, v, rfl, -, -, hsrc, hg⟩
  have hss := S1.out.lt
  have RZ2 := Lib.hid (RZ.out.keep2 hg (by omega))
  have B2 := Lib.hid (below_src B1.out hg (Nat.le_of_lt hs0) (Nat.le_refl _))
  have hw12 : w1.heap.size ≤ w2.heap.size := hg.size
  have S2 := Lib.hid ((hsrc.alloc (.cells #[.int .i64 x, .int .i64 y] 42)).alloc (.cells #[.int .i64 u, .int .i64 v] 42))
  have RZ3 := Lib.hid (kz RZ2.out ((below_refl2 w2 (.cells #[.int .i64 x, .int .i64 y] 42) (.cells #[.int .i64 u, .int .i64 v] 42))))
  have B3 := Lib.hid (bel_end B2.out (below_refl2 w2 (.cells #[.int .i64 x, .int .i64 y] 42) (.cells #[.int .i64 u, .int .i64 v] 42)))
  clear hsrc hg
  go_wp2_with fail
  refine (nxt_any _ _ _ S2.out).mono ?_
  rintro e w3 ⟨n, rfl, hn0, hn1, -, hs, hg⟩
  have x0 : w3.cell? ⟨w2.heap.size, 0, none⟩ = some (.int .i64 x) := cell_keep (by simp [go_sem]) hg (by omega)
  have x1 : w3.cell? ⟨w2.heap.size, 1, none⟩ = some (.int .i64 y) := cell_keep (by simp [go_sem]) hg (by omega)
  have RZ4 := Lib.hid (RZ3.out.keep2 hg (by omega))
  have B4 := Lib.hid (below_src B3.out hg (Nat.le_of_lt hs0) (Nat.le_refl _))
  have S4 := Lib.hid hs
  clear hg hs hn1
  by_cases hn : n = 0
  · subst hn
    have hct : Ctx w w3 s := ⟨S4.out, RZ4.out, B4.out, hs0⟩
    have hs3 := S4.out.lt
    have hne1 : ¬ w.heap.size = w2.heap.size := by omega
    have hne2 : ¬ w2.heap.size = w.heap.size := by omega
    go_wp2_with fail
    go_region_held3 (fun w' => w'.cell? ⟨w2.heap.size, 0, none⟩ = some (.int .i64 x) ∧ w'.cell? ⟨w2.heap.size, 1, none⟩ = some (.int .i64 y))
      (first
        | (exact ⟨x0, x1⟩)
        | (go_split_ands; exact ⟨cell_keep (by assumption) hg (by omega), cell_keep (by assumption) hg (by omega)⟩)
        | go_keep)
      (first
        | (go_at_call 89; ((with_reducible refine (pick_five _ _ _ _ (Ctx.src (w := w) ?hcq) ?kaq ?kbq).mono ?_); (case hcq => (first | (with_reducible assumption) | (with_reducible refine Ctx.drew ?_; with_reducible refine Ctx.alloc ?_ _; with_reducible assumption) | (with_reducible refine Ctx.drew ?_; with_reducible refine Ctx.alloc ?_ _; with_reducible refine Ctx.alloc ?_ _; with_reducible assumption) | (with_reducible refine Ctx.alloc ?_ _; with_reducible assumption) | (with_reducible refine Ctx.alloc ?_ _; with_reducible refine Ctx.alloc ?_ _; with_reducible assumption) | (with_reducible refine Ctx.drew ?_; with_reducible assumption))); (case kaq => omega); (case kbq => (first | (refine heap_at_new ?_; (simp; done)) | ((refine (Below.heap_alloc _ _ _ ?_).trans (heap_at_new ?_)) <;> (simp; done)) | ((refine (hg.block _ ?_ ?_).trans (heap_at_new ?_)) <;> (first | (simp; done) | (simp; omega) | omega | (intro e; injection e with e; simp at e; omega) | (intro e; injection e with e; omega))) | ((refine (hg.block _ ?_ ?_).trans ((Below.heap_alloc _ _ _ ?_).trans (heap_at_new ?_))) <;> (first | (simp; done) | (simp; omega) | omega | (intro e; injection e with e; simp at e; omega) | (intro e; injection e with e; omega))))); rintro e wq ⟨q, hq0, rfl, hs, hg⟩); have hctx2 := Ctx.next (w := w) (by first | (with_reducible assumption) | (with_reducible refine Ctx.drew ?_; with_reducible refine Ctx.alloc ?_ _; with_reducible assumption) | (with_reducible refine Ctx.drew ?_; with_reducible refine Ctx.alloc ?_ _; with_reducible refine Ctx.alloc ?_ _; with_reducible assumption) | (with_reducible refine Ctx.alloc ?_ _; with_reducible assumption) | (with_reducible refine Ctx.alloc ?_ _; with_reducible refine Ctx.alloc ?_ _; with_reducible assumption) | (with_reducible refine Ctx.drew ?_; with_reducible assumption)) hs hg; have hsq := hctx2.1.lt; have hrz2 := hctx2.2.1; obtain ⟨⟨r0, r1⟩, r2, r3⟩ := hrz2)
        | (go_at_call 89; ((with_reducible refine (pick_four _ _ _ _ (Ctx.src (w := w) ?hcr) ?kar ?kbr).mono ?_); (case hcr => (first | (with_reducible assumption) | (with_reducible refine Ctx.drew ?_; with_reducible refine Ctx.alloc ?_ _; with_reducible assumption) | (with_reducible refine Ctx.drew ?_; with_reducible refine Ctx.alloc ?_ _; with_reducible refine Ctx.alloc ?_ _; with_reducible assumption) | (with_reducible refine Ctx.alloc ?_ _; with_reducible assumption) | (with_reducible refine Ctx.alloc ?_ _; with_reducible refine Ctx.alloc ?_ _; with_reducible assumption) | (with_reducible refine Ctx.drew ?_; with_reducible assumption))); (case kar => omega); (case kbr => (first | (refine heap_at_new ?_; (simp; done)) | ((refine (Below.heap_alloc _ _ _ ?_).trans (heap_at_new ?_)) <;> (simp; done)) | ((refine (hg.block _ ?_ ?_).trans (heap_at_new ?_)) <;> (first | (simp; done) | (simp; omega) | omega | (intro e; injection e with e; simp at e; omega) | (intro e; injection e with e; omega))) | ((refine (hg.block _ ?_ ?_).trans ((Below.heap_alloc _ _ _ ?_).trans (heap_at_new ?_))) <;> (first | (simp; done) | (simp; omega) | omega | (intro e; injection e with e; simp at e; omega) | (intro e; injection e with e; omega))))); rintro e wq ⟨r, hr0, rfl, hs, hg⟩); have hctx2 := Ctx.next (w := w) (by first | (with_reducible assumption) | (with_reducible refine Ctx.drew ?_; with_reducible refine Ctx.alloc ?_ _; with_reducible assumption) | (with_reducible refine Ctx.drew ?_; with_reducible refine Ctx.alloc ?_ _; with_reducible refine Ctx.alloc ?_ _; with_reducible assumption) | (with_reducible refine Ctx.alloc ?_ _; with_reducible assumption) | (with_reducible refine Ctx.alloc ?_ _; with_reducible refine Ctx.alloc ?_ _; with_reducible assumption) | (with_reducible refine Ctx.drew ?_; with_reducible assumption)) hs hg; have hsq := hctx2.1.lt; have hrz2 := hctx2.2.1; obtain ⟨⟨r0, r1⟩, r2, r3⟩ := hrz2))
    all_goals
      go_wp2
      exact bodyPost_ret (v := .tuple #[.agg #[.int .i64 x, .int .i64 y], .int .i64 five[q], .int .i64 four[r]]) (by simp [results, Try.results48, go_sem, r0, r1]) rfl ⟨_, _, _, _, rfl, (hctx2.2.2.1.setCell (Nat.le_refl _) _).setCell (Nat.le_refl _) _⟩
  · have hnf : (n == 0) = false := by simpa using hn
    have hsd := S4.out.drew
    have hrd := RZ4.out.drew
    have hbd := B4.out.drew
    have hne1 : ¬ w.heap.size = w2.heap.size := by omega
    have hne2 : ¬ w2.heap.size = w.heap.size := by omega
    go_wp2_with fail
    go_region_held3 (fun w' => w'.cell? ⟨w2.heap.size, 0, none⟩ = some (.int .i64 x) ∧ w'.cell? ⟨w2.heap.size, 1, none⟩ = some (.int .i64 y))
      (first
        | (exact ⟨x0, x1⟩)
        | (go_split_ands; exact ⟨cell_keep (by assumption) hg (by omega), cell_keep (by assumption) hg (by omega)⟩)
        | go_keep)
      (first
        | (go_at_call 63; ((with_reducible refine (nxt_any _ _ 40 (by assumption)).mono ?_); rintro e wq ⟨q, rfl, hq0, hq1, -, hs, hg⟩); have hq2 := hq1 (by omega); clear hq1; have hrz := Rzz.keep2 (by assumption) hg (by omega); have hbl := below_src (by assumption) hg (by omega) (Nat.le_refl _); have hrz2 := hrz; obtain ⟨⟨r0, r1⟩, r2, r3⟩ := hrz2)
        | (go_at_call 63; ((with_reducible refine (nxt_any _ _ 20 (by assumption)).mono ?_); rintro e wq ⟨r, rfl, hr0, hr1, -, hs, hg⟩); have hr2 := hr1 (by omega); clear hr1; have hrz := Rzz.keep2 (by assumption) hg (by omega); have hbl := below_src (by assumption) hg (by omega) (Nat.le_refl _); have hrz2 := hrz; obtain ⟨⟨r0, r1⟩, r2, r3⟩ := hrz2))
    have e1 : IntKind.i64.wrap (q - 20) = q - 20 := IntWalk.i64_in _ (by omega)
    have e2 : IntKind.i64.wrap (1 + r) = 1 + r := IntWalk.i64_in _ (by omega)
    rw [e1, e2]
    go_wp2
    exact bodyPost_ret (v := .tuple #[.agg #[.int .i64 x, .int .i64 y], .int .i64 (q - 20), .int .i64 (1 + r)]) (by simp [results, Try.results48, go_sem, r0, r1]) rfl ⟨_, _, _, _, rfl, (hbl.setCell (Nat.le_refl _) _).setCell (Nat.le_refl _) _⟩
end Go.Proofs.Ytaamfgpdfakakaa
