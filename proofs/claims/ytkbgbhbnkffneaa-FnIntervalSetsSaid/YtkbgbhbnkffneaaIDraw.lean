/- Contracts of the model's draws of intervals: of one, of a narrow one, of two. -/
import Derived.Test.YtkbgbhbnkffneaaFrom
import Derived.Test.YtkbgbhbnkffneaaIvl2
import Derived.Outline
namespace Go.Proofs.Ytkbgbhbnkffneaa
open Go.ChangeShapes Go.WideShapes Go.ChangeAt Go.RowKit
set_option linter.unusedVariables false
/-- what a draw of an interval leaves -/
def IvDrawn (w : World) (s : Nat) (e : Ending) (w' : World) : Prop :=
  ∃ x y : Int, e = .returned (.agg #[.int .i64 x, .int .i64 y]) ∧ ((Lit.int .i64 x).wf = true ∧ (Lit.int .i64 y).wf = true) ∧ Src w' s ∧ w.grownBy w' (some s)
/-- block g begins with two zeros that may be written -/
def Rzz (w : World) (g : Nat) : Prop := (w.cell? ⟨g, 0, none⟩ = some (.int .i64 0) ∧ w.cell? ⟨g, 1, none⟩ = some (.int .i64 0)) ∧ w.frozen? ⟨g, 0, none⟩ = false ∧ w.frozen? ⟨g, 1, none⟩ = false
theorem grown_al {w w' : World} {s : Nat} (h : w.grownBy w' (some s)) (o : Obj) : w.grownBy (w'.alloc o) (some s) := grown_alloc h o
theorem rules_grown {w w' : World} {s : Nat} (h : w.grownBy w' (some s)) : (∀ b o, b < w.heap.size → (b == s) = false → w'.cell? ⟨b, o, none⟩ = w.cell? ⟨b, o, none⟩) ∧ (∀ b o, b < w.heap.size → (b == s) = false → w'.frozen? ⟨b, o, none⟩ = w.frozen? ⟨b, o, none⟩) := by
  refine ⟨fun b o hb hs => ?_, fun b o hb hs => ?_⟩
  · exact World.cell?_of_block (w := w) (a := ⟨b, o, none⟩) (h.block b hb (fun e => by injection e with e; subst e; simp at hs))
  · have := h.block b hb (fun e => by injection e with e; subst e; simp at hs)
    simp only [World.frozen?, this]

theorem Src.set_far {w : World} {s : Nat} {p : Addr} (h : Src w s) (hp : s < p.block) (v : Value) : Src (w.setCell p v) s := by
  obtain ⟨a, cap, zs, k, seed, hb, hc, rest⟩ := h
  exact ⟨a, cap, zs, k, seed, (Below.heap_setCell w p v s (by omega)).trans hb, hc.below (B' := s) ((Below.refl _ _).setCell (by omega) v) (Nat.le_refl _), rest⟩
theorem grown_set_new {w w' : World} {s : Nat} {p : Addr} (h : w.grownBy w' (some s)) (hp : w.heap.size ≤ p.block) (v : Value) : w.grownBy (w'.setCell p v) (some s) :=
  ⟨h.os, h.tape, h.output, by simpa using h.size, fun k hk hne => (Below.heap_setCell w' p v k (by omega)).trans (h.block k hk hne)⟩
/-- a new block of two zeros, read and written in a later world -/
theorem zero_in {w w1 : World} {s : Nat} {t : TypeId} (h : (w.alloc (.cells #[.int .i64 0, .int .i64 0] t)).grownBy w1 (some s)) (hs : s < w.heap.size) : Rzz w1 w.heap.size := by
  obtain ⟨hc, hf⟩ := rules_grown h
  have hne : (w.heap.size == s) = false := by simp; omega
  exact ⟨⟨(hc _ _ (by simp) hne).trans (by simp [go_sem]), (hc _ _ (by simp) hne).trans (by simp [go_sem])⟩, (hf _ _ (by simp) hne).trans (by simp [go_sem]), (hf _ _ (by simp) hne).trans (by simp [go_sem])⟩
theorem Rzz.keep {w w1 : World} {s g : Nat} (h : Rzz w g) (hg : w.grownBy w1 (some s)) (hs : s < g) : Rzz w1 g := by
  obtain ⟨hc, hf⟩ := rules_grown hg
  have hne : (g == s) = false := by simp; omega
  have hl := World.block_lt_of_cell? w _ h.1.1
  exact ⟨⟨(hc _ _ hl hne).trans h.1.1, (hc _ _ hl hne).trans h.1.2⟩, (hf _ _ hl hne).trans h.2.1, (hf _ _ hl hne).trans h.2.2⟩

set_option maxRecDepth 100000 in
set_option maxHeartbeats 1000000 in
theorem dsm_any (w : World) (s : Nat) (h : Src w s) :
    Calls Try.prog 84 #[.pointer (some ⟨s, 0, none⟩)] w (IvDrawn w s) := by
  have hlt := h.lt
  have HS := Lib.hid (h.alloc (.cells #[.int .i64 0, .int .i64 0] 29))
  clear h
  go_enter Try.func84, Try.ntmps84
  go_wp2_with fail
  refine (nxt_any _ _ _ HS.out).mono ?_
  rintro e w1 ⟨x, rfl, hx0, hx1, -, hs, hg⟩
  have hx := hx1 (by omega)
  have RZ := Lib.hid (zero_in hg hlt)
  have HG := Lib.hid (grown_trans (grown_alloc (grown_refl w s) _) hg)
  have HS1 := Lib.hid hs
  clear hx1 hg hs
  go_wp2_with fail
  refine (nxt_any _ _ _ HS1.out).mono ?_
  rintro e w2 ⟨y, rfl, hy0, hy1, -, hs, hg⟩
  have hy := hy1 (by omega)
  obtain ⟨⟨r0, r1⟩, t0, t1⟩ := RZ.out.keep hg hlt
  have HG2 := Lib.hid (grown_trans HG.out hg)
  have HS2 := Lib.hid hs
  clear hy1 hg hs
  go_wp2
  exact bodyPost_ret (v := .agg #[.int .i64 (x - 200), .int .i64 (x - 200 + y)]) (by simp [results, Try.results84, go_sem, r0, r1]) rfl ⟨_, _, rfl, ⟨wf64 (by omega) (by omega), wf64 (by omega) (by omega)⟩, (HS2.out.set_far hlt _).set_far hlt _, grown_set_new (grown_set_new HG2.out (Nat.le_refl _) _) (Nat.le_refl _) _⟩
set_option maxRecDepth 100000 in
set_option maxHeartbeats 2000000 in
theorem div_any (w : World) (s : Nat) (h : Src w s) :
    Calls Try.prog 85 #[.pointer (some ⟨s, 0, none⟩)] w (IvDrawn w s) := by
  have hlt := h.lt
  have HS := Lib.hid (h.alloc (.cells #[.int .i64 0, .int .i64 0] 29))
  clear h
  go_enter Try.func85, Try.ntmps85
  go_wp2_with fail
  refine (dv_any _ _ HS.out).mono ?_
  rintro e w1 ⟨x, rfl, wx, hs, hg⟩
  have RZ := Lib.hid (zero_in hg hlt)
  have HG := Lib.hid (grown_trans (grown_alloc (grown_refl w s) _) hg)
  have HS1 := Lib.hid hs
  have WX := Lib.hid wx
  clear hg hs wx
  go_wp2_with fail
  refine (dv_any _ _ HS1.out).mono ?_
  rintro e w2 ⟨y, rfl, wy, hs, hg⟩
  have RZ2 := Lib.hid (RZ.out.keep hg hlt)
  have HG2 := Lib.hid (grown_trans HG.out hg)
  have HS2 := Lib.hid hs
  have WY := Lib.hid wy
  clear hg hs wy
  go_wp2_with fail
  refine (nxt_any _ _ _ HS2.out).mono ?_
  rintro e w3 ⟨n, rfl, hn0, hn1, -, hs, hg⟩
  obtain ⟨⟨r0, r1⟩, t0, t1⟩ := RZ2.out.keep hg hlt
  have HG3 := Lib.hid (grown_trans HG2.out hg)
  have HS3 := Lib.hid hs
  clear hn1 hg hs
  by_cases hn : n = 0
  · subst hn
    go_wp2
    exact bodyPost_ret (v := .agg #[.int .i64 x, .int .i64 y]) (by simp [results, Try.results85, go_sem, r0, r1]) rfl ⟨_, _, rfl, ⟨WX.out, WY.out⟩, (HS3.out.set_far hlt _).set_far hlt _, grown_set_new (grown_set_new HG3.out (Nat.le_refl _) _) (Nat.le_refl _) _⟩
  · have hnf : (n == 0) = false := by simpa using hn
    by_cases h1 : y < x
    · have h2 : ¬ x < y := by omega
      go_wp2
      exact bodyPost_ret (v := .agg #[.int .i64 y, .int .i64 x]) (by simp [results, Try.results85, go_sem, r0, r1]) rfl ⟨_, _, rfl, ⟨WY.out, WX.out⟩, (HS3.out.set_far hlt _).set_far hlt _, grown_set_new (grown_set_new HG3.out (Nat.le_refl _) _) (Nat.le_refl _) _⟩
    · by_cases h2 : x < y
      · go_wp2
        exact bodyPost_ret (v := .agg #[.int .i64 x, .int .i64 y]) (by simp [results, Try.results85, go_sem, r0, r1]) rfl ⟨_, _, rfl, ⟨WX.out, WY.out⟩, (HS3.out.set_far hlt _).set_far hlt _, grown_set_new (grown_set_new HG3.out (Nat.le_refl _) _) (Nat.le_refl _) _⟩
      · go_wp2
        exact bodyPost_ret (v := .agg #[.int .i64 x, .int .i64 x]) (by simp [results, Try.results85, go_sem, r0, r1]) rfl ⟨_, _, rfl, ⟨WX.out, WX.out⟩, (HS3.out.set_far hlt _).set_far hlt _, grown_set_new (grown_set_new HG3.out (Nat.le_refl _) _) (Nat.le_refl _) _⟩
/-- what a draw of two intervals leaves -/
def Iv2Drawn (w : World) (s : Nat) (e : Ending) (w' : World) : Prop :=
  ∃ x y u v : Int, e = .returned (.tuple #[.agg #[.int .i64 x, .int .i64 y], .agg #[.int .i64 u, .int .i64 v]]) ∧ ((Lit.int .i64 x).wf = true ∧ (Lit.int .i64 y).wf = true) ∧ ((Lit.int .i64 u).wf = true ∧ (Lit.int .i64 v).wf = true) ∧ Src w' s ∧ w.grownBy w' (some s)
theorem zero_in2 {w w1 : World} {s : Nat} {o : Obj} {t : TypeId} (h : ((w.alloc (.cells #[.int .i64 0, .int .i64 0] t)).alloc o).grownBy w1 (some s)) (hs : s < w.heap.size) : Rzz w1 w.heap.size :=
  zero_in (grown_trans (grown_alloc (grown_refl _ s) o) h) hs
set_option maxRecDepth 100000 in
set_option maxHeartbeats 2000000 in
theorem dtw_any (w : World) (s : Nat) (h : Src w s) :
    Calls Try.prog 64 #[.pointer (some ⟨s, 0, none⟩)] w (Iv2Drawn w s) := by
  have hlt := h.lt
  have HS := Lib.hid ((h.alloc (.cells #[.int .i64 0, .int .i64 0] 29)).alloc (.cells #[.int .i64 0, .int .i64 0] 29))
  clear h
  go_enter Try.func64, Try.ntmps64
  go_wp2_with fail
  refine (nxt_any _ _ _ HS.out).mono ?_
  rintro e w1 ⟨n, rfl, hn0, hn1, -, hs, hg⟩
  have RA := Lib.hid (zero_in2 hg hlt)
  have RB := Lib.hid (zero_in hg (by simp; omega))
  have HG := Lib.hid (grown_trans (grown_alloc (grown_alloc (grown_refl w s) _) _) hg)
  have HS1 := Lib.hid hs
  clear hn1 hg hs
  by_cases hp : 0 < n
  · go_wp2_with fail
    refine (dsm_any _ _ HS1.out).mono ?_
    rintro e w2 ⟨x, y, rfl, wxy, hs, hg⟩
    have RA2 := Lib.hid (RA.out.keep hg hlt)
    have RB2 := Lib.hid (RB.out.keep hg (by simp; omega))
    have HG2 := Lib.hid (grown_trans HG.out hg)
    have HS2 := Lib.hid hs
    have WXY := Lib.hid wxy
    clear hg hs wxy
    go_wp2_with fail
    refine (dsm_any _ _ HS2.out).mono ?_
    rintro e w3 ⟨u, v, rfl, wuv, hs, hg⟩
    obtain ⟨⟨r0, r1⟩, t0, t1⟩ := RA2.out.keep hg hlt
    have hrb := RB2.out.keep hg (by simp; omega)
    simp only [World.size_alloc] at hrb
    obtain ⟨⟨p0, p1⟩, q0, q1⟩ := hrb
    have HG3 := Lib.hid (grown_trans HG2.out hg)
    have HS3 := Lib.hid hs
    have WUV := Lib.hid wuv
    have hlt2 : s < w.heap.size + 1 := by omega
    clear hg hs wuv
    go_wp2
    exact bodyPost_ret (v := .tuple #[.agg #[.int .i64 x, .int .i64 y], .agg #[.int .i64 u, .int .i64 v]]) (by simp [results, Try.results64, go_sem, r0, r1, p0, p1]) rfl ⟨_, _, _, _, rfl, WXY.out, WUV.out, (((HS3.out.set_far hlt _).set_far hlt _).set_far hlt2 _).set_far hlt2 _, grown_set_new (grown_set_new (grown_set_new (grown_set_new HG3.out (Nat.le_refl _) _) (Nat.le_refl _) _) (Nat.le_succ _) _) (Nat.le_succ _) _⟩
  · go_wp2_with fail
    refine (div_any _ _ HS1.out).mono ?_
    rintro e w2 ⟨x, y, rfl, wxy, hs, hg⟩
    have RA2 := Lib.hid (RA.out.keep hg hlt)
    have RB2 := Lib.hid (RB.out.keep hg (by simp; omega))
    have HG2 := Lib.hid (grown_trans HG.out hg)
    have HS2 := Lib.hid hs
    have WXY := Lib.hid wxy
    clear hg hs wxy
    go_wp2_with fail
    refine (div_any _ _ HS2.out).mono ?_
    rintro e w3 ⟨u, v, rfl, wuv, hs, hg⟩
    obtain ⟨⟨r0, r1⟩, t0, t1⟩ := RA2.out.keep hg hlt
    have hrb := RB2.out.keep hg (by simp; omega)
    simp only [World.size_alloc] at hrb
    obtain ⟨⟨p0, p1⟩, q0, q1⟩ := hrb
    have HG3 := Lib.hid (grown_trans HG2.out hg)
    have HS3 := Lib.hid hs
    have WUV := Lib.hid wuv
    have hlt2 : s < w.heap.size + 1 := by omega
    clear hg hs wuv
    go_wp2
    exact bodyPost_ret (v := .tuple #[.agg #[.int .i64 x, .int .i64 y], .agg #[.int .i64 u, .int .i64 v]]) (by simp [results, Try.results64, go_sem, r0, r1, p0, p1]) rfl ⟨_, _, _, _, rfl, WXY.out, WUV.out, (((HS3.out.set_far hlt _).set_far hlt _).set_far hlt2 _).set_far hlt2 _, grown_set_new (grown_set_new (grown_set_new (grown_set_new HG3.out (Nat.le_refl _) _) (Nat.le_refl _) _) (Nat.le_succ _) _) (Nat.le_succ _) _⟩
end Go.Proofs.Ytkbgbhbnkffneaa
