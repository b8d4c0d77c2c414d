/- The model's draws of directions. -/
import Derived.Test.YtcaekheghjnipaaDPr
import Derived.Test.YtcaekheghjnipaaDirMs
import Derived.Test.YtcaekheghjnipaaQLaw
import Derived.Deep.RegionWith
namespace Go.Proofs.Ytcaekheghjnipaa
open Go.ChangeShapes Go.WideShapes Go.ChangeAt Go.RowKit Go.Shelf Num
set_option linter.unusedVariables false
/-- a number of three is picked -/
theorem pick3c (w : World) (s b cap : Nat) (z0 z1 z2 : Int) (h : Src w s) (hb : ¬ b = s) (hk : w.heap[b]? = some (.cells #[.int .i64 z0, .int .i64 z1, .int .i64 z2] 2 (0, 0))) :
    Calls Try.prog 102 #[.pointer (some ⟨s, 0, none⟩), .slice (some ⟨b, 0, none⟩) 3 cap] w fun e w' => ∃ x : Int, e = .returned (.int .i64 x) ∧ (x = z0 ∨ x = z1 ∨ x = z2) ∧ Src w' s ∧ w.grownBy w' (some s) :=
  (pick_n w s b cap 3 [z0, z1, z2] h rfl hb (by decide) (by decide) (fun j hj => (cell_of_row w b j _ _ _ hk).trans (match j, hj with
    | 0, _ => rfl
    | 1, _ => rfl
    | 2, _ => rfl)) (by obtain ⟨hlt, _⟩ := Array.getElem?_eq_some_iff.1 hk; exact hlt)).mono fun e w' ⟨j, hj, he, hs, hg⟩ => ⟨_, he, by
      match j, hj with
      | 0, _ => exact Or.inl rfl
      | 1, _ => exact Or.inr (Or.inl rfl)
      | 2, _ => exact Or.inr (Or.inr rfl), hs, hg⟩
/-- what a draw of a direction leaves -/
def DirDrawn (w : World) (s : Nat) (e : Ending) (w' : World) : Prop := ∃ x y z : Int, e = .returned (.agg #[.int .i64 x, .int .i64 y, .int .i64 z]) ∧ Src w' s ∧ w.grownBy w' (some s)
theorem three_set {w w' : World} {s g : Nat} {a b c : Value} (h : w.grownBy w' (some s)) (hg : w.heap.size ≤ g) : w.grownBy (((w'.setCell ⟨g, 0, none⟩ a).setCell ⟨g, 1, none⟩ b).setCell ⟨g, 2, none⟩ c) (some s) := grown_set_new (grown_set_new (grown_set_new h hg _) hg _) hg _
theorem src_set3 {w : World} {s g : Nat} {a b c : Value} (h : Src w s) (hg : s < g) : Src (((w.setCell ⟨g, 0, none⟩ a).setCell ⟨g, 1, none⟩ b).setCell ⟨g, 2, none⟩ c) s := ((h.set_far hg _).set_far hg _).set_far hg _

set_option maxRecDepth 100000 in
set_option maxHeartbeats 4000000 in
theorem ddi_any (w : World) (s : Nat) (h : Src w s) :
    Calls Try.prog 76 #[.pointer (some ⟨s, 0, none⟩)] w (DirDrawn w s) := by
  have hlt := h.lt
  have HS := Lib.hid h
  clear h
  go_enter Try.func76, Try.ntmps76
  go_wp2_with fail
  generalize hW : World.alloc _ _ = W
  have bR : Bk W w.heap.size #[.int .i64 0, .int .i64 0, .int .i64 0] 25 := by rw [← hW]; exact Bk.new' rfl
  have HG : Hid (w.grownBy W (some s)) := Lib.hid (by rw [← hW]; exact grown_alloc (grown_refl _ _) _)
  replace HS : Hid (Src W s) := Lib.hid (by rw [← hW]; exact HS.out.alloc _)
  clear hW
  refine (nxt_any _ _ _ HS.out).mono ?_
  rintro e w1 ⟨q, rfl, hq0, hq1, -, hs, hg⟩
  have hq := hq1 (by omega)
  clear hq1
  replace bR := bR.kept hg (by simp; omega)
  replace HG := Lib.hid (grown_trans HG.out hg)
  replace HS := Lib.hid hs
  have hls := HS.out.lt
  clear hs hg
  go_wp2_with fail
  refine (pick3c _ _ w1.heap.size _ _ _ _ (HS.out.alloc _) (by omega) (heap_alloc_new w1 _)).mono ?_
  rintro e w2 ⟨x, rfl, hx, hs, hg⟩
  have hx20 : x ≤ 21 := by omega
  replace bR := (bR.alloc _).kept hg (by simp; omega)
  replace HG := Lib.hid (grown_trans (grown_alloc HG.out _) hg)
  replace HS := Lib.hid hs
  have hls := HS.out.lt
  clear hs hg
  go_wp2_with fail
  refine (nxt_any _ _ _ HS.out).mono ?_
  rintro e w3 ⟨m, rfl, hm0, hm1, hm2, hs, hg⟩
  have hm : m ≤ 21 := by
    by_cases h1 : 1 < x
    · have := hm1 h1; omega
    · have := hm2 (by omega); omega
  clear hm1 hm2 hx hx20
  replace bR := bR.kept hg (by simp; omega)
  replace HG := Lib.hid (grown_trans HG.out hg)
  replace HS := Lib.hid hs
  have hls := HS.out.lt
  clear hs hg
  go_wp2_with fail
  all_goals
    refine (nxt_any _ _ _ HS.out).mono ?_
    rintro e w4 ⟨t, rfl, ht0, ht1, -, hs, hg⟩
    clear ht1
    replace bR := bR.kept hg (by simp; omega)
    replace HG := Lib.hid (grown_trans HG.out hg)
    replace HS := Lib.hid hs
    have hls := HS.out.lt
    clear hs hg
    go_wp2_with fail
    have key : ∀ (a b : Int) (d : Bool) (wz : World), Calls Try.prog 18 #[.int .i64 a, .int .i64 b, .bool d] wz fun e w' => ∃ x y z c, e = .returned (.tuple #[.agg #[.int .i64 x, .int .i64 y, .int .i64 z], .int .i64 c]) ∧ Below wz.heap.size wz w' :=
      fun a b d wz => (smd_any a b d wz).mono fun e w' h => ⟨_, _, _, _, h.1, h.2⟩
    refine (key _ _ _ _).mono ?_
    rintro e w5 ⟨X, Y, V, c, rfl, hb⟩
    replace bR := bR.on hb
    replace HG := Lib.hid (grown_bel HG.out hb)
    replace HS := Lib.hid (HS.out.bel hb)
    clear hb key
    go_wp2_with fail
    generalize hW : World.alloc _ _ = W6
    have hb : Below w5.heap.size w5 W6 := by rw [← hW]; exact (by repeat (first | exact Below.refl _ _ | (refine Below.alloc ?_ (by simp <;> omega) _) | (refine Below.setCell ?_ (by simp <;> omega) _) | (refine Below.drew ?_) | (refine bel_drewN ?_ _)))
    have bD : Bk W6 w5.heap.size #[.int .i64 X, .int .i64 Y, .int .i64 V] 25 := by rw [← hW]; exact Bk.new' rfl
    have hR5 := bR.lt
    replace bR := bR.on hb
    replace HG := Lib.hid (grown_bel HG.out hb)
    have hs5 := HS.out.lt
    replace HS := Lib.hid (HS.out.bel hb)
    clear hW hb
    refine (nxt_any _ _ _ HS.out).mono ?_
    rintro e w7 ⟨v, rfl, hv0, hv1, -, hs, hg⟩
    have hv := hv1 (by omega)
    clear hv1
    replace bR := bR.kept hg (by simp; omega)
    replace bD := bD.kept hg (by simp; omega)
    replace HG := Lib.hid (grown_trans HG.out hg)
    replace HS := Lib.hid hs
    have hls := HS.out.lt
    clear hs hg
    have r0 := bR.cell 0 rfl
    have rf0 := bR.frozen 0
    have r1 := bR.cell 1 rfl
    have rf1 := bR.frozen 1
    have r2 := bR.cell 2 rfl
    have rf2 := bR.frozen 2
    have rl := bR.lt
    have d0 := bD.cell 0 rfl
    have df0 := bD.frozen 0
    have d1 := bD.cell 1 rfl
    have df1 := bD.frozen 1
    have d2 := bD.cell 2 rfl
    have df2 := bD.frozen 2
    have dl := bD.lt
    have n1 : ¬ w.heap.size = w5.heap.size := by omega
    have n2 : ¬ w5.heap.size = w.heap.size := by omega
    by_cases v0 : v = 0
    · subst v0
      go_wp2
      exact bodyPost_ret (v := .agg #[.int .i64 (wrap64 (2 * X)), .int .i64 (wrap64 (2 * Y)), .int .i64 (wrap64 (2 * V))]) (by simp [results, Try.results76, go_sem, *]) rfl ⟨_, _, _, rfl, src_set3 HS.out hlt, three_set HG.out (Nat.le_refl _)⟩
    · have b0 : (v == 0) = false := by simpa using v0
      by_cases v1 : v = 1
      · subst v1
        go_wp2
        exact bodyPost_ret (v := .agg #[.int .i64 X, .int .i64 (wrap64 (Y + 1)), .int .i64 V]) (by simp [results, Try.results76, go_sem, *]) rfl ⟨_, _, _, rfl, src_set3 (HS.out.set_far (p := ⟨w5.heap.size, 1, none⟩) (by simp; omega) _) hlt, three_set (grown_set_new (p := ⟨w5.heap.size, 1, none⟩) HG.out (Nat.le_of_lt hR5) _) (Nat.le_refl _)⟩
      · have b1 : (v == 1) = false := by simpa using v1
        by_cases v2 : v = 2
        · subst v2
          go_wp2
          exact bodyPost_ret (v := .agg #[.int .i64 1, .int .i64 0, .int .i64 1]) (by simp [results, Try.results76, go_sem, *]) rfl ⟨_, _, _, rfl, src_set3 HS.out hlt, three_set HG.out (Nat.le_refl _)⟩
        · have b2 : (v == 2) = false := by simpa using v2
          go_wp2
          exact bodyPost_ret (v := .agg #[.int .i64 X, .int .i64 Y, .int .i64 V]) (by simp [results, Try.results76, go_sem, *]) rfl ⟨_, _, _, rfl, src_set3 HS.out hlt, three_set HG.out (Nat.le_refl _)⟩
end Go.Proofs.Ytcaekheghjnipaa
