/- The contract of the model's draw of a profile. -/
import Derived.Test.YtcaekheghjnipaaDPr
import Derived.Test.YtcaekheghjnipaaCopy
namespace Go.Proofs.Ytcaekheghjnipaa
open Go.ChangeShapes Go.WideShapes Go.ChangeAt Go.RowKit Go.Shelf
set_option linter.unusedVariables false
attribute [local go_sem ↓] Go.wp_at_zero Go.wp_at_succ
set_option maxRecDepth 100000 in
set_option maxHeartbeats 4000000 in
theorem ddr_any (w : World) (s : Nat) (h : Src w s) :
    Calls Try.prog 104 #[.pointer (some ⟨s, 0, none⟩)] w (PrDrawn w s) := by
  have hlt := h.lt
  have HS := Lib.hid h
  have HI := Lib.hid info_i64
  clear h
  go_enter Try.func104, Try.ntmps104
  go_wp2_with fail
  obtain ⟨W, hW⟩ : ∃ W, W = ((w.alloc (.cells #[.slice none 0 0, .slice none 0 0] 42)).alloc (.cells #[] 2)).alloc (.cells #[] 2) := ⟨_, rfl⟩
  have HD : Hid (DS w s (some ⟨w.heap.size + 1, 0, none⟩) 0 (some ⟨w.heap.size + 1 + 1, 0, none⟩) 0 [] [] W) := Lib.hid (by
    have q1 := World.ownsRow_lit (base := w.heap.size + 1) (e := 2) (size := 1) (w.alloc (.cells #[.slice none 0 0, .slice none 0 0] 42)) #[] 0 (by simp) (by decide) (by decide)
    have q2 := World.ownsRow_lit (base := w.heap.size + 1) (e := 2) (size := 1) ((w.alloc (.cells #[.slice none 0 0, .slice none 0 0] 42)).alloc (.cells #[] 2)) #[] 0 (by simp) (by decide) (by decide)
    rw [World.size_alloc] at q1
    rw [World.size_alloc, World.size_alloc] at q2
    have q3 := q1.alloc (.cells #[] 2)
    rw [← hW] at q2 q3
    refine ⟨q3, q2, fun g e e' => ?_, ?_, ?_, ?_⟩
    · simp [Value.ownBlock] at e e'; omega
    · rw [hW]; exact ((HS.out.alloc _).alloc _).alloc _
    · rw [hW]; exact grown_alloc (grown_alloc (grown_alloc (grown_refl _ _) _) _) _
    · rw [hW]; exact ((Bk.new' rfl).alloc _).alloc _)
  rw [← hW]
  clear hW HS
  obtain ⟨i0, hi, hz0, hz1, hz2⟩ := info_parts HI.out
  refine (nxt_any _ _ _ HD.out.src).mono ?_
  rintro e w1 ⟨n, rfl, hn0, hn1, -, hs, hg⟩
  have hn := hn1 (by omega)
  replace HD := Lib.hid (HD.out.draw hlt hs hg)
  clear hs hg hn1
  go_wp2_with fail
  refine (nxt_any _ _ _ HD.out.src).mono ?_
  rintro e w2 ⟨k, rfl, hk0, hk1, -, hs, hg⟩
  have hk := hk1 (by omega)
  replace HD := Lib.hid (HD.out.draw hlt hs hg)
  clear hs hg hk1
  go_wp2_with fail
  go_loopw [3, 4, 5, 6, 7] (fun v1 v2 d sp m wr => ∃ (a1 : Option Addr) (c1 : Nat) (a2 : Option Addr) (c2 : Nat) (L1 L2 : List Int) (x y z : Int), v1 = .slice a1 L1.length c1 ∧ v2 = .slice a2 L2.length c2 ∧ d = .int .i64 x ∧ sp = .int .i64 y ∧ m = .int .i64 z ∧ 0 ≤ z ∧
      2 ≤ (L1.length : Int) + z ∧ (L1.length : Int) + z ≤ 5 ∧ 2 ≤ (L2.length : Int) + z ∧ (L2.length : Int) + z ≤ 5 ∧ 0 ≤ x ∧ x ≤ 30000 * (L1.length : Int) ∧ 1300000 ≤ y ∧ y ≤ 1700000 ∧ DS w s a1 c1 a2 c2 L1 L2 wr) (fun _ _ _ _ m _ => (intOf m).toNat)
  case atStart => exact ⟨_, _, _, _, [], [], 0, 1480000 + n, 2 + k, rfl, rfl, rfl, by go_num, by go_num, by omega, by simp; omega, by simp; omega, by simp; omega, by simp; omega, by omega, by simp, by omega, by omega, HD.out⟩
  case round =>
    obtain ⟨a1, c1, a2, c2, L1, L2, x, y, z, rfl, rfl, rfl, rfl, rfl, z0, l1, l2, l3, l4, x0, x1, y0, y1, hD⟩ := hrel
    clear HD
    have hsz := hD.grw.size
    have HD := Lib.hid hD
    clear hD
    by_cases hz : 0 < z
    · go_wp2_with (first | (at_builtin; refine wpList_append_lies _ rfl _ _ 36 rfl (w.heap.size + 1) 2 i0 (.int .i64 0) 1 8 Try.underlying36 hi hz0 hz1 hz2 rfl (by decide) (.slice a1 L1.length c1) L1.length (L1.map iv4) rfl (HD.out.r1.alloc _) ⟨wr.heap.size, 0, none⟩ 1 1 [.int .i64 x] rfl rfl (cell_one_new _ _ _) (by simp [Value.oneCell']) (by decide) (by unfold maxLen; omega) (by omega) (by simp; omega) (wr.heap.size + 1) (by simp) ?_; intro g1 cp1 w5 hown hgrow hat hlt9; have D1 := Lib.hid (HD.out.put hlt hown hgrow hat); have hs5 := D1.out.grw.size; clear hown hgrow hat) | (at_builtin; refine wpList_append_lies _ rfl _ _ 36 rfl (w.heap.size + 1) 2 i0 (.int .i64 0) 1 8 Try.underlying36 hi hz0 hz1 hz2 rfl (by decide) (.slice a2 L2.length c2) L2.length (L2.map iv4) rfl (D1.out.r2.alloc _) ⟨w5.heap.size, 0, none⟩ 1 1 [.int .i64 y] rfl rfl (cell_one_new _ _ _) (by simp [Value.oneCell']) (by decide) (by unfold maxLen; omega) (by omega) (by simp; omega) (w5.heap.size + 1) (by simp) ?_; intro g2 cp2 w6 hown hgrow hat hlt8; have D2 := Lib.hid (D1.out.swapped.put hlt hown hgrow hat).swapped; have hs6 := D2.out.grw.size; clear hown hgrow hat))
      refine (nxt_any _ _ _ D2.out.src).mono ?_
      rintro e w7 ⟨p, rfl, hp0, hp1, -, hs, hg⟩
      have hp := hp1 (by omega)
      have D3 := Lib.hid (D2.out.draw hlt hs hg)
      clear hs hg hp1 D1 D2 HD
      go_wp2_with fail
      refine (nxt_any _ _ _ D3.out.src).mono ?_
      rintro e w8 ⟨q, rfl, hq0, hq1, -, hs, hg⟩
      have hq := hq1 (by omega)
      have D4 := Lib.hid (D3.out.draw hlt hs hg)
      have hs8 := D4.out.src.lt
      clear hs hg hq1 D3
      go_wp2_with fail
      refine (pick4c _ _ w8.heap.size _ _ _ _ _ (D4.out.src.alloc _) (by omega) (heap_alloc_new w8 _)).mono ?_
      rintro e w9 ⟨y4, rfl, hy4, hs, hg⟩
      have D5 := Lib.hid ((D4.out.al _).draw hlt hs hg)
      clear hs hg D4 hs8
      rcases hy4 with rfl | rfl | rfl | rfl
      all_goals
        go_wp2_with fail
        go_roundw
        (case rel => exact ⟨some ⟨g1, 0, none⟩, cp1, some ⟨g2, 0, none⟩, cp2, L1 ++ [x], L2 ++ [y], x + 500 + p, _, z - 1, by simp, by simp, by go_num, rfl, by go_num, by omega, by simp; omega, by simp; omega, by simp; omega, by simp; omega, by omega, by simp; omega, by split <;> (try split) <;> omega, by split <;> (try split) <;> omega, D5.out⟩)
        (case measure => simp [intOf]; omega)
    · obtain rfl : z = 0 := by omega
      go_wp2_with fail
      refine (nxt_any _ _ _ HD.out.src).mono ?_
      rintro e w7 ⟨q, rfl, hq0, hq1, -, hs, hg⟩
      have hq := hq1 (by omega)
      have D3 := Lib.hid (HD.out.draw hlt hs hg)
      have hs7 := D3.out.grw.size
      clear hs hg hq1 HD
      have hc : q = 0 ∨ q = 1 ∨ q = 2 ∨ q = 3 ∨ q = 4 ∨ 5 ≤ q := by omega
      rcases hc with rfl | rfl | rfl | rfl | rfl | hc
      · obtain ⟨g1, cp1, e1, -, -⟩ := D3.out.r1.form (by omega)
        injection e1 with h1 h2 h3
        subst h1 h3
        clear h2
        go_wp2_with fail
        refine (pick2 _ _ w7.heap.size _ _ _ (D3.out.src.alloc _) (by omega) (heap_alloc_new w7 _)).mono ?_
        rintro e w8 ⟨x2, rfl, hs, hg⟩
        have D4 := Lib.hid ((D3.out.al _).draw hlt hs hg)
        clear hs hg D3
        obtain ⟨v0, hv0⟩ : ∃ v, w8.cell? ⟨g1, 0, none⟩ = some v := by
          rw [D4.out.r1.cellAt 0 (by omega)]
          cases L1 with
          | nil => simp at l1
          | cons a l => exact ⟨_, rfl⟩
        have fz := D4.out.r1.frozenAt 0
        have hgl := D4.out.lt1 g1 (by simp [Value.ownBlock])
        have gn1 : ¬ g1 = w.heap.size := by omega
        have gn2 : ¬ w.heap.size = g1 := by omega
        have hL1 : ¬ L1.length = 0 := by omega
        have hL0 : (0 : Int) < (L1.length : Int) := by omega
        have b0 := D4.out.box.cell 0 rfl
        have b1 := D4.out.box.cell 1 rfl
        have f0 := D4.out.box.frozen 0
        have f1 := D4.out.box.frozen 1
        have F := fun u v => ds_fin (D4.out.set hlt 0 x2) hlt (by rw [List.length_set]; omega) (by omega) u v
        rw [List.length_set] at F
        have HF := Lib.hid F
        clear F
        go_wp2_with fail
        exact bodyPost_ret (v := .agg #[.slice (some ⟨g1, 0, none⟩) L1.length _, .slice a2 L2.length _]) (by simp [results, Try.results104, go_sem, b0, b1]) rfl (HF.out _ _)
      · obtain ⟨g2, cp2, e1, -, -⟩ := D3.out.r2.form (by omega)
        injection e1 with h1 h2 h3
        subst h1 h3
        clear h2
        go_wp2_with fail
        refine (pick4 _ _ w7.heap.size _ _ _ _ _ (D3.out.src.alloc _) (by omega) (heap_alloc_new w7 _)).mono ?_
        rintro e w8 ⟨x2, rfl, hs, hg⟩
        have D4 := Lib.hid ((D3.out.al _).draw hlt hs hg)
        clear hs hg D3
        obtain ⟨v0, hv0⟩ : ∃ v, w8.cell? ⟨g2, 0, none⟩ = some v := by
          rw [D4.out.r2.cellAt 0 (by omega)]
          cases L2 with
          | nil => simp at l3
          | cons a l => exact ⟨_, rfl⟩
        have fz := D4.out.r2.frozenAt 0
        have hgl := D4.out.lt2 g2 (by simp [Value.ownBlock])
        have gn1 : ¬ g2 = w.heap.size := by omega
        have gn2 : ¬ w.heap.size = g2 := by omega
        have hL1 : ¬ L2.length = 0 := by omega
        have hL0 : (0 : Int) < (L2.length : Int) := by omega
        have b0 := D4.out.box.cell 0 rfl
        have b1 := D4.out.box.cell 1 rfl
        have f0 := D4.out.box.frozen 0
        have f1 := D4.out.box.frozen 1
        have F := fun u v => ds_fin (D4.out.swapped.set hlt 0 x2).swapped hlt (by omega) (by rw [List.length_set]; omega) u v
        rw [List.length_set] at F
        have HF := Lib.hid F
        clear F
        go_wp2_with fail
        exact bodyPost_ret (v := .agg #[.slice a1 L1.length _, .slice (some ⟨g2, 0, none⟩) L2.length _]) (by simp [results, Try.results104, go_sem, b0, b1]) rfl (HF.out _ _)
      · go_wp2_with fail
        refine (pick3 _ _ w7.heap.size _ _ _ _ (D3.out.src.alloc _) (by omega) (heap_alloc_new w7 _)).mono ?_
        rintro e w8 ⟨x2, rfl, hs, hg⟩
        have D4 := Lib.hid ((D3.out.al _).draw hlt hs hg)
        have hs8 := D4.out.grw.size
        clear hs hg D3
        go_wp2_with (first | (at_builtin; refine wpList_append_lies _ rfl _ _ 36 rfl (w.heap.size + 1) 2 i0 (.int .i64 0) 1 8 Try.underlying36 hi hz0 hz1 hz2 rfl (by decide) (.slice a1 L1.length c1) L1.length (L1.map iv4) rfl (D4.out.r1.alloc _) ⟨w8.heap.size, 0, none⟩ 1 1 [.int .i64 x2] rfl rfl (cell_one_new _ _ _) (by simp [Value.oneCell']) (by decide) (by unfold maxLen; (try simp only [List.length_append, List.length_cons, List.length_nil]); omega) (by (try simp only [List.length_append, List.length_cons, List.length_nil]); omega) (by simp; omega) (w8.heap.size + 1) (by simp) ?_; intro g1 cp1 w5 hown hgrow hat hlt9; have D1 := Lib.hid (D4.out.put hlt hown hgrow hat); have hs5 := D1.out.grw.size; clear hown hgrow hat) | (at_builtin; refine wpList_append_lies _ rfl _ _ 36 rfl (w.heap.size + 1) 2 i0 (.int .i64 0) 1 8 Try.underlying36 hi hz0 hz1 hz2 rfl (by decide) (.slice a2 L2.length c2) L2.length (L2.map iv4) rfl (D1.out.r2.alloc _) ⟨w5.heap.size, 0, none⟩ 1 1 [.int .i64 1500000] rfl rfl (cell_one_new _ _ _) (by simp [Value.oneCell']) (by decide) (by unfold maxLen; (try simp only [List.length_append, List.length_cons, List.length_nil]); omega) (by (try simp only [List.length_append, List.length_cons, List.length_nil]); omega) (by simp; omega) (w5.heap.size + 1) (by simp) ?_; intro g2 cp2 w6 hown hgrow hat hlt8; have D2 := Lib.hid (D1.out.swapped.put hlt hown hgrow hat).swapped; have b0 := D2.out.box.cell 0 rfl; have b1 := D2.out.box.cell 1 rfl; have f0 := D2.out.box.frozen 0; have f1 := D2.out.box.frozen 1; clear hown hgrow hat))
        have F := fun u v => ds_fin D2.out hlt (by simp; omega) (by simp; omega) u v
        simp only [List.length_append, List.length_cons, List.length_nil] at F
        exact bodyPost_ret (v := .agg #[.slice (some ⟨g1, 0, none⟩) (L1.length + 1) cp1, .slice (some ⟨g2, 0, none⟩) (L2.length + 1) cp2]) (by simp [results, Try.results104, go_sem, b0, b1]) rfl (F _ _)
      · go_wp2_with (first | (at_builtin; refine wpList_append_lies _ rfl _ _ 36 rfl (w.heap.size + 1) 2 i0 (.int .i64 0) 1 8 Try.underlying36 hi hz0 hz1 hz2 rfl (by decide) (.slice a1 L1.length c1) L1.length (L1.map iv4) rfl (D3.out.r1.alloc _) ⟨w7.heap.size, 0, none⟩ 1 1 [.int .i64 x] rfl rfl (cell_one_new _ _ _) (by simp [Value.oneCell']) (by decide) (by unfold maxLen; (try simp only [List.length_append, List.length_cons, List.length_nil]); omega) (by (try simp only [List.length_append, List.length_cons, List.length_nil]); omega) (by simp; omega) (w7.heap.size + 1) (by simp) ?_; intro g1 cp1 w5 hown hgrow hat hlt9; have D1 := Lib.hid (D3.out.put hlt hown hgrow hat); have b0 := D1.out.box.cell 0 rfl; have b1 := D1.out.box.cell 1 rfl; have f0 := D1.out.box.frozen 0; have f1 := D1.out.box.frozen 1; clear hown hgrow hat) | fail)
        have F := fun u v => ds_fin D1.out hlt (by simp; omega) (by omega) u v
        simp only [List.length_append, List.length_cons, List.length_nil] at F
        exact bodyPost_ret (v := .agg #[.slice (some ⟨g1, 0, none⟩) (L1.length + 1) cp1, .slice a2 L2.length c2]) (by simp [results, Try.results104, go_sem, b0, b1]) rfl (F _ _)
      · go_wp2_with fail
        go_loopw [3, 4, 8] (fun v1 v2 m wr => ∃ (a1 : Option Addr) (c1 : Nat) (a2 : Option Addr) (c2 : Nat) (L1 L2 : List Int) (z : Int), v1 = .slice a1 L1.length c1 ∧ v2 = .slice a2 L2.length c2 ∧ m = .int .i64 z ∧ 0 ≤ z ∧ z ≤ 13 ∧ (L1.length : Int) ≤ z ∧ (L2.length : Int) ≤ z ∧ DS w s a1 c1 a2 c2 L1 L2 wr) (fun _ _ m _ => (20 - intOf m).toNat)
        case atStart => exact ⟨none, 0, none, 0, [], [], 0, rfl, rfl, rfl, by omega, by omega, by simp, by simp, D3.out.gone⟩
        case round =>
          obtain ⟨a1, c1, a2, c2, L1, L2, z, rfl, rfl, rfl, z0, z1, l1, l2, hD⟩ := hrel
          clear D3
          have hsz := hD.grw.size
          have HD := Lib.hid hD
          clear hD
          go_wp2_with fail
          refine (nxt_any _ _ _ HD.out.src).mono ?_
          rintro e w9 ⟨r, rfl, hr0, hr1, -, hs, hg⟩
          have hr := hr1 (by omega)
          have D4 := Lib.hid (HD.out.draw hlt hs hg)
          have hs9 := D4.out.grw.size
          clear hs hg hr1 HD
          by_cases hlz : z < 12 + r
          · go_wp2_with (first | (at_builtin; refine wpList_append_lies _ rfl _ _ 36 rfl (w.heap.size + 1) 2 i0 (.int .i64 0) 1 8 Try.underlying36 hi hz0 hz1 hz2 rfl (by decide) (.slice a1 L1.length c1) L1.length (L1.map iv4) rfl (D4.out.r1.alloc _) ⟨w9.heap.size, 0, none⟩ 1 1 [.int .i64 (100 * z)] rfl rfl (cell_one_new _ _ _) (by simp [Value.oneCell']) (by decide) (by unfold maxLen; (try simp only [List.length_append, List.length_cons, List.length_nil]); omega) (by (try simp only [List.length_append, List.length_cons, List.length_nil]); omega) (by simp; omega) (w9.heap.size + 1) (by simp) ?_; intro g1 cp1 w5 hown hgrow hat hlt9; have D1 := Lib.hid (D4.out.put hlt hown hgrow hat); have hs5 := D1.out.grw.size; clear hown hgrow hat) | (at_builtin; refine wpList_append_lies _ rfl _ _ 36 rfl (w.heap.size + 1) 2 i0 (.int .i64 0) 1 8 Try.underlying36 hi hz0 hz1 hz2 rfl (by decide) (.slice a2 L2.length c2) L2.length (L2.map iv4) rfl (D1.out.r2.alloc _) ⟨w5.heap.size, 0, none⟩ 1 1 [.int .i64 (1500000 + z)] rfl rfl (cell_one_new _ _ _) (by simp [Value.oneCell']) (by decide) (by unfold maxLen; (try simp only [List.length_append, List.length_cons, List.length_nil]); omega) (by (try simp only [List.length_append, List.length_cons, List.length_nil]); omega) (by simp; omega) (w5.heap.size + 1) (by simp) ?_; intro g2 cp2 w6 hown hgrow hat hlt8; have D2 := Lib.hid (D1.out.swapped.put hlt hown hgrow hat).swapped; have hs6 := D2.out.grw.size; clear hown hgrow hat))
            go_roundw
            (case rel => exact ⟨some ⟨g1, 0, none⟩, cp1, some ⟨g2, 0, none⟩, cp2, L1 ++ [100 * z], L2 ++ [1500000 + z], z + 1, by simp, by simp, by go_num, by omega, by omega, by simp; omega, by simp; omega, D2.out⟩)
            (case measure => simp [intOf]; omega)
          · have b0 := D4.out.box.cell 0 rfl
            have b1 := D4.out.box.cell 1 rfl
            have f0 := D4.out.box.frozen 0
            have f1 := D4.out.box.frozen 1
            have F := fun u v => ds_fin D4.out hlt (by omega) (by omega) u v
            have HF := Lib.hid F
            clear F
            go_wp2_with fail
            exact bodyPost_ret (v := .agg #[.slice a1 L1.length c1, .slice a2 L2.length c2]) (by simp [results, Try.results104, go_sem, b0, b1]) rfl (HF.out _ _)
      · have q0 : (q == 0) = false := by simp; omega
        have q1 : (q == 1) = false := by simp; omega
        have q2 : (q == 2) = false := by simp; omega
        have q3 : (q == 3) = false := by simp; omega
        have q4 : (q == 4) = false := by simp; omega
        have b0 := D3.out.box.cell 0 rfl
        have b1 := D3.out.box.cell 1 rfl
        have f0 := D3.out.box.frozen 0
        have f1 := D3.out.box.frozen 1
        have F := fun u v => ds_fin D3.out hlt (by omega) (by omega) u v
        have HF := Lib.hid F
        clear F
        go_wp2_with fail
        exact bodyPost_ret (v := .agg #[.slice a1 L1.length c1, .slice a2 L2.length c2]) (by simp [results, Try.results104, go_sem, b0, b1]) rfl (HF.out _ _)
end Go.Proofs.Ytcaekheghjnipaa
