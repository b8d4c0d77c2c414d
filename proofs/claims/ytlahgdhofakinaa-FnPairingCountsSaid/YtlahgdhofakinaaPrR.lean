/- The model's draws of pairings, and of the arguments of the laws. -/
import Derived.Test.YtlahgdhofakinaaPrQ
namespace Go.Proofs.Ytlahgdhofakinaa
open Go.ChangeShapes Go.WideShapes Go.ChangeAt Go.RowKit Go.Shelf Num
set_option linter.unusedVariables false
set_option linter.unusedSimpArgs false
/-- what a draw of a pairing leaves -/
def PrsD (w : World) (s : Nat) (e : Ending) (w' : World) : Prop := ∃ (g c : Nat) (Z : List Int), e = .returned (.slice (some ⟨g, 0, none⟩) Z.length c) ∧ Z.length ≤ 9 ∧ Z.length ≤ c ∧ D1 w s g c Z.length Z w'
set_option maxRecDepth 100000 in
set_option maxHeartbeats 8000000 in
theorem dpr_any (wB w : World) (s G c : Nat) (L : List (List Int)) (hsB : s < wB.heap.size) (h8 : L.length ≤ 8) (hr8 : ∀ j, j < L.length → (gR L j).length ≤ 8) (hF : RwF wB s G L w) :
    Calls Try.prog 75 #[.pointer (some ⟨s, 0, none⟩), .slice (some ⟨G, 0, none⟩) L.length c] w (PrsD w s) := by
  have hlt := hF.src.lt
  have HF := Lib.hid hF
  have HR8 := Lib.hid hr8
  clear hF hr8
  obtain ⟨i0, hi, hz0, hz1, hz2⟩ := info_parts info_i64
  go_enter Try.func75, Try.ntmps75
  go_wp2_with fail
  have HD0 := Lib.hid (D1.lit HF.out.src)
  go_loopw [5, 6] (fun o i wr => ∃ (ge ce : Nat) (Z : List Int), o = .slice (some ⟨ge, 0, none⟩) Z.length ce ∧ i = .int .i64 (Z.length : Int) ∧ Z.length ≤ L.length ∧ D1 w s ge ce Z.length Z wr) (fun _ i _ => L.length - (intOf i).toNat)
  case atStart => exact ⟨w.heap.size, 0, [], rfl, rfl, by simp, HD0.out⟩
  case round =>
    obtain ⟨ge, ce, Z, rfl, rfl, hZL, hD⟩ := hrel
    have HD := Lib.hid hD
    clear hD HD0
    by_cases hlt1 : Z.length < L.length
    · have HFr := Lib.hid (HF.out.draw hsB HD.out.src HD.out.grw)
      obtain ⟨g, d, hc, hld, -, -, hcs⟩ := HFr.out.cell Z.length hlt1
      have hl8 := HR8.out _ hlt1
      obtain ⟨n, hn⟩ : ∃ n, (gR L Z.length).length = n := ⟨_, rfl⟩
      have HN := Lib.hid hn
      rw [hn] at hc hld hl8 hcs
      have HCS := Lib.hid hcs
      clear hn hcs
      have hzl : (Z.length : Int) < (L.length : Int) := by omega
      go_wp2_with fail
      refine (nxt_any _ s _ HD.out.src).mono ?_
      rintro e w1 ⟨x, rfl, hx0, hx1, hx2, hs, hg⟩
      have hx : x ≤ n := by by_cases h1 : (1 : Int) < (n : Int) + 1; (have := hx1 h1; omega); (have := hx2 (by omega); omega)
      replace HD := Lib.hid (HD.out.draw hlt hs hg)
      have HFw := Lib.hid (HF.out.draw hsB HD.out.src HD.out.grw)
      clear hs hg hx1 hx2 HFr hc
      obtain ⟨g, d, hc, hld, -, -, hcs⟩ := HFw.out.cell Z.length hlt1
      rw [HN.out] at hc hld hcs
      by_cases hx00 : x = 0
      · subst hx00
        clear hc hcs
        go_wp2_with (at_builtin; refine wpList_append_lies _ rfl _ _ 38 rfl _ 2 i0 (.int .i64 0) 1 8 Try.underlying38 hi hz0 hz1 hz2 rfl (by decide) (.slice (some ⟨ge, 0, none⟩) Z.length ce) Z.length (Z.map iv4) rfl (HD.out.row.alloc _) ⟨w1.heap.size, 0, none⟩ 1 1 [.int .i64 (-1)] rfl rfl (World.news_of_block (cs := #[.int .i64 (-1)]) (t := 2) (fr := (0, 0)) (heap_alloc_new w1 _)) (by simp [Value.oneCell']) (by decide) (by unfold maxLen; omega) (by omega) (by have := HD.out.grw.size; simp; omega) (w1.heap.size + 1) (by simp) ?_; intro g2 cp2 w9 hown hgrow hat hlt9; have HD9 := Lib.hid (HD.out.put hlt hown hgrow); clear hown hgrow hat hlt9)
        go_roundw
        case rel => exact ⟨g2, cp2, Z ++ [(-1)], by rw [List.length_append]; rfl, by rw [len_snocI] <;> go_num, by rw [List.length_append]; simp <;> omega, by rw [List.length_append]; exact HD9.out⟩
        case measure => simp [intOf] <;> omega
      · obtain ⟨j, rfl⟩ : ∃ j : Nat, x = (j : Int) + 1 := ⟨(x - 1).toNat, by omega⟩
        have hjn : j < n := by omega
        have hjn2 : (j : Int) < (n : Int) := by omega
        have hcj := hcs j hjn
        obtain ⟨y, hy⟩ : ∃ y, (gR L Z.length).getD j 0 = y := ⟨_, rfl⟩
        rw [hy] at hcj
        clear hy hcs
        have KH := Lib.hid (lhs_any w1 _ (some ⟨ge, 0, none⟩) ce Z.length Z (j : Int) rfl (by omega) HD.out.ints)
        by_cases hy0 : y < 0
        · skip
          go_wp2_with fail
          refine (nxt_any _ s 8 HD.out.src).mono ?_
          rintro e w2 ⟨z, rfl, hz00, -, -, hs, hg⟩
          replace HD := Lib.hid (HD.out.draw hlt hs hg)
          clear hs hg
          by_cases hz : 0 < z
          · skip
            go_wp2_with (at_builtin; refine wpList_append_lies _ rfl _ _ 38 rfl _ 2 i0 (.int .i64 0) 1 8 Try.underlying38 hi hz0 hz1 hz2 rfl (by decide) (.slice (some ⟨ge, 0, none⟩) Z.length ce) Z.length (Z.map iv4) rfl (HD.out.row.alloc _) ⟨w2.heap.size, 0, none⟩ 1 1 [.int .i64 (-1)] rfl rfl (World.news_of_block (cs := #[.int .i64 (-1)]) (t := 2) (fr := (0, 0)) (heap_alloc_new w2 _)) (by simp [Value.oneCell']) (by decide) (by unfold maxLen; omega) (by omega) (by have := HD.out.grw.size; simp; omega) (w2.heap.size + 1) (by simp) ?_; intro g2 cp2 w9 hown hgrow hat hlt9; have HD9 := Lib.hid (HD.out.put hlt hown hgrow); clear hown hgrow hat hlt9)
            go_roundw
            case rel => exact ⟨g2, cp2, Z ++ [(-1)], by rw [List.length_append]; rfl, by rw [len_snocI] <;> go_num, by rw [List.length_append]; simp <;> omega, by rw [List.length_append]; exact HD9.out⟩
            case measure => simp [intOf] <;> omega
          · skip
            go_wp2_with (at_builtin; refine wpList_append_lies _ rfl _ _ 38 rfl _ 2 i0 (.int .i64 0) 1 8 Try.underlying38 hi hz0 hz1 hz2 rfl (by decide) (.slice (some ⟨ge, 0, none⟩) Z.length ce) Z.length (Z.map iv4) rfl (HD.out.row.alloc _) ⟨w2.heap.size, 0, none⟩ 1 1 [.int .i64 (j : Int)] rfl rfl (World.news_of_block (cs := #[.int .i64 (j : Int)]) (t := 2) (fr := (0, 0)) (heap_alloc_new w2 _)) (by simp [Value.oneCell']) (by decide) (by unfold maxLen; omega) (by omega) (by have := HD.out.grw.size; simp; omega) (w2.heap.size + 1) (by simp) ?_; intro g2 cp2 w9 hown hgrow hat hlt9; have HD9 := Lib.hid (HD.out.put hlt hown hgrow); clear hown hgrow hat hlt9)
            go_roundw
            case rel => exact ⟨g2, cp2, Z ++ [(j : Int)], by rw [List.length_append]; rfl, by rw [len_snocI] <;> go_num, by rw [List.length_append]; simp <;> omega, by rw [List.length_append]; exact HD9.out⟩
            case measure => simp [intOf] <;> omega
        · cases hb : decide ((j : Int) ∈ Z)
          · rw [hb] at KH
            clear hb
            go_wp2_with (first | (go_at_call 90; (with_reducible refine Calls.mono KH.out ?_); rintro e w' ⟨rfl, rfl⟩) | (at_builtin; refine wpList_append_lies _ rfl _ _ 38 rfl _ 2 i0 (.int .i64 0) 1 8 Try.underlying38 hi hz0 hz1 hz2 rfl (by decide) (.slice (some ⟨ge, 0, none⟩) Z.length ce) Z.length (Z.map iv4) rfl (HD.out.row.alloc _) ⟨w1.heap.size, 0, none⟩ 1 1 [.int .i64 (j : Int)] rfl rfl (World.news_of_block (cs := #[.int .i64 (j : Int)]) (t := 2) (fr := (0, 0)) (heap_alloc_new w1 _)) (by simp [Value.oneCell']) (by decide) (by unfold maxLen; omega) (by omega) (by have := HD.out.grw.size; simp; omega) (w1.heap.size + 1) (by simp) ?_; intro g2 cp2 w9 hown hgrow hat hlt9; have HD9 := Lib.hid (HD.out.put hlt hown hgrow); clear hown hgrow hat hlt9))
            go_roundw
            case rel => exact ⟨g2, cp2, Z ++ [(j : Int)], by rw [List.length_append]; rfl, by rw [len_snocI] <;> go_num, by rw [List.length_append]; simp <;> omega, by rw [List.length_append]; exact HD9.out⟩
            case measure => simp [intOf] <;> omega
          · rw [hb] at KH
            clear hb
            go_wp2_with (go_at_call 90; (with_reducible refine Calls.mono KH.out ?_); rintro e w' ⟨rfl, rfl⟩)
            refine (nxt_any _ s 8 HD.out.src).mono ?_
            rintro e w2 ⟨z, rfl, hz00, -, -, hs, hg⟩
            replace HD := Lib.hid (HD.out.draw hlt hs hg)
            clear hs hg
            by_cases hz : 0 < z
            · skip
              go_wp2_with (at_builtin; refine wpList_append_lies _ rfl _ _ 38 rfl _ 2 i0 (.int .i64 0) 1 8 Try.underlying38 hi hz0 hz1 hz2 rfl (by decide) (.slice (some ⟨ge, 0, none⟩) Z.length ce) Z.length (Z.map iv4) rfl (HD.out.row.alloc _) ⟨w2.heap.size, 0, none⟩ 1 1 [.int .i64 (-1)] rfl rfl (World.news_of_block (cs := #[.int .i64 (-1)]) (t := 2) (fr := (0, 0)) (heap_alloc_new w2 _)) (by simp [Value.oneCell']) (by decide) (by unfold maxLen; omega) (by omega) (by have := HD.out.grw.size; simp; omega) (w2.heap.size + 1) (by simp) ?_; intro g2 cp2 w9 hown hgrow hat hlt9; have HD9 := Lib.hid (HD.out.put hlt hown hgrow); clear hown hgrow hat hlt9)
              go_roundw
              case rel => exact ⟨g2, cp2, Z ++ [(-1)], by rw [List.length_append]; rfl, by rw [len_snocI] <;> go_num, by rw [List.length_append]; simp <;> omega, by rw [List.length_append]; exact HD9.out⟩
              case measure => simp [intOf] <;> omega
            · skip
              go_wp2_with (at_builtin; refine wpList_append_lies _ rfl _ _ 38 rfl _ 2 i0 (.int .i64 0) 1 8 Try.underlying38 hi hz0 hz1 hz2 rfl (by decide) (.slice (some ⟨ge, 0, none⟩) Z.length ce) Z.length (Z.map iv4) rfl (HD.out.row.alloc _) ⟨w2.heap.size, 0, none⟩ 1 1 [.int .i64 (j : Int)] rfl rfl (World.news_of_block (cs := #[.int .i64 (j : Int)]) (t := 2) (fr := (0, 0)) (heap_alloc_new w2 _)) (by simp [Value.oneCell']) (by decide) (by unfold maxLen; omega) (by omega) (by have := HD.out.grw.size; simp; omega) (w2.heap.size + 1) (by simp) ?_; intro g2 cp2 w9 hown hgrow hat hlt9; have HD9 := Lib.hid (HD.out.put hlt hown hgrow); clear hown hgrow hat hlt9)
              go_roundw
              case rel => exact ⟨g2, cp2, Z ++ [(j : Int)], by rw [List.length_append]; rfl, by rw [len_snocI] <;> go_num, by rw [List.length_append]; simp <;> omega, by rw [List.length_append]; exact HD9.out⟩
              case measure => simp [intOf] <;> omega
    · have hzl : ¬ (Z.length : Int) < (L.length : Int) := by omega
      go_wp2_with fail
      refine (nxt_any _ s 24 HD.out.src).mono ?_
      rintro e w1 ⟨t, rfl, -, -, -, hs, hg⟩
      replace HD := Lib.hid (HD.out.draw hlt hs hg)
      clear hs hg
      by_cases ht : t = 0
      · subst ht
        go_wp2_with (at_builtin; refine wpList_append_lies _ rfl _ _ 38 rfl _ 2 i0 (.int .i64 0) 1 8 Try.underlying38 hi hz0 hz1 hz2 rfl (by decide) (.slice (some ⟨ge, 0, none⟩) Z.length ce) Z.length (Z.map iv4) rfl (HD.out.row.alloc _) ⟨w1.heap.size, 0, none⟩ 1 1 [.int .i64 (-1)] rfl rfl (World.news_of_block (cs := #[.int .i64 (-1)]) (t := 2) (fr := (0, 0)) (heap_alloc_new w1 _)) (by simp [Value.oneCell']) (by decide) (by unfold maxLen; omega) (by omega) (by have := HD.out.grw.size; simp; omega) (w1.heap.size + 1) (by simp) ?_; intro g2 cp2 w9 hown hgrow hat hlt9; have HD9 := Lib.hid (HD.out.put hlt hown hgrow); clear hown hgrow hat hlt9)
        go_ret
        exact ⟨g2, cp2, Z ++ [-1], by rw [List.length_append]; rfl, by rw [List.length_append]; simp <;> omega, by rw [List.length_append]; exact HD9.out.cap, by rw [List.length_append]; exact HD9.out⟩
      · have hd : (t == 0) = false := by simpa using ht
        go_wp2_with fail
        go_ret
        exact ⟨ge, ce, Z, rfl, by omega, HD.out.cap, HD.out⟩
/-- costs that were drawn, with a miss, with a pairing -/
def CstD (w : World) (e : Ending) (w' : World) : Prop := ∃ (G c : Nat) (L : List (List Int)), e = .returned (.slice (some ⟨G, 0, none⟩) L.length c) ∧ L.length ≤ 8 ∧ (∀ j, j < L.length → (gR L j).length ≤ 8) ∧ L.length ≤ c ∧ RwL w' w'.heap.size (some ⟨G, 0, none⟩) L ∧ Below w.heap.size w w'
def CsmD (w : World) (e : Ending) (w' : World) : Prop := ∃ (G c : Nat) (L : List (List Int)) (m : Int), e = .returned (.tuple #[.slice (some ⟨G, 0, none⟩) L.length c, .int .i64 m]) ∧ L.length ≤ 8 ∧ (∀ j, j < L.length → (gR L j).length ≤ 8) ∧ RwL w' w'.heap.size (some ⟨G, 0, none⟩) L ∧ Below w.heap.size w w'
def CspD (w : World) (e : Ending) (w' : World) : Prop := ∃ (G c : Nat) (L : List (List Int)) (g d : Nat) (Z : List Int), e = .returned (.tuple #[.slice (some ⟨G, 0, none⟩) L.length c, .slice (some ⟨g, 0, none⟩) Z.length d]) ∧ L.length ≤ 8 ∧ (∀ j, j < L.length → (gR L j).length ≤ 8) ∧ Z.length ≤ 9 ∧ Z.length ≤ d ∧ RwL w' w'.heap.size (some ⟨G, 0, none⟩) L ∧ Ints .i64 w' w'.heap.size (some ⟨g, 0, none⟩) Z ∧ Below w.heap.size w w'
def CsmpD (w : World) (e : Ending) (w' : World) : Prop := ∃ (G c : Nat) (L : List (List Int)) (m : Int) (g d : Nat) (Z : List Int), e = .returned (.tuple #[.slice (some ⟨G, 0, none⟩) L.length c, .int .i64 m, .slice (some ⟨g, 0, none⟩) Z.length d]) ∧ L.length ≤ 8 ∧ (∀ j, j < L.length → (gR L j).length ≤ 8) ∧ Z.length ≤ 9 ∧ Z.length ≤ d ∧ RwL w' w'.heap.size (some ⟨G, 0, none⟩) L ∧ Ints .i64 w' w'.heap.size (some ⟨g, 0, none⟩) Z ∧ Below w.heap.size w w'
set_option maxRecDepth 100000 in
set_option maxHeartbeats 4000000 in
theorem dac_any (w : World) (a0 : Option Addr) (cap : Nat) (zs : List Int) (hc : Code8 w w.heap.size a0 zs) :
    Calls Try.prog 48 #[.slice a0 zs.length cap] w (CstD w) := by
  have HC := Lib.hid hc
  clear hc
  go_enter Try.func48, Try.ntmps48
  go_wp2_with fail
  refine (from_any w a0 cap zs HC.out).mono ?_
  rintro e w0 ⟨s, rfl, hsl, hs, hb0⟩
  have HS0 := Lib.hid hs
  have HB0 := Lib.hid hb0
  have hlt := hs.lt
  clear hs hb0
  go_wp2_with fail
  refine (drw_any w0 s HS0.out).mono ?_
  rintro e w1 ⟨G, c, L, rfl, h8, hr8, hcap, hF⟩
  have HF := Lib.hid hF
  have HR8 := Lib.hid hr8
  clear hF hr8
  go_wp2_with fail
  go_ret
  exact ⟨G, c, L, rfl, h8, HR8.out, hcap, HF.out.rows, HB0.out.trans (below_of_grown HF.out.grw hsl HB0.out.size)⟩
set_option maxRecDepth 100000 in
set_option maxHeartbeats 4000000 in
theorem dcp_any (w : World) (a0 : Option Addr) (cap : Nat) (zs : List Int) (hc : Code8 w w.heap.size a0 zs) :
    Calls Try.prog 45 #[.slice a0 zs.length cap] w (CstD w) := by
  have HC := Lib.hid hc
  clear hc
  go_enter Try.func45, Try.ntmps45
  go_wp2_with fail
  refine (from_any w a0 cap zs HC.out).mono ?_
  rintro e w0 ⟨s, rfl, hsl, hs, hb0⟩
  have HS0 := Lib.hid hs
  have HB0 := Lib.hid hb0
  have hlt := hs.lt
  clear hs hb0
  go_wp2_with fail
  refine (drw_any w0 s HS0.out).mono ?_
  rintro e w1 ⟨G, c, L, rfl, h8, hr8, hcap, hF⟩
  have HF := Lib.hid hF
  have HR8 := Lib.hid hr8
  clear hF hr8
  go_wp2_with fail
  go_ret
  exact ⟨G, c, L, rfl, h8, HR8.out, hcap, HF.out.rows, HB0.out.trans (below_of_grown HF.out.grw hsl HB0.out.size)⟩
set_option maxRecDepth 100000 in
set_option maxHeartbeats 4000000 in
theorem dbp_any (w : World) (a0 : Option Addr) (cap : Nat) (zs : List Int) (hc : Code8 w w.heap.size a0 zs) :
    Calls Try.prog 88 #[.slice a0 zs.length cap] w (CsmD w) := by
  have HC := Lib.hid hc
  clear hc
  go_enter Try.func88, Try.ntmps88
  go_wp2_with fail
  refine (from_any w a0 cap zs HC.out).mono ?_
  rintro e w0 ⟨s, rfl, hsl, hs, hb0⟩
  have HS0 := Lib.hid hs
  have HB0 := Lib.hid hb0
  have hlt := hs.lt
  clear hs hb0
  go_wp2_with fail
  refine (drw_any w0 s HS0.out).mono ?_
  rintro e w1 ⟨G, c, L, rfl, h8, hr8, hcap, hF⟩
  have HF := Lib.hid hF
  have HR8 := Lib.hid hr8
  clear hF hr8
  go_wp2_with fail
  refine (dmi_any _ s HF.out.src).mono ?_
  rintro e w2 ⟨m, rfl, hs, hg⟩
  replace HF := Lib.hid (HF.out.draw hlt hs hg)
  clear hs hg
  go_wp2_with fail
  go_ret2
  exact ⟨G, c, L, m, rfl, h8, HR8.out, HF.out.rows, HB0.out.trans (below_of_grown HF.out.grw hsl HB0.out.size)⟩
set_option maxRecDepth 100000 in
set_option maxHeartbeats 4000000 in
theorem dip_any (w : World) (a0 : Option Addr) (cap : Nat) (zs : List Int) (hc : Code8 w w.heap.size a0 zs) :
    Calls Try.prog 91 #[.slice a0 zs.length cap] w (CspD w) := by
  have HC := Lib.hid hc
  clear hc
  go_enter Try.func91, Try.ntmps91
  go_wp2_with fail
  refine (from_any w a0 cap zs HC.out).mono ?_
  rintro e w0 ⟨s, rfl, hsl, hs, hb0⟩
  have HS0 := Lib.hid hs
  have HB0 := Lib.hid hb0
  have hlt := hs.lt
  clear hs hb0
  go_wp2_with fail
  refine (drw_any w0 s HS0.out).mono ?_
  rintro e w1 ⟨G, c, L, rfl, h8, hr8, hcap, hF⟩
  have HF := Lib.hid hF
  have HR8 := Lib.hid hr8
  clear hF hr8
  go_wp2_with fail
  refine (dpr_any w0 _ s G c L hlt h8 HR8.out HF.out).mono ?_
  rintro e w3 ⟨g, d, Z, rfl, hz9, hzd, hD⟩
  replace HF := Lib.hid (HF.out.draw hlt hD.src hD.grw)
  have HZ := Lib.hid hD.ints
  clear hD
  go_wp2_with fail
  go_ret2
  exact ⟨G, c, L, g, d, Z, rfl, h8, HR8.out, hz9, hzd, HF.out.rows, HZ.out, HB0.out.trans (below_of_grown HF.out.grw hsl HB0.out.size)⟩
set_option maxRecDepth 100000 in
set_option maxHeartbeats 4000000 in
theorem dsp_any (w : World) (a0 : Option Addr) (cap : Nat) (zs : List Int) (hc : Code8 w w.heap.size a0 zs) :
    Calls Try.prog 27 #[.slice a0 zs.length cap] w (CsmpD w) := by
  have HC := Lib.hid hc
  clear hc
  go_enter Try.func27, Try.ntmps27
  go_wp2_with fail
  refine (from_any w a0 cap zs HC.out).mono ?_
  rintro e w0 ⟨s, rfl, hsl, hs, hb0⟩
  have HS0 := Lib.hid hs
  have HB0 := Lib.hid hb0
  have hlt := hs.lt
  clear hs hb0
  go_wp2_with fail
  refine (drw_any w0 s HS0.out).mono ?_
  rintro e w1 ⟨G, c, L, rfl, h8, hr8, hcap, hF⟩
  have HF := Lib.hid hF
  have HR8 := Lib.hid hr8
  clear hF hr8
  go_wp2_with fail
  refine (dmi_any _ s HF.out.src).mono ?_
  rintro e w2 ⟨m, rfl, hs, hg⟩
  replace HF := Lib.hid (HF.out.draw hlt hs hg)
  clear hs hg
  go_wp2_with fail
  refine (dpr_any w0 _ s G c L hlt h8 HR8.out HF.out).mono ?_
  rintro e w3 ⟨g, d, Z, rfl, hz9, hzd, hD⟩
  replace HF := Lib.hid (HF.out.draw hlt hD.src hD.grw)
  have HZ := Lib.hid hD.ints
  clear hD
  go_wp2_with fail
  go_ret3
  exact ⟨G, c, L, m, g, d, Z, rfl, h8, HR8.out, hz9, hzd, HF.out.rows, HZ.out, HB0.out.trans (below_of_grown HF.out.grw hsl HB0.out.size)⟩
set_option maxRecDepth 100000 in
set_option maxHeartbeats 4000000 in
theorem dgp_any (w : World) (a0 : Option Addr) (cap : Nat) (zs : List Int) (hc : Code8 w w.heap.size a0 zs) :
    Calls Try.prog 38 #[.slice a0 zs.length cap] w (CsmD w) := by
  have HC := Lib.hid hc
  clear hc
  go_enter Try.func38, Try.ntmps38
  go_wp2_with fail
  refine (dbp_any w a0 cap zs HC.out).mono ?_
  rintro e w1 ⟨G, c, L, m, rfl, h8, hr8, hx, hb⟩
  have HX := Lib.hid hx
  have HB := Lib.hid hb
  have HR8 := Lib.hid hr8
  clear hx hb hr8
  go_wp2_with fail
  go_ret2
  exact ⟨G, c, L, m, rfl, h8, HR8.out, HX.out, HB.out⟩
set_option maxRecDepth 100000 in
set_option maxHeartbeats 4000000 in
theorem dfc_any (w : World) (a0 : Option Addr) (cap : Nat) (zs : List Int) (hc : Code8 w w.heap.size a0 zs) :
    Calls Try.prog 41 #[.slice a0 zs.length cap] w (CspD w) := by
  have HC := Lib.hid hc
  clear hc
  go_enter Try.func41, Try.ntmps41
  go_wp2_with fail
  refine (dip_any w a0 cap zs HC.out).mono ?_
  rintro e w1 ⟨G, c, L, g, d, Z, rfl, h8, hr8, hz9, hzd, hx, hz, hb⟩
  have HX := Lib.hid hx
  have HB := Lib.hid hb
  have HR8 := Lib.hid hr8
  have HZ := Lib.hid hz
  clear hz
  clear hx hb hr8
  go_wp2_with fail
  go_ret2
  exact ⟨G, c, L, g, d, Z, rfl, h8, HR8.out, hz9, hzd, HX.out, HZ.out, HB.out⟩
end Go.Proofs.Ytlahgdhofakinaa
