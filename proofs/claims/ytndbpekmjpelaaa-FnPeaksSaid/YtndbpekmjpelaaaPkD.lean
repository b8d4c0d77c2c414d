/- Contracts of the model's draws of traces. -/
import Derived.Test.YtndbpekmjpelaaaPuD
namespace Go.Proofs.Ytndbpekmjpelaaa
open Go.ChangeShapes Go.WideShapes Go.ChangeAt Go.RowKit Go.Shelf Num
set_option linter.unusedVariables false
set_option linter.unusedSimpArgs false
/-- a trace drawn -/
def TrcD (w : World) (s : Nat) (e : Ending) (w' : World) : Prop := ∃ (g c n : Nat) (ps : List Int), e = .returned (.slice (some ⟨g, 0, none⟩) n c) ∧ n ≤ 20 ∧ D1 w s g c n ps w'
set_option maxRecDepth 100000 in
set_option maxHeartbeats 4000000 in
theorem dtr_any (w : World) (s : Nat) (h : Src w s) :
    Calls Try.prog 31 #[.pointer (some ⟨s, 0, none⟩)] w (TrcD w s) := by
  have hlt := h.lt
  have HS := Lib.hid h
  clear h
  obtain ⟨i0, hi, hz0, hz1, hz2⟩ := info_parts info_i64
  go_enter Try.func31, Try.ntmps31
  go_upto_region 2 with fail
  have HD := Lib.hid (D1.lit HS.out)
  obtain ⟨W, hW⟩ : ∃ X, X = w.alloc (.cells #[] 2) := ⟨_, rfl⟩
  rw [← hW] at HD ⊢
  clear hW
  go_wp2_with fail
  refine (nxt_any _ _ _ HD.out.src).mono ?_
  rintro e w1 ⟨x, rfl, hx0, hx1, -, hs, hg⟩
  have hx := hx1 (by omega)
  replace HD := Lib.hid (HD.out.draw hlt hs hg)
  clear hs hg hx1
  go_wp2_with fail
  go_loopw [3, 4] (fun v y wr => ∃ (ge ce n : Nat) (L : List Int) (r : Int), v = .slice (some ⟨ge, 0, none⟩) n ce ∧ y = .int .i64 r ∧ 0 ≤ r ∧ ((n : Int) + r ≤ 19) ∧ D1 w s ge ce n L wr) (fun _ y _ => (intOf y).toNat)
  case atStart => exact ⟨w.heap.size, 0, 0, [], x, rfl, rfl, by omega, by simp; omega, HD.out⟩
  case round =>
    obtain ⟨ge, ce, n, Lx, r, rfl, rfl, hr0, hrm, hD⟩ := hrel
    replace HD := Lib.hid hD
    clear hD
    by_cases hr : 0 < r
    · go_wp2_with fail
      refine (nxt_any _ _ _ HD.out.src).mono ?_
      rintro e wa ⟨a, rfl, ha0, ha1, -, hs, hg⟩
      have ha := ha1 (by omega)
      replace HD := Lib.hid (HD.out.draw hlt hs hg)
      clear hs hg ha1
      go_wp2_with fail
      refine (nxt_any _ _ _ HD.out.src).mono ?_
      rintro e wb ⟨b, rfl, hb0, hb1, -, hs, hg⟩
      have hb := hb1 (by omega)
      replace HD := Lib.hid (HD.out.draw hlt hs hg)
      clear hs hg hb1
      go_wp2_with fail
      refine (pick_new _ s 2 2 [a - 20, b - 2] _ HD.out.src rfl (by omega) (by omega) ?hc).mono ?_
      case hc => intro j hj; match j, hj with
        | 0, _ => rfl
        | 1, _ => rfl
      rintro e wz ⟨j, hj, rfl, hs, hg⟩
      replace HD := Lib.hid ((HD.out.al _).draw hlt hs hg)
      clear hs hg
      obtain ⟨z, hz⟩ : ∃ z : Int, [a - 20, b - 2].getD j 0 = z := ⟨_, rfl⟩
      rw [hz]
      clear hz hj
      go_wp2_with (at_builtin; refine wpList_append_lies _ rfl _ _ 22 rfl w.heap.size 2 i0 (.int .i64 0) 1 8 Try.underlying22 hi hz0 hz1 hz2 rfl (by decide) (.slice (some ⟨ge, 0, none⟩) n ce) (n) ((Lx).map iv4) rfl (HD.out.row.alloc _) ⟨wz.heap.size, 0, none⟩ 1 1 [.int .i64 (z)] rfl rfl (World.news_of_block (cs := #[.int .i64 (z)]) (t := 2) (fr := (0, 0)) (heap_alloc_new wz _)) (by simp [Value.oneCell']) (by decide) (by unfold maxLen; omega) (by omega) (by simp; exact Nat.le_succ_of_le HD.out.grw.size) (wz.heap.size + 1) (by simp) ?_; intro g2 cp2 w9 hown hgrow hat hlt9; have HD9 := Lib.hid (HD.out.put hlt hown hgrow); clear hown hgrow hat hlt9)
      go_wp2_with fail
      go_roundw
      case rel => exact ⟨g2, cp2, n + 1, Lx ++ [z], r - 1, rfl, rfl, by omega, by omega, HD9.out⟩
      case measure => simp [intOf]; omega
    · go_wp2_with fail
      refine (nxt_any _ _ _ HD.out.src).mono ?_
      rintro e wa ⟨a, rfl, ha0, ha1, -, hs, hg⟩
      replace HD := Lib.hid (HD.out.draw hlt hs hg)
      clear hs hg ha1
      by_cases hc : a = 0
      · subst hc
        go_wp2_with fail
        refine (dv_any _ _ HD.out.src).mono ?_
        rintro e wz ⟨z, rfl, -, hs, hg⟩
        replace HD := Lib.hid (HD.out.draw hlt hs hg)
        clear hs hg
        go_wp2_with (at_builtin; refine wpList_append_lies _ rfl _ _ 22 rfl w.heap.size 2 i0 (.int .i64 0) 1 8 Try.underlying22 hi hz0 hz1 hz2 rfl (by decide) (.slice (some ⟨ge, 0, none⟩) n ce) (n) ((Lx).map iv4) rfl (HD.out.row.alloc _) ⟨wz.heap.size, 0, none⟩ 1 1 [.int .i64 (z)] rfl rfl (World.news_of_block (cs := #[.int .i64 (z)]) (t := 2) (fr := (0, 0)) (heap_alloc_new wz _)) (by simp [Value.oneCell']) (by decide) (by unfold maxLen; omega) (by omega) (by simp; exact Nat.le_succ_of_le HD.out.grw.size) (wz.heap.size + 1) (by simp) ?_; intro g2 cp2 w9 hown hgrow hat hlt9; have HD9 := Lib.hid (HD.out.put hlt hown hgrow); clear hown hgrow hat hlt9)
        go_ret
        exact ⟨g2, cp2, n + 1, Lx ++ [z], rfl, by omega, HD9.out⟩
      · go_wp2
        go_ret
        exact ⟨ge, ce, n, Lx, rfl, by omega, HD.out⟩
theorem dpk_any (w : World) (a : Option Addr) (cap : Nat) (zs : List Int) (h : Code8 w w.heap.size a zs) :
    Calls Try.prog 12 #[.slice a zs.length cap] w fun e w' => ∃ (g c : Nat) (ps : List Int), e = .returned (.slice (some ⟨g, 0, none⟩) ps.length c) ∧ ps.length ≤ 20 ∧ ps.length ≤ c ∧ Ints .i64 w' w'.heap.size (some ⟨g, 0, none⟩) ps ∧ Below w.heap.size w w' := by
  have H := Lib.hid h
  clear h
  go_enter Try.func12, Try.ntmps12
  go_wp2_with fail
  refine (from_any _ _ _ zs H.out).mono ?_
  rintro e w1 ⟨s, rfl, hs, hsrc, hb⟩
  have HS := Lib.hid hsrc
  have HB := Lib.hid hb
  clear hsrc hb
  go_wp2_with fail
  refine (dtr_any _ _ HS.out).mono ?_
  rintro e w2 ⟨g, c, n, ps, rfl, hn, hd⟩
  have HD := Lib.hid hd
  clear hd
  go_wp2
  go_ret
  have hl := HD.out.len
  exact ⟨g, c, ps, by rw [hl]; rfl, by omega, by rw [hl]; exact HD.out.cap, HD.out.ints, HD.out.below HB.out hs⟩
def TrcP (w : World) (e : Ending) (w' : World) : Prop := ∃ (g c : Nat) (ps : List Int) (th gd : Int), e = .returned (.tuple #[.slice (some ⟨g, 0, none⟩) ps.length c, .int .i64 th, .int .i64 gd]) ∧ ps.length ≤ 20 ∧ ps.length ≤ c ∧ Ints .i64 w' w'.heap.size (some ⟨g, 0, none⟩) ps ∧ Below w.heap.size w w'
set_option maxRecDepth 100000 in
set_option maxHeartbeats 4000000 in
theorem dpo_any (w : World) (a : Option Addr) (cap : Nat) (zs : List Int) (h : Code8 w w.heap.size a zs) :
    Calls Try.prog 15 #[.slice a zs.length cap] w (TrcP w) := by
  have H := Lib.hid h
  clear h
  go_enter Try.func15, Try.ntmps15
  go_wp2_with fail
  refine (from_any _ _ _ zs H.out).mono ?_
  rintro e w1 ⟨s, rfl, hs, hsrc, hb⟩
  have HS := Lib.hid hsrc
  have HB := Lib.hid hb
  have hsl := hsrc.lt
  clear hsrc hb
  go_wp2_with fail
  refine (nxt_any _ _ _ HS.out).mono ?_
  rintro e w2 ⟨x, rfl, hx0, hx1, -, hsr, hg⟩
  have hx := hx1 (by omega)
  replace HB := Lib.hid (HB.out.trans (below_of_grown hg hs HB.out.size))
  replace HS := Lib.hid hsr
  clear hsr hg hx1
  go_wp2_with fail
  refine (nxt_any _ _ _ HS.out).mono ?_
  rintro e w3 ⟨y, rfl, hy0, hy1, -, hsr, hg⟩
  have hy := hy1 (by omega)
  replace HB := Lib.hid (HB.out.trans (below_of_grown hg hs HB.out.size))
  replace HS := Lib.hid hsr
  clear hsr hg hy1
  go_wp2_with fail
  refine (nxt_any _ _ _ HS.out).mono ?_
  rintro e w4 ⟨q, rfl, hq0, hq1, -, hsr, hg⟩
  replace HB := Lib.hid (HB.out.trans (below_of_grown hg hs HB.out.size))
  replace HS := Lib.hid hsr
  clear hsr hg hq1
  by_cases e0 : q = 0
  · subst e0
    go_wp2_with fail
    refine (pick_new _ s 3 3 [0, 1000000000000, 1000000000001] _ HS.out rfl (by omega) (by omega) ?hc).mono ?_
    case hc => intro j hj; match j, hj with
      | 0, _ => rfl
      | 1, _ => rfl
      | 2, _ => rfl
    rintro e w5 ⟨j, hj, rfl, hsr, hg⟩
    replace HB := Lib.hid ((HB.out.alloc HB.out.size _).trans (below_of_grown hg hs (by simp; exact Nat.le_succ_of_le HB.out.size)))
    replace HS := Lib.hid hsr
    clear hsr hg
    obtain ⟨z, hz⟩ : ∃ z : Int, [(0 : Int), 1000000000000, 1000000000001].getD j 0 = z := ⟨_, rfl⟩
    rw [hz]
    clear hz hj
    go_wp2_with fail
    refine (dtr_any _ _ HS.out).mono ?_
    rintro e w9 ⟨g, c, n, ps, rfl, hn, hd⟩
    have HD := Lib.hid hd
    clear hd
    go_wp2
    go_ret3
    have hl := HD.out.len
    exact ⟨g, c, ps, z, y, by rw [hl]; rfl, by omega, by rw [hl]; exact HD.out.cap, HD.out.ints, HD.out.below HB.out hs⟩
  · by_cases e1 : q = 1
    · subst e1
      go_wp2_with fail
      refine (pick_new _ s 3 3 [-1, 400, 401] _ HS.out rfl (by omega) (by omega) ?hc).mono ?_
      case hc => intro j hj; match j, hj with
        | 0, _ => rfl
        | 1, _ => rfl
        | 2, _ => rfl
      rintro e w5 ⟨j, hj, rfl, hsr, hg⟩
      replace HB := Lib.hid ((HB.out.alloc HB.out.size _).trans (below_of_grown hg hs (by simp; exact Nat.le_succ_of_le HB.out.size)))
      replace HS := Lib.hid hsr
      clear hsr hg
      obtain ⟨z, hz⟩ : ∃ z : Int, [(-1 : Int), 400, 401].getD j 0 = z := ⟨_, rfl⟩
      rw [hz]
      clear hz hj
      go_wp2_with fail
      refine (dtr_any _ _ HS.out).mono ?_
      rintro e w9 ⟨g, c, n, ps, rfl, hn, hd⟩
      have HD := Lib.hid hd
      clear hd
      go_wp2
      go_ret3
      have hl := HD.out.len
      exact ⟨g, c, ps, 1 + x, z, by rw [hl]; rfl, by omega, by rw [hl]; exact HD.out.cap, HD.out.ints, HD.out.below HB.out hs⟩
    · go_wp2_with fail
      refine (dtr_any _ _ HS.out).mono ?_
      rintro e w9 ⟨g, c, n, ps, rfl, hn, hd⟩
      have HD := Lib.hid hd
      clear hd
      go_wp2
      go_ret3
      have hl := HD.out.len
      exact ⟨g, c, ps, 1 + x, y, by rw [hl]; rfl, by omega, by rw [hl]; exact HD.out.cap, HD.out.ints, HD.out.below HB.out hs⟩
end Go.Proofs.Ytndbpekmjpelaaa
