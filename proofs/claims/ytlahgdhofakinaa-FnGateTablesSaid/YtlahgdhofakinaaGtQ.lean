/- The model's draw of the arguments of GateCosts. -/
import Derived.Test.YtlahgdhofakinaaGtT
namespace Go.Proofs.Ytlahgdhofakinaa
open Go.ChangeShapes Go.WideShapes Go.ChangeAt Go.RowKit Go.Shelf Num
set_option linter.unusedVariables false
set_option linter.unusedSimpArgs false

theorem info_M5 : (Try.prog.info? 32).map (fun i => (i.zero, i.size, i.bytes)) = some (some (.agg #[.int .i64 0, .int .i64 0, .int .i64 0, .int .i64 0, .int .i64 0]), 5, 40) := by kernel_rfl
/-- a row of motions of one's own that grows beside a source -/
structure DM (w : World) (s g c n : Nat) (L : List Int) (W : World) : Prop where
  row : W.ownsRow w.heap.size 32 5 (.slice (some ⟨g, 0, none⟩) n c) n (L.map iv4)
  src : Src W s
  grw : w.grownBy W (some s)
  len : L.length = n * 5
section
variable {w W W' : World} {s g c n : Nat} {L : List Int}
theorem DM.lo (h : DM w s g c n L W) : w.heap.size ≤ g ∧ g < W.heap.size := h.row.lt g rfl
theorem DM.lit (hs : Src w s) : DM w s w.heap.size 0 0 [] (w.alloc (.cells #[] 32)) :=
  ⟨World.ownsRow_lit (base := w.heap.size) (e := 32) (size := 5) w #[] 0 (Nat.le_refl _) (by decide) (by decide), hs.alloc _, grown_alloc (grown_refl _ _) _, rfl⟩
theorem DM.draw (h : DM w s g c n L W) (hs : s < w.heap.size) (h1 : Src W' s) (h2 : W.grownBy W' (some s)) : DM w s g c n L W' :=
  ⟨h.row.kept h2 (Or.inr (by have := h.lo; simp [Value.ownBlock]; omega)), h1, grown_trans h.grw h2, h.len⟩
theorem DM.al (h : DM w s g c n L W) (o : Obj) : DM w s g c n L (W.alloc o) := ⟨h.row.alloc o, h.src.alloc o, grown_alloc h.grw o, h.len⟩
theorem DM.on (h : DM w s g c n L W) (hs : s < w.heap.size) (hb : Below W.heap.size W W') : DM w s g c n L W' := h.draw hs (h.src.bel hb) (grown_bel (grown_refl _ _) hb)
theorem DM.put {w9 : World} {o : Obj} {g' c' : Nat} {x y u v t : Int} (h : DM w s g c n L W) (hs : s < w.heap.size) (hown : w9.ownsRow w.heap.size 32 5 (.slice (some ⟨g', 0, none⟩) (n + 1) c') (n + 1) (L.map iv4 ++ [.int .i64 x, .int .i64 y, .int .i64 u, .int .i64 v, .int .i64 t])) (hg : (W.alloc o).grownBy w9 (some g)) : DM w s g' c' (n + 1) (L ++ [x, y, u, v, t]) w9 :=
  ⟨by rw [List.map_append]; exact hown, srcS_far (h.al o).src hg (by have := h.lo; omega), grownS_far (h.al o).grw hg h.lo.1, by rw [List.length_append, h.len]; simp; omega⟩
theorem DM.cap (h : DM w s g c n L W) : n ≤ c := by
  rcases h.row.2 with ⟨hv, h0⟩ | ⟨g, cap, cur, hv, _, _, hle, _⟩
  · simp at hv
  · simp only [Value.slice.injEq] at hv; omega
/-- the motions of the row -/
def moL (L : List Int) (n : Nat) : List Mo := (List.range n).map (fun j => (L.getD (j * 5) 0, L.getD (j * 5 + 1) 0, L.getD (j * 5 + 2) 0, L.getD (j * 5 + 3) 0, L.getD (j * 5 + 4) 0))
theorem moL_len (L : List Int) (n : Nat) : (moL L n).length = n := by simp [moL]
theorem DM.mts (h : DM w s g c n L W) : Mts W W.heap.size (some ⟨g, 0, none⟩) (moL L n) := fun hp => by
  have hl := h.len
  refine ⟨g, 0, rfl, h.lo.2, fun j hj => ?_⟩
  have hj' : j < n := by rwa [moL_len] at hj
  have e : ∀ r, r < n * 5 → W.cell? ⟨g, r, none⟩ = some (.int .i64 (L.getD r 0)) := fun r hr => by
    rw [h.row.cellAt r (by omega), List.getElem?_map, List.getElem?_eq_getElem (by omega), List.getD_eq_getElem?_getD, List.getElem?_eq_getElem (by omega)]; rfl
  unfold moL
  rw [List.getD_eq_getElem?_getD, List.getElem?_map, List.getElem?_range hj', Nat.zero_add]
  exact ⟨e _ (by omega), e _ (by omega), e _ (by omega), e _ (by omega), e _ (by omega)⟩
theorem DM.first (h : DM w s g c n L W) (hn : 0 < n) : ∃ x y u v t : Int, W.cell? ⟨g, 0, none⟩ = some (.int .i64 x) ∧ W.cell? ⟨g, 1, none⟩ = some (.int .i64 y) ∧ W.cell? ⟨g, 2, none⟩ = some (.int .i64 u) ∧ W.cell? ⟨g, 3, none⟩ = some (.int .i64 v) ∧ W.cell? ⟨g, 4, none⟩ = some (.int .i64 t) := by
  have hl := h.len
  have e : ∀ r, r < n * 5 → W.cell? ⟨g, r, none⟩ = some (.int .i64 (L.getD r 0)) := fun r hr => by
    rw [h.row.cellAt r (by omega), List.getElem?_map, List.getElem?_eq_getElem (by omega), List.getD_eq_getElem?_getD, List.getElem?_eq_getElem (by omega)]; rfl
  exact ⟨_, _, _, _, _, e 0 (by omega), e 1 (by omega), e 2 (by omega), e 3 (by omega), e 4 (by omega)⟩
end
def GcD (w : World) (e : Ending) (w' : World) : Prop := ∃ (b a : Option Addr) (d c : Nat) (ms : List Mo) (ps : List (Int × Int)), e = .returned (.tuple #[.slice b ms.length d, .slice a ps.length c]) ∧ ms.length ≤ 7 ∧ ps.length ≤ 7 ∧ Mts w' w'.heap.size b ms ∧ Cts w' w'.heap.size a ps ∧ Below w.heap.size w w'

set_option maxRecDepth 100000 in
set_option maxHeartbeats 8000000 in
theorem dgs_any (w : World) (a0 : Option Addr) (cap : Nat) (zs : List Int) (h : Code8 w w.heap.size a0 zs) :
    Calls Try.prog 17 #[.slice a0 zs.length cap] w (GcD w) := by
  have HC := Lib.hid h
  clear h
  obtain ⟨i0, hi, hz0, hz1, hz2⟩ := info_parts info_M5
  go_enter Try.func17, Try.ntmps17
  go_wp2_with fail
  refine (from_any _ _ _ zs HC.out).mono ?_
  rintro e W ⟨s, rfl, hs, hsrc, hb⟩
  have HS := Lib.hid hsrc
  have HB := Lib.hid hb
  have HSL := Lib.hid hs
  have hlW : s < W.heap.size := hsrc.lt
  clear hsrc hb hs HC
  have HD := Lib.hid (DM.lit HS.out)
  obtain ⟨Z, hZ⟩ : ∃ X, X = W.alloc (.cells #[] 32) := ⟨_, rfl⟩
  go_wp2_with fail
  rw [← hZ] at HD ⊢
  clear hZ
  refine (nxt_any _ _ _ HD.out.src).mono ?_
  rintro e w1 ⟨r0, rfl, hr0, hr1, -, hs, hg⟩
  have hr4 := hr1 (by omega)
  replace HD := Lib.hid (HD.out.draw hlW hs hg)
  clear hs hg hr1
  go_wp2_with fail
  go_loopw [5, 6] (fun v y wr => ∃ (ge ce n : Nat) (L : List Int) (r : Int), v = .slice (some ⟨ge, 0, none⟩) n ce ∧ y = .int .i64 r ∧ 0 ≤ r ∧ (n : Int) + r ≤ 4 ∧ DM W s ge ce n L wr) (fun _ y _ => (intOf y).toNat)
  case atStart => exact ⟨W.heap.size, 0, 0, [], r0, rfl, rfl, hr0, by simp; omega, HD.out⟩
  case round =>
    obtain ⟨ge, ce, n, Lx, r, rfl, rfl, hr, hrm, hD⟩ := hrel
    clear HD
    have HD := Lib.hid hD
    clear hD
    by_cases hrp : 0 < r
    case pos =>
      go_wp2_with fail
      refine (dmo_any _ s HD.out.src).mono ?_
      rintro e wz ⟨x, y, u, v, t, rfl, hs, hg⟩
      replace HD := Lib.hid (HD.out.draw hlW hs hg)
      clear hs hg
      go_wp2_with (at_builtin; refine wpList_append_lies _ rfl _ _ 24 rfl _ 32 i0 (.agg #[.int .i64 0, .int .i64 0, .int .i64 0, .int .i64 0, .int .i64 0]) 5 40 Try.underlying24 hi hz0 hz1 hz2 rfl (by decide) (.slice (some ⟨ge, 0, none⟩) n ce) n (Lx.map iv4) rfl (HD.out.row.alloc _) ⟨wz.heap.size, 0, none⟩ 1 1 [.int .i64 x, .int .i64 y, .int .i64 u, .int .i64 v, .int .i64 t] rfl rfl (World.news_of_block (cs := #[.int .i64 x, .int .i64 y, .int .i64 u, .int .i64 v, .int .i64 t]) (t := 32) (fr := (0, 0)) (heap_alloc_new wz _)) (by simp [Value.oneCell']) (by decide) (by unfold maxLen; omega) (by omega) (by simp; exact Nat.le_succ_of_le HD.out.grw.size) (wz.heap.size + 1) (by simp) ?_; intro g2 cp2 w9 hown hgrow hat hlt9; have HD9 := Lib.hid (HD.out.put hlW hown hgrow); clear hown hgrow hat hlt9)
      go_wp2_with fail
      go_roundw
      case rel => exact ⟨g2, cp2, n + 1, Lx ++ [x, y, u, v, t], r - 1, rfl, rfl, by omega, by omega, HD9.out⟩
      case measure => simp [intOf]; omega
    case neg =>
      go_wp2_with fail
      refine (nxt_any _ _ _ HD.out.src).mono ?_
      rintro e w2 ⟨z, rfl, hz_0, -, -, hs, hg⟩
      replace HD := Lib.hid (HD.out.draw hlW hs hg)
      clear hs hg hz_0
      have hn4 : n ≤ 4 := by omega
      clear hr hrm hrp hr0 hr4
      by_cases h0 : z = 0
      case pos =>
        subst h0
        go_wp2_with fail
        go_loopw [5] (fun v wr => ∃ (ge ce n : Nat) (L : List Int), v = .slice (some ⟨ge, 0, none⟩) n ce ∧ n ≤ 7 ∧ DM W s ge ce n L wr) (fun v _ => 7 - lnOf v)
        case atStart => exact ⟨ge, ce, n, Lx, rfl, by omega, HD.out⟩
        case round =>
          clear HD hn4
          rename_i ge0 ce0 n0 Lx0 _
          obtain ⟨ge, ce, n, Lx, rfl, hn7, hD⟩ := hrel
          have HD := Lib.hid hD
          clear hD
          go_wp2_with fail
          refine (nxt_any _ _ _ HD.out.src).mono ?_
          rintro e w3 ⟨q, rfl, hq0, hq1, -, hs, hg⟩
          have hq := hq1 (by omega)
          replace HD := Lib.hid (HD.out.draw hlW hs hg)
          clear hs hg hq1
          by_cases hc : (n : Int) < 6 + q
          case pos =>
            go_wp2_with (at_builtin; refine wpList_append_lies _ rfl _ _ 24 rfl _ 32 i0 (.agg #[.int .i64 0, .int .i64 0, .int .i64 0, .int .i64 0, .int .i64 0]) 5 40 Try.underlying24 hi hz0 hz1 hz2 rfl (by decide) (.slice (some ⟨ge, 0, none⟩) n ce) n (Lx.map iv4) rfl (HD.out.row.alloc _) ⟨w3.heap.size, 0, none⟩ 1 1 [.int .i64 0, .int .i64 0, .int .i64 0, .int .i64 0, .int .i64 9] rfl rfl (World.news_of_block (cs := #[.int .i64 0, .int .i64 0, .int .i64 0, .int .i64 0, .int .i64 9]) (t := 32) (fr := (0, 0)) (heap_alloc_new w3 _)) (by simp [Value.oneCell']) (by decide) (by unfold maxLen; omega) (by omega) (by simp; exact Nat.le_succ_of_le HD.out.grw.size) (w3.heap.size + 1) (by simp) ?_; intro g2 cp2 w9 hown hgrow hat hlt9; have HD9 := Lib.hid (HD.out.put hlW hown hgrow); clear hown hgrow hat hlt9)
            go_wp2_with fail
            go_roundw
            case rel => exact ⟨g2, cp2, n + 1, _, rfl, by omega, HD9.out⟩
            case measure => (simp [lnOf] <;> omega)
          case neg =>
            by_cases hn0 : 0 < n
            case pos =>
              obtain ⟨y0, y1, y2, y3, y4, d0, d1, d2, d3, d4⟩ := HD.out.first hn0
              have hn0b : (0 : Int) < (n : Int) := by omega
              have hcap := HD.out.cap
              go_upto_region 11 with fail
              generalize hW : World.alloc _ _ = W3
              have bM : Bk W3 w3.heap.size #[.int .i64 0, .int .i64 0, .int .i64 0, .int .i64 0, .int .i64 30] 32 := by rw [← hW]; exact Bk.new' rfl
              have hb : Below w3.heap.size w3 W3 := by rw [← hW]; exact (by repeat (first | exact Below.refl _ _ | (refine Below.alloc ?_ (by simp <;> omega) _) | (refine Below.setCell ?_ (by simp <;> omega) _) | (refine Below.drew ?_) | (refine bel_drewN ?_ _)))
              clear hW
              have hgl := HD.out.lo.2
              replace d0 : W3.cell? ⟨ge, 0, none⟩ = some (.int .i64 y0) := (hb.cell (p := ⟨ge, 0, none⟩) hgl).trans d0
              replace d1 : W3.cell? ⟨ge, 1, none⟩ = some (.int .i64 y1) := (hb.cell (p := ⟨ge, 1, none⟩) hgl).trans d1
              replace d2 : W3.cell? ⟨ge, 2, none⟩ = some (.int .i64 y2) := (hb.cell (p := ⟨ge, 2, none⟩) hgl).trans d2
              replace d3 : W3.cell? ⟨ge, 3, none⟩ = some (.int .i64 y3) := (hb.cell (p := ⟨ge, 3, none⟩) hgl).trans d3
              replace d4 : W3.cell? ⟨ge, 4, none⟩ = some (.int .i64 y4) := (hb.cell (p := ⟨ge, 4, none⟩) hgl).trans d4
              have dl : ge < W3.heap.size := cell_lt d0
              have m0 := bM.cell 0 rfl
              have m1 := bM.cell 1 rfl
              have m2 := bM.cell 2 rfl
              have m3 := bM.cell 3 rfl
              have m4 := bM.cell 4 rfl
              have f0 := bM.frozen 0
              have f1 := bM.frozen 1
              have f2 := bM.frozen 2
              have f3 := bM.frozen 3
              have f4 := bM.frozen 4
              have ml := bM.lt
              have HB3 := Lib.hid hb
              have HM := Lib.hid bM
              clear hb bM
              go_upto_region 13 with fail
              clear d0 m0 f0 d1 m1 f1 d2 m2 f2 d3 m3 f3 d4 m4 f4 ml dl
              generalize hW : World.setCell _ _ _ = W4
              have bM : Bk W4 w3.heap.size #[.int .i64 y0, .int .i64 y1, .int .i64 y2, .int .i64 y3, .int .i64 y4] 32 := by rw [← hW]; exact (Bk.set (Bk.set (Bk.set (Bk.set (Bk.set HM.out 0 _ rfl) 1 _ rfl) 2 _ rfl) 3 _ rfl) 4 _ rfl)
              have hb : Below w3.heap.size w3 W4 := by rw [← hW]; exact (((((HB3.out.setCell (p := ⟨w3.heap.size, 0, none⟩) (Nat.le_refl _) _).setCell (p := ⟨w3.heap.size, 1, none⟩) (Nat.le_refl _) _).setCell (p := ⟨w3.heap.size, 2, none⟩) (Nat.le_refl _) _).setCell (p := ⟨w3.heap.size, 3, none⟩) (Nat.le_refl _) _).setCell (p := ⟨w3.heap.size, 4, none⟩) (Nat.le_refl _) _)
              clear hW
              replace HD := Lib.hid (HD.out.on hlW hb)
              clear hb
              have m0 := bM.cell 0 rfl
              have m1 := bM.cell 1 rfl
              have m2 := bM.cell 2 rfl
              have m3 := bM.cell 3 rfl
              have m4 := bM.cell 4 rfl
              have ml := bM.lt
              clear bM
              go_wp2_with fail
              clear m0 m1 m2 m3 m4 ml
              refine (dcs14_any _ s _ _ _ _ _ HD.out.src).mono ?_
              rintro e w8 ⟨g8, c8, n8, L8, rfl, h8, hK⟩
              have HK := Lib.hid hK
              replace HD := Lib.hid (HD.out.draw hlW hK.src hK.grw)
              clear hK
              go_wp2
              exact bodyPost_ret (v := .tuple #[.slice (some ⟨ge, 0, none⟩) n ce, .slice (some ⟨g8, 0, none⟩) n8 c8]) (by simp [results, Try.results17, go_sem]) rfl ⟨some ⟨ge, 0, none⟩, some ⟨g8, 0, none⟩, ce, c8, moL Lx n, prL L8 n8, by rw [moL_len, prL_len], by rw [moL_len]; omega, by rw [prL_len]; exact h8, HD.out.mts, HK.out.cts, HB.out.trans (below_of_grown HD.out.grw HSL.out HB.out.size)⟩
            case neg =>
              exfalso
              omega
      case neg =>
        have h0b : (z == 0) = false := by simpa using h0
        clear h0
        by_cases hn0 : 0 < n
        case pos =>
          obtain ⟨y0, y1, y2, y3, y4, d0, d1, d2, d3, d4⟩ := HD.out.first hn0
          have hn0b : (0 : Int) < (n : Int) := by omega
          have hcap := HD.out.cap
          go_upto_region 11 with fail
          generalize hW : World.alloc _ _ = W3
          have bM : Bk W3 w2.heap.size #[.int .i64 0, .int .i64 0, .int .i64 0, .int .i64 0, .int .i64 30] 32 := by rw [← hW]; exact Bk.new' rfl
          have hb : Below w2.heap.size w2 W3 := by rw [← hW]; exact (by repeat (first | exact Below.refl _ _ | (refine Below.alloc ?_ (by simp <;> omega) _) | (refine Below.setCell ?_ (by simp <;> omega) _) | (refine Below.drew ?_) | (refine bel_drewN ?_ _)))
          clear hW
          have hgl := HD.out.lo.2
          replace d0 : W3.cell? ⟨ge, 0, none⟩ = some (.int .i64 y0) := (hb.cell (p := ⟨ge, 0, none⟩) hgl).trans d0
          replace d1 : W3.cell? ⟨ge, 1, none⟩ = some (.int .i64 y1) := (hb.cell (p := ⟨ge, 1, none⟩) hgl).trans d1
          replace d2 : W3.cell? ⟨ge, 2, none⟩ = some (.int .i64 y2) := (hb.cell (p := ⟨ge, 2, none⟩) hgl).trans d2
          replace d3 : W3.cell? ⟨ge, 3, none⟩ = some (.int .i64 y3) := (hb.cell (p := ⟨ge, 3, none⟩) hgl).trans d3
          replace d4 : W3.cell? ⟨ge, 4, none⟩ = some (.int .i64 y4) := (hb.cell (p := ⟨ge, 4, none⟩) hgl).trans d4
          have dl : ge < W3.heap.size := cell_lt d0
          have m0 := bM.cell 0 rfl
          have m1 := bM.cell 1 rfl
          have m2 := bM.cell 2 rfl
          have m3 := bM.cell 3 rfl
          have m4 := bM.cell 4 rfl
          have f0 := bM.frozen 0
          have f1 := bM.frozen 1
          have f2 := bM.frozen 2
          have f3 := bM.frozen 3
          have f4 := bM.frozen 4
          have ml := bM.lt
          have HB3 := Lib.hid hb
          have HM := Lib.hid bM
          clear hb bM
          go_upto_region 13 with fail
          clear d0 m0 f0 d1 m1 f1 d2 m2 f2 d3 m3 f3 d4 m4 f4 ml dl
          generalize hW : World.setCell _ _ _ = W4
          have bM : Bk W4 w2.heap.size #[.int .i64 y0, .int .i64 y1, .int .i64 y2, .int .i64 y3, .int .i64 y4] 32 := by rw [← hW]; exact (Bk.set (Bk.set (Bk.set (Bk.set (Bk.set HM.out 0 _ rfl) 1 _ rfl) 2 _ rfl) 3 _ rfl) 4 _ rfl)
          have hb : Below w2.heap.size w2 W4 := by rw [← hW]; exact (((((HB3.out.setCell (p := ⟨w2.heap.size, 0, none⟩) (Nat.le_refl _) _).setCell (p := ⟨w2.heap.size, 1, none⟩) (Nat.le_refl _) _).setCell (p := ⟨w2.heap.size, 2, none⟩) (Nat.le_refl _) _).setCell (p := ⟨w2.heap.size, 3, none⟩) (Nat.le_refl _) _).setCell (p := ⟨w2.heap.size, 4, none⟩) (Nat.le_refl _) _)
          clear hW
          replace HD := Lib.hid (HD.out.on hlW hb)
          clear hb
          have m0 := bM.cell 0 rfl
          have m1 := bM.cell 1 rfl
          have m2 := bM.cell 2 rfl
          have m3 := bM.cell 3 rfl
          have m4 := bM.cell 4 rfl
          have ml := bM.lt
          clear bM
          go_wp2_with fail
          clear m0 m1 m2 m3 m4 ml
          refine (dcs14_any _ s _ _ _ _ _ HD.out.src).mono ?_
          rintro e w8 ⟨g8, c8, n8, L8, rfl, h8, hK⟩
          have HK := Lib.hid hK
          replace HD := Lib.hid (HD.out.draw hlW hK.src hK.grw)
          clear hK
          go_wp2
          exact bodyPost_ret (v := .tuple #[.slice (some ⟨ge, 0, none⟩) n ce, .slice (some ⟨g8, 0, none⟩) n8 c8]) (by simp [results, Try.results17, go_sem]) rfl ⟨some ⟨ge, 0, none⟩, some ⟨g8, 0, none⟩, ce, c8, moL Lx n, prL L8 n8, by rw [moL_len, prL_len], by rw [moL_len]; omega, by rw [prL_len]; exact h8, HD.out.mts, HK.out.cts, HB.out.trans (below_of_grown HD.out.grw HSL.out HB.out.size)⟩
        case neg =>
          obtain rfl : n = 0 := by omega
          go_upto_region 11 with fail
          generalize hW : World.alloc _ _ = W3
          have bM : Bk W3 w2.heap.size #[.int .i64 0, .int .i64 0, .int .i64 0, .int .i64 0, .int .i64 30] 32 := by rw [← hW]; exact Bk.new' rfl
          have hb : Below w2.heap.size w2 W3 := by rw [← hW]; exact (by repeat (first | exact Below.refl _ _ | (refine Below.alloc ?_ (by simp <;> omega) _) | (refine Below.setCell ?_ (by simp <;> omega) _) | (refine Below.drew ?_) | (refine bel_drewN ?_ _)))
          clear hW
          replace HD := Lib.hid (HD.out.on hlW hb)
          clear hb
          have m0 := bM.cell 0 rfl
          have m1 := bM.cell 1 rfl
          have m2 := bM.cell 2 rfl
          have m3 := bM.cell 3 rfl
          have m4 := bM.cell 4 rfl
          have ml := bM.lt
          clear bM
          go_wp2_with fail
          clear m0 m1 m2 m3 m4 ml
          refine (dcs14_any _ s _ _ _ _ _ HD.out.src).mono ?_
          rintro e w8 ⟨g8, c8, n8, L8, rfl, h8, hK⟩
          have HK := Lib.hid hK
          replace HD := Lib.hid (HD.out.draw hlW hK.src hK.grw)
          clear hK
          go_wp2
          exact bodyPost_ret (v := .tuple #[.slice (some ⟨ge, 0, none⟩) 0 ce, .slice (some ⟨g8, 0, none⟩) n8 c8]) (by simp [results, Try.results17, go_sem]) rfl ⟨some ⟨ge, 0, none⟩, some ⟨g8, 0, none⟩, ce, c8, moL Lx 0, prL L8 n8, by rw [moL_len, prL_len], by rw [moL_len]; omega, by rw [prL_len]; exact h8, HD.out.mts, HK.out.cts, HB.out.trans (below_of_grown HD.out.grw HSL.out HB.out.size)⟩
end Go.Proofs.Ytlahgdhofakinaa
