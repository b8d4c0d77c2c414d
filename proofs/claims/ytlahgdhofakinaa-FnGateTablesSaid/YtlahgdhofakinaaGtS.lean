/- The model's draw of a list of contacts. -/
import Derived.Test.YtlahgdhofakinaaGtR
namespace Go.Proofs.Ytlahgdhofakinaa
open Go.ChangeShapes Go.WideShapes Go.ChangeAt Go.RowKit Go.Shelf Num
set_option linter.unusedVariables false
set_option linter.unusedSimpArgs false

theorem grownS_far {w W W' : World} {s g : Nat} (h : w.grownBy W (some s)) (hg : W.grownBy W' (some g)) (hl : w.heap.size ≤ g) : w.grownBy W' (some s) :=
  ⟨hg.os.trans h.os, hg.tape.trans h.tape, hg.output.trans h.output, Nat.le_trans h.size hg.size, fun k hk hne => (hg.block k (Nat.lt_of_lt_of_le hk h.size) (fun e => by injection e; omega)).trans (h.block k hk hne)⟩
theorem srcS_far {W W' : World} {s g : Nat} (h : Src W s) (hg : W.grownBy W' (some g)) (hs : s < g) : Src W' s := by
  obtain ⟨a, cap, zs, k, seed, hb0, hc, rest⟩ := h
  have hlt := (Array.getElem?_eq_some_iff.1 hb0).1
  exact ⟨a, cap, zs, k, seed, (hg.block s hlt (fun e => by injection e; omega)).trans hb0, hc.below (below_of_grown (B := s) hg (by omega) (by omega)) (Nat.le_refl _), rest⟩
/-- a row of contacts of one's own that grows beside a source -/
structure DK (w : World) (s g c n : Nat) (L : List Int) (W : World) : Prop where
  row : W.ownsRow w.heap.size 79 2 (.slice (some ⟨g, 0, none⟩) n c) n (L.map iv4)
  src : Src W s
  grw : w.grownBy W (some s)
  len : L.length = n * 2
section
variable {w W W' : World} {s g c n : Nat} {L : List Int}
theorem DK.lo (h : DK w s g c n L W) : w.heap.size ≤ g ∧ g < W.heap.size := h.row.lt g rfl
theorem DK.lit (hs : Src w s) : DK w s w.heap.size 0 0 [] (w.alloc (.cells #[] 79)) :=
  ⟨World.ownsRow_lit (base := w.heap.size) (e := 79) (size := 2) w #[] 0 (Nat.le_refl _) (by decide) (by decide), hs.alloc _, grown_alloc (grown_refl _ _) _, rfl⟩
theorem DK.draw (h : DK w s g c n L W) (hs : s < w.heap.size) (h1 : Src W' s) (h2 : W.grownBy W' (some s)) : DK w s g c n L W' :=
  ⟨h.row.kept h2 (Or.inr (by have := h.lo; simp [Value.ownBlock]; omega)), h1, grown_trans h.grw h2, h.len⟩
theorem DK.al (h : DK w s g c n L W) (o : Obj) : DK w s g c n L (W.alloc o) := ⟨h.row.alloc o, h.src.alloc o, grown_alloc h.grw o, h.len⟩
theorem DK.put {w9 : World} {o : Obj} {g' c' : Nat} {x y : Int} (h : DK w s g c n L W) (hs : s < w.heap.size) (hown : w9.ownsRow w.heap.size 79 2 (.slice (some ⟨g', 0, none⟩) (n + 1) c') (n + 1) (L.map iv4 ++ [.int .i64 x, .int .i64 y])) (hg : (W.alloc o).grownBy w9 (some g)) : DK w s g' c' (n + 1) (L ++ [x, y]) w9 :=
  ⟨by rw [List.map_append]; exact hown, srcS_far (h.al o).src hg (by have := h.lo; omega), grownS_far (h.al o).grw hg h.lo.1, by rw [List.length_append, h.len]; simp; omega⟩
theorem DK.of {w0 : World} (h : DK w s g c n L W) (hb : Below w0.heap.size w0 w) : DK w0 s g c n L W := ⟨World.ownsRow.mono h.row hb.size, h.src, grown_trans (grown_bel (grown_refl w0 s) hb) h.grw, h.len⟩
theorem DK.cap (h : DK w s g c n L W) : n ≤ c := by
  rcases h.row.2 with ⟨hv, h0⟩ | ⟨g, cap, cur, hv, _, _, hle, _⟩
  · simp at hv
  · simp only [Value.slice.injEq] at hv; omega
/-- the contacts of the row -/
def prL (L : List Int) (n : Nat) : List (Int × Int) := (List.range n).map (fun j => (L.getD (j * 2) 0, L.getD (j * 2 + 1) 0))
theorem prL_len (L : List Int) (n : Nat) : (prL L n).length = n := by simp [prL]
theorem DK.cts (h : DK w s g c n L W) : Cts W W.heap.size (some ⟨g, 0, none⟩) (prL L n) := fun hp => by
  have hl := h.len
  refine ⟨g, 0, rfl, h.lo.2, fun j hj => ?_⟩
  have hj' : j < n := by rwa [prL_len] at hj
  have e : ∀ r, r < n * 2 → W.cell? ⟨g, r, none⟩ = some (.int .i64 (L.getD r 0)) := fun r hr => by
    rw [h.row.cellAt r (by omega), List.getElem?_map, List.getElem?_eq_getElem (by omega), List.getD_eq_getElem?_getD, List.getElem?_eq_getElem (by omega)]; rfl
  unfold prL
  rw [List.getD_eq_getElem?_getD, List.getElem?_map, List.getElem?_range hj', Nat.zero_add]
  exact ⟨e _ (by omega), e _ (by omega)⟩
end
def lnOf : Value → Nat | .slice _ n _ => n | _ => 0
def ConD (w : World) (s : Nat) (e : Ending) (w' : World) : Prop := ∃ (g c n : Nat) (L : List Int), e = .returned (.slice (some ⟨g, 0, none⟩) n c) ∧ n ≤ 7 ∧ DK w s g c n L w'

set_option maxRecDepth 100000 in
set_option maxHeartbeats 8000000 in
theorem dcs14_any (w : World) (s : Nat) (x y u v t : Int) (h : Src w s) :
    Calls Try.prog 61 #[.pointer (some ⟨s, 0, none⟩), .agg #[.int .i64 x, .int .i64 y, .int .i64 u, .int .i64 v, .int .i64 t]] w (ConD w s) := by
  have hlt := h.lt
  have HS := Lib.hid h
  clear h
  obtain ⟨i0, hi, hz0, hz1, hz2⟩ := info_parts info_C
  go_enter Try.func61, Try.ntmps61
  go_upto_region 1 with fail
  generalize hW : World.alloc _ _ = W
  have bM : Bk W (w.heap.size) #[.int .i64 x, .int .i64 y, .int .i64 u, .int .i64 v, .int .i64 t] 32 := by rw [← hW]; repeat (first | (refine Bk.new' ?_; (simp; done)) | refine Bk.alloc ?_ _)
  have hb : Below w.heap.size w W := by rw [← hW]; exact (by repeat (first | exact Below.refl _ _ | (refine Below.alloc ?_ (by simp <;> omega) _) | (refine Below.setCell ?_ (by simp <;> omega) _) | (refine Below.drew ?_) | (refine bel_drewN ?_ _)))
  clear hW
  have HB := Lib.hid hb
  replace HS := Lib.hid (HS.out.bel hb)
  have hlW : s < W.heap.size := Nat.lt_of_lt_of_le hlt hb.size
  have HM := Lib.hid bM
  clear hb bM
  have HD := Lib.hid (DK.lit HS.out)
  obtain ⟨Z, hZ⟩ : ∃ X, X = W.alloc (.cells #[] 79) := ⟨_, rfl⟩
  go_wp2_with fail
  rw [← hZ] at HD ⊢
  clear hZ
  refine (nxt_any _ _ _ HD.out.src).mono ?_
  rintro e w1 ⟨r0, rfl, hr0, hr1, -, hs, hg⟩
  have hr4 := hr1 (by omega)
  replace HD := Lib.hid (HD.out.draw hlW hs hg)
  clear hs hg hr1
  go_wp2_with fail
  go_loopw [5, 6] (fun v y wr => ∃ (ge ce n : Nat) (L : List Int) (r : Int), v = .slice (some ⟨ge, 0, none⟩) n ce ∧ y = .int .i64 r ∧ 0 ≤ r ∧ (n : Int) + r ≤ 4 ∧ DK W s ge ce n L wr) (fun _ y _ => (intOf y).toNat)
  case atStart => exact ⟨W.heap.size, 0, 0, [], r0, rfl, rfl, hr0, by simp; omega, HD.out⟩
  case round =>
    obtain ⟨ge, ce, n, Lx, r, rfl, rfl, hr, hrm, hD⟩ := hrel
    clear HD
    have HD := Lib.hid hD
    clear hD
    by_cases hrp : 0 < r
    case pos =>
      have bM := HM.out.kept HD.out.grw (by simp; omega)
      have m0 := bM.cell 0 rfl
      have m1 := bM.cell 1 rfl
      have m2 := bM.cell 2 rfl
      have m3 := bM.cell 3 rfl
      have m4 := bM.cell 4 rfl
      have ml := bM.lt
      clear bM
      go_wp2_with fail
      clear m0 m1 m2 m3 m4 ml
      refine (dct14_any _ s x y u v t HD.out.src).mono ?_
      rintro e wz ⟨p, q, rfl, hs, hg⟩
      replace HD := Lib.hid (HD.out.draw hlW hs hg)
      clear hs hg
      go_wp2_with (at_builtin; refine wpList_append_lies _ rfl _ _ 25 rfl _ 79 i0 (.agg #[.int .i64 0, .int .i64 0]) 2 16 Try.underlying25 hi hz0 hz1 hz2 rfl (by decide) (.slice (some ⟨ge, 0, none⟩) n ce) n (Lx.map iv4) rfl (HD.out.row.alloc _) ⟨wz.heap.size, 0, none⟩ 1 1 [.int .i64 p, .int .i64 q] rfl rfl (World.news_of_block (cs := #[.int .i64 p, .int .i64 q]) (t := 79) (fr := (0, 0)) (heap_alloc_new wz _)) (by simp [Value.oneCell']) (by decide) (by unfold maxLen; omega) (by omega) (by simp; exact Nat.le_succ_of_le HD.out.grw.size) (wz.heap.size + 1) (by simp) ?_; intro g2 cp2 w9 hown hgrow hat hlt9; have HD9 := Lib.hid (HD.out.put hlW hown hgrow); clear hown hgrow hat hlt9)
      go_wp2_with fail
      go_roundw
      case rel => exact ⟨g2, cp2, n + 1, Lx ++ [p, q], r - 1, rfl, rfl, by omega, by omega, HD9.out⟩
      case measure => simp [intOf]; omega
    case neg =>
      go_wp2_with fail
      refine (nxt_any _ _ _ HD.out.src).mono ?_
      rintro e w2 ⟨z, rfl, hz_0, -, -, hs, hg⟩
      replace HD := Lib.hid (HD.out.draw hlW hs hg)
      clear hs hg hz_0
      have hn4 : n ≤ 4 := by omega
      clear hr hrm hrp hr0 hr4
      by_cases h0 : z = 0
      case pos =>
        subst h0
        go_wp2_with fail
        go_loopw [5] (fun v wr => ∃ (ge ce n : Nat) (L : List Int), v = .slice (some ⟨ge, 0, none⟩) n ce ∧ n ≤ 7 ∧ DK W s ge ce n L wr) (fun v _ => 7 - lnOf v)
        case atStart => exact ⟨ge, ce, n, Lx, rfl, by omega, HD.out⟩
        case round =>
          clear HD hn4
          rename_i ge0 ce0 n0 Lx0 _
          obtain ⟨ge, ce, n, Lx, rfl, hn7, hD⟩ := hrel
          have HD := Lib.hid hD
          clear hD
          go_wp2_with fail
          refine (nxt_any _ _ _ HD.out.src).mono ?_
          rintro e w3 ⟨q, rfl, hq0, hq1, -, hs, hg⟩
          have hq := hq1 (by omega)
          replace HD := Lib.hid (HD.out.draw hlW hs hg)
          clear hs hg hq1
          by_cases hc : (n : Int) < 6 + q
          case pos =>
            go_wp2_with fail
            refine (nxt_any _ _ _ HD.out.src).mono ?_
            rintro e w4 ⟨z, rfl, -, -, -, hs, hg⟩
            replace HD := Lib.hid (HD.out.draw hlW hs hg)
            clear hs hg
            go_wp2_with (at_builtin; refine wpList_append_lies _ rfl _ _ 25 rfl _ 79 i0 (.agg #[.int .i64 0, .int .i64 0]) 2 16 Try.underlying25 hi hz0 hz1 hz2 rfl (by decide) (.slice (some ⟨ge, 0, none⟩) n ce) n (Lx.map iv4) rfl (HD.out.row.alloc _) ⟨w4.heap.size, 0, none⟩ 1 1 [.int .i64 z, .int .i64 0] rfl rfl (World.news_of_block (cs := #[.int .i64 z, .int .i64 0]) (t := 79) (fr := (0, 0)) (heap_alloc_new w4 _)) (by simp [Value.oneCell']) (by decide) (by unfold maxLen; omega) (by omega) (by simp; exact Nat.le_succ_of_le HD.out.grw.size) (w4.heap.size + 1) (by simp) ?_; intro g2 cp2 w9 hown hgrow hat hlt9; have HD9 := Lib.hid (HD.out.put hlW hown hgrow); clear hown hgrow hat hlt9)
            go_wp2_with fail
            go_roundw
            case rel => exact ⟨g2, cp2, n + 1, _, rfl, by omega, HD9.out⟩
            case measure => (simp [lnOf] <;> omega)
          case neg =>
            go_wp2
            go_ret
            exact ⟨ge, ce, n, Lx, rfl, by omega, HD.out.of HB.out⟩
      case neg =>
        have h0b : (z == 0) = false := by simpa using h0
        clear h0
        go_wp2
        go_ret
        exact ⟨ge, ce, n, Lx, rfl, by omega, HD.out.of HB.out⟩
end Go.Proofs.Ytlahgdhofakinaa
