/- Contracts of the model's draws of signals, of bits, of arguments of PulseOfBits, EchoesOf and BestCode. -/
import Derived.Test.YtpnebnjpeiieaaaPuL
import Derived.Test.YtpnebnjpeiieaaaDrw
import Derived.Deep.AppendLies
import Derived.Outline
namespace Go.Proofs.Ytpnebnjpeiieaaa
open Go.ChangeShapes Go.WideShapes Go.ChangeAt Go.RowKit Go.Shelf Num
set_option linter.unusedVariables false
set_option linter.unusedSimpArgs false
theorem grownP_bel {w W W' : World} {s : Nat} (h : w.grownBy W (some s)) (hb : Below W.heap.size W W') : w.grownBy W' (some s) :=
  ⟨hb.os.trans h.os, hb.tape.trans h.tape, hb.output.trans h.output, Nat.le_trans h.size hb.size, fun k hk hne => (hb.block k (Nat.lt_of_lt_of_le hk h.size)).trans (h.block k hk hne)⟩
theorem grownP_far {w W W' : World} {s g : Nat} (h : w.grownBy W (some s)) (hg : W.grownBy W' (some g)) (hl : w.heap.size ≤ g) : w.grownBy W' (some s) :=
  ⟨hg.os.trans h.os, hg.tape.trans h.tape, hg.output.trans h.output, Nat.le_trans h.size hg.size, fun k hk hne => (hg.block k (Nat.lt_of_lt_of_le hk h.size) (fun e => by injection e; omega)).trans (h.block k hk hne)⟩
theorem srcP_far {W W' : World} {s g : Nat} (h : Src W s) (hg : W.grownBy W' (some g)) (hs : s < g) : Src W' s := by
  obtain ⟨a, cap, zs, k, seed, hb0, hc, rest⟩ := h
  have hlt := (Array.getElem?_eq_some_iff.1 hb0).1
  exact ⟨a, cap, zs, k, seed, (hg.block s hlt (fun e => by injection e; omega)).trans hb0, hc.below (below_of_grown (B := s) hg (by omega) (by omega)) (Nat.le_refl _), rest⟩
/-- a row of one's own that grows beside a source -/
structure D1 (w : World) (s g c n : Nat) (L : List Int) (W : World) : Prop where
  row : W.ownsRow w.heap.size 2 1 (.slice (some ⟨g, 0, none⟩) n c) n (L.map iv4)
  src : Src W s
  grw : w.grownBy W (some s)
  len : L.length = n
section
variable {w W W' : World} {s g c n : Nat} {L : List Int}
theorem D1.lo (h : D1 w s g c n L W) : w.heap.size ≤ g ∧ g < W.heap.size := h.row.lt g rfl
theorem D1.lit (hs : Src w s) : D1 w s w.heap.size 0 0 [] (w.alloc (.cells #[] 2)) :=
  ⟨World.ownsRow_lit (base := w.heap.size) (e := 2) (size := 1) w #[] 0 (Nat.le_refl _) (by decide) (by decide), hs.alloc _, grown_alloc (grown_refl _ _) _, rfl⟩
theorem D1.draw (h : D1 w s g c n L W) (hs : s < w.heap.size) (h1 : Src W' s) (h2 : W.grownBy W' (some s)) : D1 w s g c n L W' :=
  ⟨h.row.kept h2 (Or.inr (by have := h.lo; simp [Value.ownBlock]; omega)), h1, grown_trans h.grw h2, h.len⟩
theorem D1.al (h : D1 w s g c n L W) (o : Obj) : D1 w s g c n L (W.alloc o) := ⟨h.row.alloc o, h.src.alloc o, grown_alloc h.grw o, h.len⟩
theorem D1.put {w9 : World} {o : Obj} {g' c' : Nat} {x : Int} (h : D1 w s g c n L W) (hs : s < w.heap.size) (hown : w9.ownsRow w.heap.size 2 1 (.slice (some ⟨g', 0, none⟩) (n + 1) c') (n + 1) (L.map iv4 ++ [.int .i64 x])) (hg : (W.alloc o).grownBy w9 (some g)) : D1 w s g' c' (n + 1) (L ++ [x]) w9 :=
  ⟨by rw [List.map_append]; exact hown, srcP_far (h.al o).src hg (by have := h.lo; omega), grownP_far (h.al o).grw hg h.lo.1, by rw [List.length_append, h.len]; rfl⟩
theorem D1.ints (h : D1 w s g c n L W) : Ints .i64 W W.heap.size (some ⟨g, 0, none⟩) L := own_ints (B := w.heap.size) (c := c) (by rw [h.len]; exact h.row)
theorem D1.cap (h : D1 w s g c n L W) : n ≤ c := own_caps h.row
theorem D1.zeros (hs : Src W s) (hg : w.grownBy W (some s)) (m : Nat) (hm : m ≤ maxLen) : D1 w s W.heap.size m m (List.replicate m 0) (W.alloc (.cells (madeCells #[.int .i64 0] m) 2)) :=
  ⟨World.ownsRow.mono (rowG_zeros W m hm).own hg.size, hs.alloc _, grown_alloc hg _, by simp⟩
end
/-- what a draw of a list leaves -/
def ListD (w : World) (s N : Nat) (e : Ending) (w' : World) : Prop := ∃ (g c n : Nat) (ps : List Int), e = .returned (.slice (some ⟨g, 0, none⟩) n c) ∧ n ≤ N ∧ D1 w s g c n ps w'

set_option maxRecDepth 100000 in
set_option maxHeartbeats 4000000 in
theorem dbt_any (w : World) (s : Nat) (m : Int) (m0 : 0 ≤ m) (m1 : m ≤ 1000) (h : Src w s) :
    Calls Try.prog 50 #[.pointer (some ⟨s, 0, none⟩), .int .i64 m] w (ListD w s m.toNat) := by
  have hlt := h.lt
  have HS := Lib.hid h
  clear h
  obtain ⟨i0, hi, hz0, hz1, hz2⟩ := info_parts info_i64
  go_enter Try.func50, Try.ntmps50
  go_wp2_with fail
  have HD0 := Lib.hid (D1.lit HS.out)
  refine (nxt_any _ _ _ HD0.out.src).mono ?_
  rintro e w1 ⟨x, rfl, hx0, hx1, hx2, hs, hg⟩
  have hx : x ≤ m := by by_cases h1 : 1 < m + 1; have := hx1 h1; omega; have := hx2 (by omega); omega
  replace HD0 := Lib.hid (HD0.out.draw hlt hs hg)
  clear hs hg hx1 hx2
  go_wp2_with fail
  go_loopw [5, 6] (fun v y wr => ∃ (ge ce n : Nat) (L : List Int) (r : Int), v = .slice (some ⟨ge, 0, none⟩) n ce ∧ y = .int .i64 r ∧ 0 ≤ r ∧ (n : Int) + r ≤ m ∧ D1 w s ge ce n L wr) (fun _ y _ => (intOf y).toNat)
  case atStart => exact ⟨w.heap.size, 0, 0, [], x, rfl, rfl, hx0, by simpa using hx, HD0.out⟩
  case round =>
    obtain ⟨ge, ce, n, Lx, r, rfl, rfl, hr0, hrm, hD⟩ := hrel
    have HD := Lib.hid hD
    clear hD HD0
    by_cases hr : 0 < r
    · go_wp2_with fail
      refine (nxt_any _ _ _ HD.out.src).mono ?_
      rintro e wz ⟨b, rfl, hb0, hb1, hb2, hs, hg⟩
      replace HD := Lib.hid (HD.out.draw hlt hs hg)
      clear hs hg hb1 hb2
      go_wp2_with (at_builtin; refine wpList_append_lies _ rfl _ _ 24 rfl _ 2 i0 (.int .i64 0) 1 8 Try.underlying24 hi hz0 hz1 hz2 rfl (by decide) (.slice (some ⟨ge, 0, none⟩) n ce) n ((Lx).map iv4) rfl (HD.out.row.alloc _) ⟨wz.heap.size, 0, none⟩ 1 1 [.int .i64 b] rfl rfl (World.news_of_block (cs := #[.int .i64 b]) (t := 2) (fr := (0, 0)) (heap_alloc_new wz _)) (by simp [Value.oneCell']) (by decide) (by unfold maxLen; omega) (by omega) (by have := HD.out.grw.size; simp; omega) (wz.heap.size + 1) (by simp) ?_; intro g2 cp2 w9 hown hgrow hat hlt9; have HD9 := Lib.hid (HD.out.put hlt hown hgrow); clear hown hgrow hat hlt9)
      go_wp2_with fail
      go_roundw
      case rel => exact ⟨g2, cp2, n + 1, Lx ++ [b], r - 1, rfl, rfl, by omega, by omega, HD9.out⟩
      case measure => simp [intOf]; omega
    · go_wp2
      go_ret
      exact ⟨ge, ce, n, Lx, rfl, by omega, HD.out⟩

set_option maxRecDepth 100000 in
set_option maxHeartbeats 8000000 in
theorem dsg_any (w : World) (s : Nat) (h : Src w s) :
    Calls Try.prog 41 #[.pointer (some ⟨s, 0, none⟩)] w (ListD w s 401) := by
  have hlt := h.lt
  have HS := Lib.hid h
  clear h
  obtain ⟨i0, hi, hz0, hz1, hz2⟩ := info_parts info_i64
  go_enter Try.func41, Try.ntmps41
  go_upto_region 2 with fail
  have HD := Lib.hid (D1.lit HS.out)
  obtain ⟨W, hW⟩ : ∃ X, X = w.alloc (.cells #[] 2) := ⟨_, rfl⟩
  rw [← hW] at HD ⊢
  clear hW
  go_wp2_with fail
  refine (pick_new _ s 4 4 [3, 10, 100, 1000] _ HD.out.src rfl (by omega) (by omega) ?hc).mono ?_
  case hc => intro j hj; match j, hj with
    | 0, _ => rfl
    | 1, _ => rfl
    | 2, _ => rfl
    | 3, _ => rfl
  rintro e w1 ⟨j, hj, rfl, hs, hg⟩
  replace HD := Lib.hid ((HD.out.al _).draw hlt hs hg)
  clear hs hg
  obtain ⟨z, hz, z3, z4⟩ : ∃ z : Int, [(3 : Int), 10, 100, 1000].getD j 0 = z ∧ 3 ≤ z ∧ z ≤ 1000 := by
    have hj4 : j < 4 := hj
    match j, hj4 with
    | 0, _ => exact ⟨3, rfl, by decide, by decide⟩
    | 1, _ => exact ⟨10, rfl, by decide, by decide⟩
    | 2, _ => exact ⟨100, rfl, by decide, by decide⟩
    | 3, _ => exact ⟨1000, rfl, by decide, by decide⟩
  rw [hz]
  clear hz hj
  go_wp2_with fail
  refine (nxt_any _ _ _ HD.out.src).mono ?_
  rintro e w2 ⟨x, rfl, hx0, hx1, -, hs, hg⟩
  have hx := hx1 (by omega)
  replace HD := Lib.hid (HD.out.draw hlt hs hg)
  clear hs hg hx1
  go_wp2_with fail
  go_loopw [3, 5] (fun v y wr => ∃ (ge ce n : Nat) (L : List Int) (r : Int), v = .slice (some ⟨ge, 0, none⟩) n ce ∧ y = .int .i64 r ∧ 0 ≤ r ∧ (n : Int) + r ≤ 14 ∧ D1 w s ge ce n L wr) (fun _ y _ => (intOf y).toNat)
  case atStart => exact ⟨w.heap.size, 0, 0, [], x, rfl, rfl, hx0, by simp; omega, HD.out⟩
  case round =>
    obtain ⟨ge, ce, n, Lx, r, rfl, rfl, hr0, hrm, hD⟩ := hrel
    replace HD := Lib.hid hD
    clear hD
    by_cases hr : 0 < r
    · go_wp2_with fail
      refine (nxt_any _ _ _ HD.out.src).mono ?_
      rintro e wz ⟨b, rfl, hb0, hb1, -, hs, hg⟩
      have hb := hb1 (by omega)
      replace HD := Lib.hid (HD.out.draw hlt hs hg)
      clear hs hg hb1
      go_wp2_with (at_builtin; refine wpList_append_lies _ rfl _ _ 24 rfl _ 2 i0 (.int .i64 0) 1 8 Try.underlying24 hi hz0 hz1 hz2 rfl (by decide) (.slice (some ⟨ge, 0, none⟩) n ce) n ((Lx).map iv4) rfl (HD.out.row.alloc _) ⟨wz.heap.size, 0, none⟩ 1 1 [.int .i64 (b - z)] rfl rfl (World.news_of_block (cs := #[.int .i64 (b - z)]) (t := 2) (fr := (0, 0)) (heap_alloc_new wz _)) (by simp [Value.oneCell']) (by decide) (by unfold maxLen; omega) (by omega) (by have := HD.out.grw.size; simp; omega) (wz.heap.size + 1) (by simp) ?_; intro g2 cp2 w9 hown hgrow hat hlt9; have HD9 := Lib.hid (HD.out.put hlt hown hgrow); clear hown hgrow hat hlt9)
      go_wp2_with fail
      go_roundw
      case rel => exact ⟨g2, cp2, n + 1, Lx ++ [b - z], r - 1, rfl, rfl, by omega, by omega, HD9.out⟩
      case measure => simp [intOf]; omega
    · go_wp2_with fail
      refine (nxt_any _ _ _ HD.out.src).mono ?_
      rintro e w3 ⟨q, rfl, hq0, hq1, -, hs, hg⟩
      have hq := hq1 (by omega)
      replace HD := Lib.hid (HD.out.draw hlt hs hg)
      clear hs hg hq1
      by_cases h0 : q = 0
      · subst h0
        go_wp2_with fail
        refine (pick_new _ s 3 3 [1000, 1001, -1001] _ HD.out.src rfl (by omega) (by omega) ?hc).mono ?_
        case hc => intro j hj; match j, hj with
          | 0, _ => rfl
          | 1, _ => rfl
          | 2, _ => rfl
        rintro e w4 ⟨j, hj, rfl, hs, hg⟩
        replace HD := Lib.hid ((HD.out.al _).draw hlt hs hg)
        clear hs hg
        obtain ⟨y, hy⟩ : ∃ y : Int, [(1000 : Int), 1001, -1001].getD j 0 = y := ⟨_, rfl⟩
        rw [hy]
        clear hy hj
        go_wp2_with (at_builtin; refine wpList_append_lies _ rfl _ _ 24 rfl _ 2 i0 (.int .i64 0) 1 8 Try.underlying24 hi hz0 hz1 hz2 rfl (by decide) (.slice (some ⟨ge, 0, none⟩) n ce) n ((Lx).map iv4) rfl (HD.out.row.alloc _) ⟨w4.heap.size, 0, none⟩ 1 1 [.int .i64 y] rfl rfl (World.news_of_block (cs := #[.int .i64 y]) (t := 2) (fr := (0, 0)) (heap_alloc_new w4 _)) (by simp [Value.oneCell']) (by decide) (by unfold maxLen; omega) (by omega) (by have := HD.out.grw.size; simp; omega) (w4.heap.size + 1) (by simp) ?_; intro g2 cp2 w9 hown hgrow hat hlt9; have HD9 := Lib.hid (HD.out.put hlt hown hgrow); clear hown hgrow hat hlt9)
        go_wp2
        go_ret
        exact ⟨g2, cp2, n + 1, Lx ++ [y], rfl, by omega, HD9.out⟩
      · have hqf : (q == 0) = false := by simpa using h0
        by_cases h1 : q = 1
        · subst h1
          go_wp2_with fail
          refine (nxt_any _ _ _ HD.out.src).mono ?_
          rintro e w4 ⟨t, rfl, ht0, ht1, -, hs, hg⟩
          have ht := ht1 (by omega)
          replace HD := Lib.hid (HD.out.draw hlt hs hg)
          clear hs hg ht1
          obtain ⟨m, hm, hm4⟩ : ∃ m : Nat, 400 + t = (m : Int) ∧ m ≤ 401 := ⟨(400 + t).toNat, by omega, by omega⟩
          have hmw : IntKind.wrap .i64 (m : Int) = (m : Int) := IntWalk.i64_in _ (by omega)
          have hmk : ∀ w, (Instr.makeSlice 24 (.int .i64 (m : Int)) (.int .i64 (m : Int))).run Try.prog w = .ok (.slice (some ⟨w.heap.size, 0, none⟩) m m) (w.alloc (.cells (madeCells #[.int .i64 0] m) 2)) := fun w => run_make_row' (P := Try.prog) 24 2 (.int .i64 0) 8 Try.underlying24 info_i64 rfl .i64 .i64 m (by omega) (by omega) w
          have HZ := Lib.hid (D1.zeros HD.out.src HD.out.grw m (by unfold maxLen; omega))
          go_wp2
          go_ret
          exact ⟨_, m, m, _, rfl, hm4, HZ.out⟩
        · have hqf1 : (q == 1) = false := by simpa using h1
          go_wp2
          go_ret
          exact ⟨ge, ce, n, Lx, rfl, by omega, HD.out⟩
/-- a list that a law draws -/
def ListC (w : World) (e : Ending) (w' : World) : Prop := ∃ (a : Option Addr) (c n : Nat) (ps : List Int), e = .returned (.slice a n c) ∧ ps.length = n ∧ n ≤ 401 ∧ n ≤ c ∧ Ints .i64 w' w'.heap.size a ps ∧ Below w.heap.size w w'
theorem D1.below {w0 w W : World} {s g c n : Nat} {L : List Int} (h : D1 w s g c n L W) (hb : Below w0.heap.size w0 w) (hs : w0.heap.size ≤ s) : Below w0.heap.size w0 W := hb.trans (below_of_grown h.grw hs hb.size)
theorem D1.far {w W W' : World} {s g c n : Nat} {L : List Int} (h : D1 w s g c n L W) (hs : s < w.heap.size) (hg : W.grownBy W' (some s)) : Ints .i64 W' W'.heap.size (some ⟨g, 0, none⟩) L := fun hp => by
  obtain ⟨b, off, e, hB, hc⟩ := h.ints hp
  simp only [Option.some.injEq, Addr.mk.injEq, and_true] at e
  obtain ⟨e1, e2⟩ := e
  subst e1 e2
  refine ⟨g, 0, rfl, Nat.lt_of_lt_of_le hB hg.size, fun j hj => ?_⟩
  exact (World.cell?_of_block (w := W) (a := ⟨g, 0 + j, none⟩) (hg.block g hB (fun e => by injection e with e; have := h.lo; omega))).trans (hc j hj)
theorem dco_any (w : World) (a : Option Addr) (cap : Nat) (zs : List Int) (h : Code8 w w.heap.size a zs) :
    Calls Try.prog 15 #[.slice a zs.length cap] w (ListC w) := by
  have H := Lib.hid h
  clear h
  obtain ⟨i0, hi, hz0, hz1, hz2⟩ := info_parts info_i64
  go_enter Try.func15, Try.ntmps15
  go_wp2_with fail
  refine (from_any _ _ _ zs H.out).mono ?_
  rintro e w1 ⟨s, rfl, hs, hsrc, hb⟩
  have HS := Lib.hid hsrc
  have HB := Lib.hid hb
  have hlt := hsrc.lt
  have hsz := hb.size
  clear hsrc hb
  go_wp2_with fail
  refine (dsg_any _ _ HS.out).mono ?_
  rintro e w2 ⟨g, c, n, ps, rfl, hn, hD⟩
  have HD := Lib.hid hD
  clear hD
  go_wp2
  go_ret
  exact ⟨_, c, n, ps, rfl, HD.out.len, hn, HD.out.cap, HD.out.ints, HD.out.below HB.out hs⟩
theorem dbc_any (w : World) (a : Option Addr) (cap : Nat) (zs : List Int) (h : Code8 w w.heap.size a zs) :
    Calls Try.prog 32 #[.slice a zs.length cap] w fun e w' => ∃ n : Int, e = .returned (.int .i64 n) ∧ Below w.heap.size w w' := by
  have H := Lib.hid h
  clear h
  obtain ⟨i0, hi, hz0, hz1, hz2⟩ := info_parts info_i64
  go_enter Try.func32, Try.ntmps32
  go_wp2_with fail
  refine (from_any _ _ _ zs H.out).mono ?_
  rintro e w1 ⟨s, rfl, hs, hsrc, hb⟩
  have HS := Lib.hid hsrc
  have HB := Lib.hid hb
  have hlt := hsrc.lt
  have hsz := hb.size
  clear hsrc hb
  go_wp2_with fail
  refine (nxt_any _ _ _ HS.out).mono ?_
  rintro e w2 ⟨x, rfl, -, -, -, -, hg⟩
  have HB2 := Lib.hid (HB.out.trans (below_of_grown hg hs HB.out.size))
  clear hg
  go_wp2
  go_ret
  exact ⟨x, rfl, HB2.out⟩
/-- bits, a width, an amplitude -/
def BitsC (w : World) (e : Ending) (w' : World) : Prop := ∃ (a : Option Addr) (c n : Nat) (ps : List Int) (wd am : Int), e = .returned (.tuple #[.slice a n c, .int .i64 wd, .int .i64 am]) ∧ ps.length = n ∧ n ≤ 401 ∧ n ≤ c ∧ Ints .i64 w' w'.heap.size a ps ∧ Below w.heap.size w w'

set_option maxRecDepth 100000 in
set_option maxHeartbeats 8000000 in
theorem dpb_any (w : World) (a : Option Addr) (cap : Nat) (zs : List Int) (h : Code8 w w.heap.size a zs) :
    Calls Try.prog 26 #[.slice a zs.length cap] w (BitsC w) := by
  have H := Lib.hid h
  clear h
  obtain ⟨i0, hi, hz0, hz1, hz2⟩ := info_parts info_i64
  go_enter Try.func26, Try.ntmps26
  go_wp2_with fail
  refine (from_any _ _ _ zs H.out).mono ?_
  rintro e w1 ⟨s, rfl, hs, hsrc, hb⟩
  have HS := Lib.hid hsrc
  have HB := Lib.hid hb
  have hlt := hsrc.lt
  have hsz := hb.size
  clear hsrc hb
  go_wp2_with fail
  refine (dbt_any _ _ 10 (by decide) (by decide) HS.out).mono ?_
  rintro e w2 ⟨ge, ce, n, ps, rfl, hn, hD⟩
  have hn10 : n ≤ 10 := hn
  have HD := Lib.hid hD
  clear hD hn
  go_wp2_with fail
  refine (nxt_any _ _ _ HD.out.src).mono ?_
  rintro e w3 ⟨x, rfl, hx0, hx1, -, hs1, hg⟩
  have hx := hx1 (by omega)
  replace HD := Lib.hid (HD.out.draw hlt hs1 hg)
  clear hs1 hg hx1
  go_wp2_with fail
  refine (nxt_any _ _ _ HD.out.src).mono ?_
  rintro e w4 ⟨y, rfl, hy0, hy1, -, hs1, hg⟩
  have hy := hy1 (by omega)
  replace HD := Lib.hid (HD.out.draw hlt hs1 hg)
  clear hs1 hg hy1
  go_wp2_with fail
  refine (nxt_any _ _ _ HD.out.src).mono ?_
  rintro e w5 ⟨q, rfl, hq0, hq1, -, hs1, hg⟩
  have hq := hq1 (by omega)
  replace HD := Lib.hid (HD.out.draw hlt hs1 hg)
  clear hs1 hg hq1
  by_cases h0 : q = 0
  · subst h0
    go_wp2_with fail
    refine (pick_new _ s 5 5 [0, 40, 41, 400, 401] _ HD.out.src rfl (by omega) (by omega) ?hc).mono ?_
    case hc => intro j hj; match j, hj with
      | 0, _ => rfl
      | 1, _ => rfl
      | 2, _ => rfl
      | 3, _ => rfl
      | 4, _ => rfl
    rintro e w6 ⟨j, hj, rfl, hs1, hg⟩
    replace HD := Lib.hid ((HD.out.al _).draw hlt hs1 hg)
    clear hs1 hg
    obtain ⟨v, hv⟩ : ∃ v : Int, [(0 : Int), 40, 41, 400, 401].getD j 0 = v := ⟨_, rfl⟩
    rw [hv]
    clear hv hj
    go_wp2
    exact bodyPost_ret (v := .tuple #[.slice (some ⟨ge, 0, none⟩) (n) ce, .int .i64 (v), .int .i64 (1 + y)]) (by simp [results, Try.results26, go_sem]) rfl ⟨_, _, _, _, _, _, rfl, HD.out.len, by omega, HD.out.cap, HD.out.ints, HD.out.below HB.out hs⟩
  · have hqf : (q == 0) = false := by simpa using h0
    by_cases h1 : q = 1
    · subst h1
      go_wp2_with fail
      refine (pick_new _ s 3 3 [0, 1000, 1001] _ HD.out.src rfl (by omega) (by omega) ?hc).mono ?_
      case hc => intro j hj; match j, hj with
        | 0, _ => rfl
        | 1, _ => rfl
        | 2, _ => rfl
      rintro e w6 ⟨j, hj, rfl, hs1, hg⟩
      replace HD := Lib.hid ((HD.out.al _).draw hlt hs1 hg)
      clear hs1 hg
      obtain ⟨v, hv⟩ : ∃ v : Int, [(0 : Int), 1000, 1001].getD j 0 = v := ⟨_, rfl⟩
      rw [hv]
      clear hv hj
      go_wp2
      exact bodyPost_ret (v := .tuple #[.slice (some ⟨ge, 0, none⟩) (n) ce, .int .i64 (1 + x), .int .i64 (v)]) (by simp [results, Try.results26, go_sem]) rfl ⟨_, _, _, _, _, _, rfl, HD.out.len, by omega, HD.out.cap, HD.out.ints, HD.out.below HB.out hs⟩
    · have hqf1 : (q == 1) = false := by simpa using h1
      by_cases h2 : q = 2
      · subst h2
        go_wp2_with (at_builtin; refine wpList_append_lies _ rfl _ _ 24 rfl _ 2 i0 (.int .i64 0) 1 8 Try.underlying24 hi hz0 hz1 hz2 rfl (by decide) (.slice (some ⟨ge, 0, none⟩) n ce) n ((ps).map iv4) rfl (HD.out.row.alloc _) ⟨w5.heap.size, 0, none⟩ 1 1 [.int .i64 2] rfl rfl (World.news_of_block (cs := #[.int .i64 2]) (t := 2) (fr := (0, 0)) (heap_alloc_new w5 _)) (by simp [Value.oneCell']) (by decide) (by unfold maxLen; omega) (by omega) (by have := HD.out.grw.size; simp; omega) (w5.heap.size + 1) (by simp) ?_; intro g2 cp2 w9 hown hgrow hat hlt9; have HD9 := Lib.hid (HD.out.put hlt hown hgrow); clear hown hgrow hat hlt9)
        go_wp2
        exact bodyPost_ret (v := .tuple #[.slice (some ⟨g2, 0, none⟩) (n + 1) cp2, .int .i64 (1 + x), .int .i64 (1 + y)]) (by simp [results, Try.results26, go_sem]) rfl ⟨_, _, _, _, _, _, rfl, HD9.out.len, by omega, HD9.out.cap, HD9.out.ints, HD9.out.below HB.out hs⟩
      · have hqf2 : (q == 2) = false := by simpa using h2
        go_wp2
        exact bodyPost_ret (v := .tuple #[.slice (some ⟨ge, 0, none⟩) (n) ce, .int .i64 (1 + x), .int .i64 (1 + y)]) (by simp [results, Try.results26, go_sem]) rfl ⟨_, _, _, _, _, _, rfl, HD.out.len, by omega, HD.out.cap, HD.out.ints, HD.out.below HB.out hs⟩
/-- two rows of one's own that grow beside a source -/
structure D2 (w : World) (s g1 c1 n1 : Nat) (L1 : List Int) (g2 c2 n2 : Nat) (L2 : List Int) (W : World) : Prop where
  row : W.ownsRow w.heap.size 2 1 (.slice (some ⟨g1, 0, none⟩) n1 c1) n1 (L1.map iv4)
  row2 : W.ownsRow w.heap.size 2 1 (.slice (some ⟨g2, 0, none⟩) n2 c2) n2 (L2.map iv4)
  ne : g1 ≠ g2
  src : Src W s
  grw : w.grownBy W (some s)
  len : L1.length = n1
  len2 : L2.length = n2
section
variable {w W W' : World} {s g1 c1 n1 g2 c2 n2 : Nat} {L1 L2 : List Int}
theorem D2.swap (h : D2 w s g1 c1 n1 L1 g2 c2 n2 L2 W) : D2 w s g2 c2 n2 L2 g1 c1 n1 L1 W := ⟨h.row2, h.row, h.ne.symm, h.src, h.grw, h.len2, h.len⟩
theorem D2.lo (h : D2 w s g1 c1 n1 L1 g2 c2 n2 L2 W) : (w.heap.size ≤ g1 ∧ g1 < W.heap.size) ∧ w.heap.size ≤ g2 ∧ g2 < W.heap.size := ⟨h.row.lt g1 rfl, h.row2.lt g2 rfl⟩
theorem D2.lit (hs : Src w s) : D2 w s w.heap.size 0 0 [] (w.heap.size + 1) 0 0 [] ((w.alloc (.cells #[] 2)).alloc (.cells #[] 2)) :=
  ⟨(World.ownsRow_lit (base := w.heap.size) (e := 2) (size := 1) w #[] 0 (Nat.le_refl _) (by decide) (by decide)).alloc _, by
    have := World.ownsRow_lit (base := w.heap.size) (e := 2) (size := 1) (w.alloc (.cells #[] 2)) #[] 0 (by simp) (by decide) (by decide)
    rwa [World.size_alloc] at this, by omega, (hs.alloc _).alloc _, grown_alloc (grown_alloc (grown_refl _ _) _) _, rfl, rfl⟩
theorem D2.draw (h : D2 w s g1 c1 n1 L1 g2 c2 n2 L2 W) (hs : s < w.heap.size) (h1 : Src W' s) (h2 : W.grownBy W' (some s)) : D2 w s g1 c1 n1 L1 g2 c2 n2 L2 W' :=
  ⟨h.row.kept h2 (Or.inr (by have := h.lo; simp [Value.ownBlock]; omega)), h.row2.kept h2 (Or.inr (by have := h.lo; simp [Value.ownBlock]; omega)), h.ne, h1, grown_trans h.grw h2, h.len, h.len2⟩
theorem D2.al (h : D2 w s g1 c1 n1 L1 g2 c2 n2 L2 W) (o : Obj) : D2 w s g1 c1 n1 L1 g2 c2 n2 L2 (W.alloc o) := ⟨h.row.alloc o, h.row2.alloc o, h.ne, h.src.alloc o, grown_alloc h.grw o, h.len, h.len2⟩
theorem D2.put {w9 : World} {o : Obj} {g' c' : Nat} {x : Int} (h : D2 w s g1 c1 n1 L1 g2 c2 n2 L2 W) (hs : s < w.heap.size) (hown : w9.ownsRow w.heap.size 2 1 (.slice (some ⟨g', 0, none⟩) (n1 + 1) c') (n1 + 1) (L1.map iv4 ++ [.int .i64 x])) (hg : (W.alloc o).grownBy w9 (some g1)) (hat : (some g1 : Option Nat) = some g' ∨ g' = W.heap.size + 1) : D2 w s g' c' (n1 + 1) (L1 ++ [x]) g2 c2 n2 L2 w9 :=
  ⟨by rw [List.map_append]; exact hown, (h.al o).row2.kept hg (Or.inr (by have := h.ne; simp [Value.ownBlock]; omega)), by
    rcases hat with e | e
    · injection e with e; rw [← e]; exact h.ne
    · have := h.lo; omega, srcP_far (h.al o).src hg (by have := h.lo; omega), grownP_far (h.al o).grw hg h.lo.1.1, by rw [List.length_append, h.len]; rfl, h.len2⟩
theorem D2.ints (h : D2 w s g1 c1 n1 L1 g2 c2 n2 L2 W) : Ints .i64 W W.heap.size (some ⟨g1, 0, none⟩) L1 := own_ints (B := w.heap.size) (c := c1) (by rw [h.len]; exact h.row)
end
/-- a pulse, delays, gains, a length -/
def EchC (w : World) (e : Ending) (w' : World) : Prop := ∃ (a0 a1 a2 : Option Addr) (c0 n0 c1 n1 c2 n2 : Nat) (ps ds gs : List Int) (len : Int), e = .returned (.tuple #[.slice a0 n0 c0, .slice a1 n1 c1, .slice a2 n2 c2, .int .i64 len]) ∧ (ps.length = n0 ∧ ds.length = n1 ∧ gs.length = n2) ∧ (n0 ≤ 401 ∧ n1 ≤ 401 ∧ n2 ≤ 401) ∧ Ints .i64 w' w'.heap.size a0 ps ∧ Ints .i64 w' w'.heap.size a1 ds ∧ Ints .i64 w' w'.heap.size a2 gs ∧ Below w.heap.size w w'

set_option maxRecDepth 100000 in
set_option maxHeartbeats 8000000 in
theorem dec_any (w : World) (a : Option Addr) (cap : Nat) (zs : List Int) (h : Code8 w w.heap.size a zs) :
    Calls Try.prog 29 #[.slice a zs.length cap] w (EchC w) := by
  have H := Lib.hid h
  clear h
  obtain ⟨i0, hi, hz0, hz1, hz2⟩ := info_parts info_i64
  go_enter Try.func29, Try.ntmps29
  go_wp2_with fail
  refine (from_any _ _ _ zs H.out).mono ?_
  rintro e w1 ⟨s, rfl, hs, hsrc, hb⟩
  have HS := Lib.hid hsrc
  have HB := Lib.hid hb
  have hlt := hsrc.lt
  have hsz := hb.size
  clear hsrc hb
  go_wp2_with fail
  refine (dbt_any _ _ 8 (by decide) (by decide) HS.out).mono ?_
  rintro e w2 ⟨gp, cp, np, ps, rfl, hn, hD⟩
  have hnp : np ≤ 401 := Nat.le_trans hn (by decide)
  have HP := Lib.hid hD
  clear hD hn
  go_wp2_with fail
  refine (nxt_any _ _ _ HP.out.src).mono ?_
  rintro e w3 ⟨t, rfl, t0, t1, -, hs1, hg⟩
  replace HP := Lib.hid (HP.out.draw hlt hs1 hg)
  clear hs1 hg
  have ht := t1 (by omega)
  clear t1
  by_cases ht0 : t = 0
  case pos =>
    subst ht0
    go_wp2_with fail
    refine (dsg_any _ _ HP.out.src).mono ?_
    rintro e w4 ⟨gpB, cpB, npB, ps2, rfl, hn2, hD2⟩
    have hw3 := HP.out.grw.size
    have HB3 : Hid (Below w.heap.size w w3) := Lib.hid (HP.out.below HB.out hs)
    have hlt3 : s < w3.heap.size := HP.out.src.lt
    clear HP HS hnp
    replace HB := HB3
    have HP := Lib.hid hD2
    clear hD2 HB3
    replace hlt := hlt3
    replace hsz : w.heap.size ≤ w3.heap.size := by omega
    go_wp2_with fail
    refine (nxt_any _ _ _ HP.out.src).mono ?_
    rintro e wq ⟨len, rfl, len0, len1, -, hs1, hg⟩
    replace HP := Lib.hid (HP.out.draw hlt hs1 hg)
    clear hs1 hg
    have hlen := len1 (by omega)
    clear len1
    have hsp := hlt
    replace hlt : s < wq.heap.size := HP.out.src.lt
    have HD0 := Lib.hid (D2.lit HP.out.src)
    go_upto_region 7 with fail
    obtain ⟨W, hW⟩ : ∃ X, X = (wq.alloc (.cells #[] 2)).alloc (.cells #[] 2) := ⟨_, rfl⟩
    rw [← hW] at HD0 ⊢
    clear hW
    have HD := Lib.hid HD0.out
    clear HD0
    go_wp2_with fail
    refine (nxt_any _ _ _ HD.out.src).mono ?_
    rintro e w5 ⟨k, rfl, k0, k1, -, hs1, hg⟩
    replace HD := Lib.hid (HD.out.draw hlt hs1 hg)
    clear hs1 hg
    have hk := k1 (by omega)
    clear k1
    go_wp2_with fail
    go_loopw [9, 10, 11] (fun u v y wr => ∃ (ge ce n : Nat) (L1 : List Int) (gf cf m : Nat) (L2 : List Int) (r : Int), u = .slice (some ⟨ge, 0, none⟩) n ce ∧ v = .slice (some ⟨gf, 0, none⟩) m cf ∧ y = .int .i64 r ∧ 0 ≤ r ∧ (n : Int) + r ≤ 5 ∧ (m : Int) + r ≤ 5 ∧ D2 wq s ge ce n L1 gf cf m L2 wr) (fun _ _ y _ => (intOf y).toNat)
    case atStart => exact ⟨_, _, _, _, _, _, _, _, k, rfl, rfl, rfl, k0, by simp; omega, by simp; omega, HD.out⟩
    case round =>
      obtain ⟨ge, ce, n, L1, gf, cf, m, L2, r, rfl, rfl, rfl, hr0, hrn, hrm, hD⟩ := hrel
      replace HD := Lib.hid hD
      clear hD
      by_cases hr : 0 < r
      · obtain ⟨M, hM⟩ : ∃ M : Int, (if 1 < len - (npB : Int) + 1 then len - (npB : Int) + 1 else 1) = M := ⟨_, rfl⟩
        go_wp2_with fail
        refine (nxt_any _ _ _ HD.out.src).mono ?_
        rintro e wz ⟨b, rfl, b0, b1, -, hs1, hg⟩
        replace HD := Lib.hid (HD.out.draw hlt hs1 hg)
        clear hs1 hg
        clear b1
        go_wp2_with (at_builtin; refine wpList_append_lies _ rfl _ _ 24 rfl _ 2 i0 (.int .i64 0) 1 8 Try.underlying24 hi hz0 hz1 hz2 rfl (by decide) (.slice (some ⟨ge, 0, none⟩) n ce) n ((L1).map iv4) rfl (HD.out.row.alloc _) ⟨wz.heap.size, 0, none⟩ 1 1 [.int .i64 b] rfl rfl (World.news_of_block (cs := #[.int .i64 b]) (t := 2) (fr := (0, 0)) (heap_alloc_new wz _)) (by simp [Value.oneCell']) (by decide) (by unfold maxLen; omega) (by omega) (by have := HD.out.grw.size; simp; omega) (wz.heap.size + 1) (by simp) ?_; intro g2 cp2 w9 hown hgrow hat hlt9; have HD9 := Lib.hid (HD.out.put hlt hown hgrow hat); clear hown hgrow hat hlt9)
        replace HD := Lib.hid HD9.out.swap
        clear HD9
        go_wp2_with fail
        refine (nxt_any _ _ _ HD.out.src).mono ?_
        rintro e wy ⟨d, rfl, d0, d1, -, hs1, hg⟩
        replace HD := Lib.hid (HD.out.draw hlt hs1 hg)
        clear hs1 hg
        have hd := d1 (by omega)
        clear d1
        go_wp2_with (at_builtin; refine wpList_append_lies _ rfl _ _ 24 rfl _ 2 i0 (.int .i64 0) 1 8 Try.underlying24 hi hz0 hz1 hz2 rfl (by decide) (.slice (some ⟨gf, 0, none⟩) m cf) m ((L2).map iv4) rfl (HD.out.row.alloc _) ⟨wy.heap.size, 0, none⟩ 1 1 [.int .i64 (d - 20)] rfl rfl (World.news_of_block (cs := #[.int .i64 (d - 20)]) (t := 2) (fr := (0, 0)) (heap_alloc_new wy _)) (by simp [Value.oneCell']) (by decide) (by unfold maxLen; omega) (by omega) (by have := HD.out.grw.size; simp; omega) (wy.heap.size + 1) (by simp) ?_; intro g3 cp3 w8 hown hgrow hat hlt9; have HD8 := Lib.hid (HD.out.put hlt hown hgrow hat); clear hown hgrow hat hlt9)
        go_wp2_with fail
        go_roundw
        case rel => exact ⟨g2, cp2, n + 1, _, g3, cp3, m + 1, _, r - 1, rfl, rfl, rfl, by omega, by omega, by omega, HD8.out.swap⟩
        case measure => simp [intOf]; omega
      · go_wp2_with fail
        refine (nxt_any _ _ _ HD.out.src).mono ?_
        rintro e w6 ⟨q, rfl, q0, q1, -, hs1, hg⟩
        replace HD := Lib.hid (HD.out.draw hlt hs1 hg)
        clear hs1 hg
        have hq := q1 (by omega)
        clear q1
        by_cases h0 : q = 0
        · subst h0
          go_wp2_with fail
          refine (pick_new _ s 3 3 [-1, 400, 401] _ HD.out.src rfl (by omega) (by omega) ?hc).mono ?_
          case hc => intro j hj; match j, hj with
            | 0, _ => rfl
            | 1, _ => rfl
            | 2, _ => rfl
          rintro e w7 ⟨j, hj, rfl, hs1, hg⟩
          replace HD := Lib.hid ((HD.out.al _).draw hlt hs1 hg)
          clear hs1 hg
          obtain ⟨v, hv⟩ : ∃ v : Int, [(-1 : Int), 400, 401].getD j 0 = v := ⟨_, rfl⟩
          rw [hv]
          clear hv hj
          go_wp2
          exact bodyPost_ret (v := .tuple #[.slice (some ⟨gpB, 0, none⟩) npB cpB, .slice (some ⟨ge, 0, none⟩) (n) ce, .slice (some ⟨gf, 0, none⟩) (m) cf, .int .i64 (v)]) (by simp [results, Try.results29, go_sem]) rfl ⟨_, _, _, _, _, _, _, _, _, _, _, _, _, rfl, ⟨HP.out.len, HD.out.len, HD.out.len2⟩, ⟨by omega, by omega, by omega⟩, HP.out.far hsp HD.out.grw, HD.out.ints, HD.out.swap.ints, (HP.out.below HB.out hs).trans (below_of_grown HD.out.grw hs (Nat.le_trans hsz HP.out.grw.size))⟩
        · have hqf : (q == 0) = false := by simpa using h0
          by_cases h1 : q = 1
          · subst h1
            replace HD := Lib.hid HD.out.swap
            go_wp2_with (at_builtin; refine wpList_append_lies _ rfl _ _ 24 rfl _ 2 i0 (.int .i64 0) 1 8 Try.underlying24 hi hz0 hz1 hz2 rfl (by decide) (.slice (some ⟨gf, 0, none⟩) m cf) m ((L2).map iv4) rfl (HD.out.row.alloc _) ⟨w6.heap.size, 0, none⟩ 1 1 [.int .i64 1] rfl rfl (World.news_of_block (cs := #[.int .i64 1]) (t := 2) (fr := (0, 0)) (heap_alloc_new w6 _)) (by simp [Value.oneCell']) (by decide) (by unfold maxLen; omega) (by omega) (by have := HD.out.grw.size; simp; omega) (w6.heap.size + 1) (by simp) ?_; intro g2 cp2 w9 hown hgrow hat hlt9; have HD9 := Lib.hid (HD.out.put hlt hown hgrow hat); clear hown hgrow hat hlt9)
            replace HD9 := Lib.hid HD9.out.swap
            go_wp2
            exact bodyPost_ret (v := .tuple #[.slice (some ⟨gpB, 0, none⟩) npB cpB, .slice (some ⟨ge, 0, none⟩) (n) ce, .slice (some ⟨g2, 0, none⟩) (m + 1) cp2, .int .i64 (len)]) (by simp [results, Try.results29, go_sem]) rfl ⟨_, _, _, _, _, _, _, _, _, _, _, _, _, rfl, ⟨HP.out.len, HD9.out.len, HD9.out.len2⟩, ⟨by omega, by omega, by omega⟩, HP.out.far hsp HD9.out.grw, HD9.out.ints, HD9.out.swap.ints, (HP.out.below HB.out hs).trans (below_of_grown HD9.out.grw hs (Nat.le_trans hsz HP.out.grw.size))⟩
          · have hqf1 : (q == 1) = false := by simpa using h1
            by_cases h2 : q = 2
            · subst h2
              go_wp2_with fail
              refine (pick_new _ s 2 2 [-1, len] _ HD.out.src rfl (by omega) (by omega) ?hc).mono ?_
              case hc => intro j hj; match j, hj with
                | 0, _ => rfl
                | 1, _ => rfl
              rintro e w7 ⟨j, hj, rfl, hs1, hg⟩
              replace HD := Lib.hid ((HD.out.al _).draw hlt hs1 hg)
              clear hs1 hg
              obtain ⟨v, hv⟩ : ∃ v : Int, [(-1 : Int), len].getD j 0 = v := ⟨_, rfl⟩
              rw [hv]
              clear hv hj
              go_wp2_with (at_builtin; refine wpList_append_lies _ rfl _ _ 24 rfl _ 2 i0 (.int .i64 0) 1 8 Try.underlying24 hi hz0 hz1 hz2 rfl (by decide) (.slice (some ⟨ge, 0, none⟩) n ce) n ((L1).map iv4) rfl (HD.out.row.alloc _) ⟨w7.heap.size, 0, none⟩ 1 1 [.int .i64 v] rfl rfl (World.news_of_block (cs := #[.int .i64 v]) (t := 2) (fr := (0, 0)) (heap_alloc_new w7 _)) (by simp [Value.oneCell']) (by decide) (by unfold maxLen; omega) (by omega) (by have := HD.out.grw.size; simp; omega) (w7.heap.size + 1) (by simp) ?_; intro g2 cp2 w9 hown hgrow hat hlt9; have HD9 := Lib.hid (HD.out.put hlt hown hgrow hat); clear hown hgrow hat hlt9)
              replace HD := Lib.hid HD9.out.swap
              clear HD9
              go_wp2_with fail
              refine (pick_new _ s 2 2 [1000, 1001] _ HD.out.src rfl (by omega) (by omega) ?hc).mono ?_
              case hc => intro j hj; match j, hj with
                | 0, _ => rfl
                | 1, _ => rfl
              rintro e w8 ⟨j, hj, rfl, hs1, hg⟩
              replace HD := Lib.hid ((HD.out.al _).draw hlt hs1 hg)
              clear hs1 hg
              obtain ⟨u, hv⟩ : ∃ v : Int, [(1000 : Int), 1001].getD j 0 = v := ⟨_, rfl⟩
              rw [hv]
              clear hv hj
              go_wp2_with (at_builtin; refine wpList_append_lies _ rfl _ _ 24 rfl _ 2 i0 (.int .i64 0) 1 8 Try.underlying24 hi hz0 hz1 hz2 rfl (by decide) (.slice (some ⟨gf, 0, none⟩) m cf) m ((L2).map iv4) rfl (HD.out.row.alloc _) ⟨w8.heap.size, 0, none⟩ 1 1 [.int .i64 u] rfl rfl (World.news_of_block (cs := #[.int .i64 u]) (t := 2) (fr := (0, 0)) (heap_alloc_new w8 _)) (by simp [Value.oneCell']) (by decide) (by unfold maxLen; omega) (by omega) (by have := HD.out.grw.size; simp; omega) (w8.heap.size + 1) (by simp) ?_; intro g3 cp3 w10 hown hgrow hat hlt9; have HD8 := Lib.hid (HD.out.put hlt hown hgrow hat); clear hown hgrow hat hlt9)
              replace HD8 := Lib.hid HD8.out.swap
              go_wp2
              exact bodyPost_ret (v := .tuple #[.slice (some ⟨gpB, 0, none⟩) npB cpB, .slice (some ⟨g2, 0, none⟩) (n + 1) cp2, .slice (some ⟨g3, 0, none⟩) (m + 1) cp3, .int .i64 (len)]) (by simp [results, Try.results29, go_sem]) rfl ⟨_, _, _, _, _, _, _, _, _, _, _, _, _, rfl, ⟨HP.out.len, HD8.out.len, HD8.out.len2⟩, ⟨by omega, by omega, by omega⟩, HP.out.far hsp HD8.out.grw, HD8.out.ints, HD8.out.swap.ints, (HP.out.below HB.out hs).trans (below_of_grown HD8.out.grw hs (Nat.le_trans hsz HP.out.grw.size))⟩
            · have hqf2 : (q == 2) = false := by simpa using h2
              go_wp2
              exact bodyPost_ret (v := .tuple #[.slice (some ⟨gpB, 0, none⟩) npB cpB, .slice (some ⟨ge, 0, none⟩) (n) ce, .slice (some ⟨gf, 0, none⟩) (m) cf, .int .i64 (len)]) (by simp [results, Try.results29, go_sem]) rfl ⟨_, _, _, _, _, _, _, _, _, _, _, _, _, rfl, ⟨HP.out.len, HD.out.len, HD.out.len2⟩, ⟨by omega, by omega, by omega⟩, HP.out.far hsp HD.out.grw, HD.out.ints, HD.out.swap.ints, (HP.out.below HB.out hs).trans (below_of_grown HD.out.grw hs (Nat.le_trans hsz HP.out.grw.size))⟩
  case neg =>
    have htf : (t == 0) = false := by simpa using ht0
    go_wp2_with fail
    refine (nxt_any _ _ _ HP.out.src).mono ?_
    rintro e wq ⟨len, rfl, len0, len1, -, hs1, hg⟩
    replace HP := Lib.hid (HP.out.draw hlt hs1 hg)
    clear hs1 hg
    have hlen := len1 (by omega)
    clear len1
    have hsp := hlt
    replace hlt : s < wq.heap.size := HP.out.src.lt
    have HD0 := Lib.hid (D2.lit HP.out.src)
    go_upto_region 7 with fail
    obtain ⟨W, hW⟩ : ∃ X, X = (wq.alloc (.cells #[] 2)).alloc (.cells #[] 2) := ⟨_, rfl⟩
    rw [← hW] at HD0 ⊢
    clear hW
    have HD := Lib.hid HD0.out
    clear HD0
    go_wp2_with fail
    refine (nxt_any _ _ _ HD.out.src).mono ?_
    rintro e w5 ⟨k, rfl, k0, k1, -, hs1, hg⟩
    replace HD := Lib.hid (HD.out.draw hlt hs1 hg)
    clear hs1 hg
    have hk := k1 (by omega)
    clear k1
    go_wp2_with fail
    go_loopw [9, 10, 11] (fun u v y wr => ∃ (ge ce n : Nat) (L1 : List Int) (gf cf m : Nat) (L2 : List Int) (r : Int), u = .slice (some ⟨ge, 0, none⟩) n ce ∧ v = .slice (some ⟨gf, 0, none⟩) m cf ∧ y = .int .i64 r ∧ 0 ≤ r ∧ (n : Int) + r ≤ 5 ∧ (m : Int) + r ≤ 5 ∧ D2 wq s ge ce n L1 gf cf m L2 wr) (fun _ _ y _ => (intOf y).toNat)
    case atStart => exact ⟨_, _, _, _, _, _, _, _, k, rfl, rfl, rfl, k0, by simp; omega, by simp; omega, HD.out⟩
    case round =>
      obtain ⟨ge, ce, n, L1, gf, cf, m, L2, r, rfl, rfl, rfl, hr0, hrn, hrm, hD⟩ := hrel
      replace HD := Lib.hid hD
      clear hD
      by_cases hr : 0 < r
      · obtain ⟨M, hM⟩ : ∃ M : Int, (if 1 < len - (np : Int) + 1 then len - (np : Int) + 1 else 1) = M := ⟨_, rfl⟩
        go_wp2_with fail
        refine (nxt_any _ _ _ HD.out.src).mono ?_
        rintro e wz ⟨b, rfl, b0, b1, -, hs1, hg⟩
        replace HD := Lib.hid (HD.out.draw hlt hs1 hg)
        clear hs1 hg
        clear b1
        go_wp2_with (at_builtin; refine wpList_append_lies _ rfl _ _ 24 rfl _ 2 i0 (.int .i64 0) 1 8 Try.underlying24 hi hz0 hz1 hz2 rfl (by decide) (.slice (some ⟨ge, 0, none⟩) n ce) n ((L1).map iv4) rfl (HD.out.row.alloc _) ⟨wz.heap.size, 0, none⟩ 1 1 [.int .i64 b] rfl rfl (World.news_of_block (cs := #[.int .i64 b]) (t := 2) (fr := (0, 0)) (heap_alloc_new wz _)) (by simp [Value.oneCell']) (by decide) (by unfold maxLen; omega) (by omega) (by have := HD.out.grw.size; simp; omega) (wz.heap.size + 1) (by simp) ?_; intro g2 cp2 w9 hown hgrow hat hlt9; have HD9 := Lib.hid (HD.out.put hlt hown hgrow hat); clear hown hgrow hat hlt9)
        replace HD := Lib.hid HD9.out.swap
        clear HD9
        go_wp2_with fail
        refine (nxt_any _ _ _ HD.out.src).mono ?_
        rintro e wy ⟨d, rfl, d0, d1, -, hs1, hg⟩
        replace HD := Lib.hid (HD.out.draw hlt hs1 hg)
        clear hs1 hg
        have hd := d1 (by omega)
        clear d1
        go_wp2_with (at_builtin; refine wpList_append_lies _ rfl _ _ 24 rfl _ 2 i0 (.int .i64 0) 1 8 Try.underlying24 hi hz0 hz1 hz2 rfl (by decide) (.slice (some ⟨gf, 0, none⟩) m cf) m ((L2).map iv4) rfl (HD.out.row.alloc _) ⟨wy.heap.size, 0, none⟩ 1 1 [.int .i64 (d - 20)] rfl rfl (World.news_of_block (cs := #[.int .i64 (d - 20)]) (t := 2) (fr := (0, 0)) (heap_alloc_new wy _)) (by simp [Value.oneCell']) (by decide) (by unfold maxLen; omega) (by omega) (by have := HD.out.grw.size; simp; omega) (wy.heap.size + 1) (by simp) ?_; intro g3 cp3 w8 hown hgrow hat hlt9; have HD8 := Lib.hid (HD.out.put hlt hown hgrow hat); clear hown hgrow hat hlt9)
        go_wp2_with fail
        go_roundw
        case rel => exact ⟨g2, cp2, n + 1, _, g3, cp3, m + 1, _, r - 1, rfl, rfl, rfl, by omega, by omega, by omega, HD8.out.swap⟩
        case measure => simp [intOf]; omega
      · go_wp2_with fail
        refine (nxt_any _ _ _ HD.out.src).mono ?_
        rintro e w6 ⟨q, rfl, q0, q1, -, hs1, hg⟩
        replace HD := Lib.hid (HD.out.draw hlt hs1 hg)
        clear hs1 hg
        have hq := q1 (by omega)
        clear q1
        by_cases h0 : q = 0
        · subst h0
          go_wp2_with fail
          refine (pick_new _ s 3 3 [-1, 400, 401] _ HD.out.src rfl (by omega) (by omega) ?hc).mono ?_
          case hc => intro j hj; match j, hj with
            | 0, _ => rfl
            | 1, _ => rfl
            | 2, _ => rfl
          rintro e w7 ⟨j, hj, rfl, hs1, hg⟩
          replace HD := Lib.hid ((HD.out.al _).draw hlt hs1 hg)
          clear hs1 hg
          obtain ⟨v, hv⟩ : ∃ v : Int, [(-1 : Int), 400, 401].getD j 0 = v := ⟨_, rfl⟩
          rw [hv]
          clear hv hj
          go_wp2
          exact bodyPost_ret (v := .tuple #[.slice (some ⟨gp, 0, none⟩) np cp, .slice (some ⟨ge, 0, none⟩) (n) ce, .slice (some ⟨gf, 0, none⟩) (m) cf, .int .i64 (v)]) (by simp [results, Try.results29, go_sem]) rfl ⟨_, _, _, _, _, _, _, _, _, _, _, _, _, rfl, ⟨HP.out.len, HD.out.len, HD.out.len2⟩, ⟨by omega, by omega, by omega⟩, HP.out.far hsp HD.out.grw, HD.out.ints, HD.out.swap.ints, (HP.out.below HB.out hs).trans (below_of_grown HD.out.grw hs (Nat.le_trans hsz HP.out.grw.size))⟩
        · have hqf : (q == 0) = false := by simpa using h0
          by_cases h1 : q = 1
          · subst h1
            replace HD := Lib.hid HD.out.swap
            go_wp2_with (at_builtin; refine wpList_append_lies _ rfl _ _ 24 rfl _ 2 i0 (.int .i64 0) 1 8 Try.underlying24 hi hz0 hz1 hz2 rfl (by decide) (.slice (some ⟨gf, 0, none⟩) m cf) m ((L2).map iv4) rfl (HD.out.row.alloc _) ⟨w6.heap.size, 0, none⟩ 1 1 [.int .i64 1] rfl rfl (World.news_of_block (cs := #[.int .i64 1]) (t := 2) (fr := (0, 0)) (heap_alloc_new w6 _)) (by simp [Value.oneCell']) (by decide) (by unfold maxLen; omega) (by omega) (by have := HD.out.grw.size; simp; omega) (w6.heap.size + 1) (by simp) ?_; intro g2 cp2 w9 hown hgrow hat hlt9; have HD9 := Lib.hid (HD.out.put hlt hown hgrow hat); clear hown hgrow hat hlt9)
            replace HD9 := Lib.hid HD9.out.swap
            go_wp2
            exact bodyPost_ret (v := .tuple #[.slice (some ⟨gp, 0, none⟩) np cp, .slice (some ⟨ge, 0, none⟩) (n) ce, .slice (some ⟨g2, 0, none⟩) (m + 1) cp2, .int .i64 (len)]) (by simp [results, Try.results29, go_sem]) rfl ⟨_, _, _, _, _, _, _, _, _, _, _, _, _, rfl, ⟨HP.out.len, HD9.out.len, HD9.out.len2⟩, ⟨by omega, by omega, by omega⟩, HP.out.far hsp HD9.out.grw, HD9.out.ints, HD9.out.swap.ints, (HP.out.below HB.out hs).trans (below_of_grown HD9.out.grw hs (Nat.le_trans hsz HP.out.grw.size))⟩
          · have hqf1 : (q == 1) = false := by simpa using h1
            by_cases h2 : q = 2
            · subst h2
              go_wp2_with fail
              refine (pick_new _ s 2 2 [-1, len] _ HD.out.src rfl (by omega) (by omega) ?hc).mono ?_
              case hc => intro j hj; match j, hj with
                | 0, _ => rfl
                | 1, _ => rfl
              rintro e w7 ⟨j, hj, rfl, hs1, hg⟩
              replace HD := Lib.hid ((HD.out.al _).draw hlt hs1 hg)
              clear hs1 hg
              obtain ⟨v, hv⟩ : ∃ v : Int, [(-1 : Int), len].getD j 0 = v := ⟨_, rfl⟩
              rw [hv]
              clear hv hj
              go_wp2_with (at_builtin; refine wpList_append_lies _ rfl _ _ 24 rfl _ 2 i0 (.int .i64 0) 1 8 Try.underlying24 hi hz0 hz1 hz2 rfl (by decide) (.slice (some ⟨ge, 0, none⟩) n ce) n ((L1).map iv4) rfl (HD.out.row.alloc _) ⟨w7.heap.size, 0, none⟩ 1 1 [.int .i64 v] rfl rfl (World.news_of_block (cs := #[.int .i64 v]) (t := 2) (fr := (0, 0)) (heap_alloc_new w7 _)) (by simp [Value.oneCell']) (by decide) (by unfold maxLen; omega) (by omega) (by have := HD.out.grw.size; simp; omega) (w7.heap.size + 1) (by simp) ?_; intro g2 cp2 w9 hown hgrow hat hlt9; have HD9 := Lib.hid (HD.out.put hlt hown hgrow hat); clear hown hgrow hat hlt9)
              replace HD := Lib.hid HD9.out.swap
              clear HD9
              go_wp2_with fail
              refine (pick_new _ s 2 2 [1000, 1001] _ HD.out.src rfl (by omega) (by omega) ?hc).mono ?_
              case hc => intro j hj; match j, hj with
                | 0, _ => rfl
                | 1, _ => rfl
              rintro e w8 ⟨j, hj, rfl, hs1, hg⟩
              replace HD := Lib.hid ((HD.out.al _).draw hlt hs1 hg)
              clear hs1 hg
              obtain ⟨u, hv⟩ : ∃ v : Int, [(1000 : Int), 1001].getD j 0 = v := ⟨_, rfl⟩
              rw [hv]
              clear hv hj
              go_wp2_with (at_builtin; refine wpList_append_lies _ rfl _ _ 24 rfl _ 2 i0 (.int .i64 0) 1 8 Try.underlying24 hi hz0 hz1 hz2 rfl (by decide) (.slice (some ⟨gf, 0, none⟩) m cf) m ((L2).map iv4) rfl (HD.out.row.alloc _) ⟨w8.heap.size, 0, none⟩ 1 1 [.int .i64 u] rfl rfl (World.news_of_block (cs := #[.int .i64 u]) (t := 2) (fr := (0, 0)) (heap_alloc_new w8 _)) (by simp [Value.oneCell']) (by decide) (by unfold maxLen; omega) (by omega) (by have := HD.out.grw.size; simp; omega) (w8.heap.size + 1) (by simp) ?_; intro g3 cp3 w10 hown hgrow hat hlt9; have HD8 := Lib.hid (HD.out.put hlt hown hgrow hat); clear hown hgrow hat hlt9)
              replace HD8 := Lib.hid HD8.out.swap
              go_wp2
              exact bodyPost_ret (v := .tuple #[.slice (some ⟨gp, 0, none⟩) np cp, .slice (some ⟨g2, 0, none⟩) (n + 1) cp2, .slice (some ⟨g3, 0, none⟩) (m + 1) cp3, .int .i64 (len)]) (by simp [results, Try.results29, go_sem]) rfl ⟨_, _, _, _, _, _, _, _, _, _, _, _, _, rfl, ⟨HP.out.len, HD8.out.len, HD8.out.len2⟩, ⟨by omega, by omega, by omega⟩, HP.out.far hsp HD8.out.grw, HD8.out.ints, HD8.out.swap.ints, (HP.out.below HB.out hs).trans (below_of_grown HD8.out.grw hs (Nat.le_trans hsz HP.out.grw.size))⟩
            · have hqf2 : (q == 2) = false := by simpa using h2
              go_wp2
              exact bodyPost_ret (v := .tuple #[.slice (some ⟨gp, 0, none⟩) np cp, .slice (some ⟨ge, 0, none⟩) (n) ce, .slice (some ⟨gf, 0, none⟩) (m) cf, .int .i64 (len)]) (by simp [results, Try.results29, go_sem]) rfl ⟨_, _, _, _, _, _, _, _, _, _, _, _, _, rfl, ⟨HP.out.len, HD.out.len, HD.out.len2⟩, ⟨by omega, by omega, by omega⟩, HP.out.far hsp HD.out.grw, HD.out.ints, HD.out.swap.ints, (HP.out.below HB.out hs).trans (below_of_grown HD.out.grw hs (Nat.le_trans hsz HP.out.grw.size))⟩
end Go.Proofs.Ytpnebnjpeiieaaa
