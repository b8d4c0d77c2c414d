/- The model's draws of the arguments of chapter 13. -/
import Derived.Test.YtgdnapioboodbaaThM
import Derived.Test.YtgdnapioboodbaaPuD
namespace Go.Proofs.Ytgdnapioboodbaa
open Go.ChangeShapes Go.WideShapes Go.ChangeAt Go.RowKit Go.Shelf Num
set_option linter.unusedVariables false
set_option linter.unusedSimpArgs false

def Dr2 (w : World) (s : Nat) (e : Ending) (w' : World) : Prop := ∃ x y : Int, e = .returned (.tuple #[.int .i64 x, .int .i64 y]) ∧ Src w' s ∧ w.grownBy w' (some s)
def Tn3 (w : World) (e : Ending) (w' : World) : Prop := ∃ x y z : Int, e = .returned (.tuple #[.int .i64 x, .int .i64 y, .int .i64 z]) ∧ Below w.heap.size w w'
def Tn4 (w : World) (e : Ending) (w' : World) : Prop := ∃ x y z t : Int, e = .returned (.tuple #[.int .i64 x, .int .i64 y, .int .i64 z, .int .i64 t]) ∧ Below w.heap.size w w'

set_option maxRecDepth 100000 in
set_option maxHeartbeats 4000000 in
theorem d13_any (w : World) (s : Nat) (h : Src w s) :
    Calls Try.prog 40 #[.pointer (some ⟨s, 0, none⟩)] w (Dr2 w s) := by
  have hlt := h.lt
  have HS := Lib.hid h
  have HG := Lib.hid (grown_refl w s)
  have hls := HS.out.lt
  clear h
  go_enter Try.func40, Try.ntmps40
  go_wp2_with fail
  refine (nxt_any _ _ _ HS.out).mono ?_
  rintro e ws1 ⟨q, rfl, -, -, -, hs, hg⟩
  replace HG := Lib.hid (grown_trans HG.out hg)
  replace HS := Lib.hid hs
  replace hls := HS.out.lt
  clear hs hg
  by_cases h0 : q = 0
  case pos =>
    subst h0
    go_wp2_with fail
    generalize hW : World.alloc _ _ = wp2
    have hb : Below ws1.heap.size ws1 wp2 := by rw [← hW]; exact (Below.refl _ _).alloc (Nat.le_refl _) _
    have KQ := Lib.hid (pick4 wp2 s ws1.heap.size 4 _ _ _ _ (HS.out.bel hb) (by have := HS.out.lt; omega) (by rw [← hW]; exact heap_alloc_new _ _))
    clear hW
    replace HG := Lib.hid (grown_bel HG.out hb)
    replace HS := Lib.hid (HS.out.bel hb)
    replace hls := HS.out.lt
    clear hb
    refine KQ.out.mono ?_
    rintro e ws3 ⟨x, rfl, hs, hg⟩
    clear KQ
    replace HG := Lib.hid (grown_trans HG.out hg)
    replace HS := Lib.hid hs
    replace hls := HS.out.lt
    clear hs hg
    go_wp2_with fail
    generalize hW : World.alloc _ _ = wp4
    have hb : Below ws3.heap.size ws3 wp4 := by rw [← hW]; exact (Below.refl _ _).alloc (Nat.le_refl _) _
    have KQ := Lib.hid (pick4 wp4 s ws3.heap.size 4 _ _ _ _ (HS.out.bel hb) (by have := HS.out.lt; omega) (by rw [← hW]; exact heap_alloc_new _ _))
    clear hW
    replace HG := Lib.hid (grown_bel HG.out hb)
    replace HS := Lib.hid (HS.out.bel hb)
    replace hls := HS.out.lt
    clear hb
    refine KQ.out.mono ?_
    rintro e ws5 ⟨y, rfl, hs, hg⟩
    clear KQ
    replace HG := Lib.hid (grown_trans HG.out hg)
    replace HS := Lib.hid hs
    replace hls := HS.out.lt
    clear hs hg
    go_wp2
    go_ret2
    exact ⟨x, y, rfl, HS.out, HG.out⟩
  case neg =>
    have h0b : (q == 0) = false := by simpa using h0
    clear h0
    go_wp2_with fail
    refine (nxt_any _ _ _ HS.out).mono ?_
    rintro e ws2 ⟨x, rfl, -, -, -, hs, hg⟩
    replace HG := Lib.hid (grown_trans HG.out hg)
    replace HS := Lib.hid hs
    replace hls := HS.out.lt
    clear hs hg
    go_wp2_with fail
    refine (nxt_any _ _ _ HS.out).mono ?_
    rintro e ws3 ⟨y, rfl, -, -, -, hs, hg⟩
    replace HG := Lib.hid (grown_trans HG.out hg)
    replace HS := Lib.hid hs
    replace hls := HS.out.lt
    clear hs hg
    go_wp2
    go_ret2
    exact ⟨x, y, rfl, HS.out, HG.out⟩

set_option maxRecDepth 100000 in
set_option maxHeartbeats 4000000 in
theorem dpa13_any (w : World) (s : Nat) (h : Src w s) :
    Calls Try.prog 50 #[.pointer (some ⟨s, 0, none⟩)] w (Dr2 w s) := by
  have hlt := h.lt
  have HS := Lib.hid h
  have HG := Lib.hid (grown_refl w s)
  have hls := HS.out.lt
  clear h
  go_enter Try.func50, Try.ntmps50
  go_wp2_with fail
  refine (nxt_any _ _ _ HS.out).mono ?_
  rintro e ws1 ⟨d, rfl, -, -, -, hs, hg⟩
  replace HG := Lib.hid (grown_trans HG.out hg)
  replace HS := Lib.hid hs
  replace hls := HS.out.lt
  clear hs hg
  obtain ⟨D, hD⟩ : ∃ x, IntKind.wrap .i64 (1 + d) = x := ⟨_, rfl⟩
  go_wp2_with fail
  refine (nxt_any _ _ _ HS.out).mono ?_
  rintro e ws2 ⟨q, rfl, -, -, -, hs, hg⟩
  replace HG := Lib.hid (grown_trans HG.out hg)
  replace HS := Lib.hid hs
  replace hls := HS.out.lt
  clear hs hg
  by_cases h0 : q = 0
  case pos =>
    subst h0
    go_wp2_with fail
    generalize hW : World.alloc _ _ = wp3
    have hb : Below ws2.heap.size ws2 wp3 := by rw [← hW]; exact (Below.refl _ _).alloc (Nat.le_refl _) _
    have KQ := Lib.hid (pick4 wp3 s ws2.heap.size 4 _ _ _ _ (HS.out.bel hb) (by have := HS.out.lt; omega) (by rw [← hW]; exact heap_alloc_new _ _))
    clear hW
    replace HG := Lib.hid (grown_bel HG.out hb)
    replace HS := Lib.hid (HS.out.bel hb)
    replace hls := HS.out.lt
    clear hb
    refine KQ.out.mono ?_
    rintro e ws4 ⟨x, rfl, hs, hg⟩
    clear KQ
    replace HG := Lib.hid (grown_trans HG.out hg)
    replace HS := Lib.hid hs
    replace hls := HS.out.lt
    clear hs hg
    go_wp2_with fail
    generalize hW : World.alloc _ _ = wp5
    have hb : Below ws4.heap.size ws4 wp5 := by rw [← hW]; exact (Below.refl _ _).alloc (Nat.le_refl _) _
    have KQ := Lib.hid (pick4 wp5 s ws4.heap.size 4 _ _ _ _ (HS.out.bel hb) (by have := HS.out.lt; omega) (by rw [← hW]; exact heap_alloc_new _ _))
    clear hW
    replace HG := Lib.hid (grown_bel HG.out hb)
    replace HS := Lib.hid (HS.out.bel hb)
    replace hls := HS.out.lt
    clear hb
    refine KQ.out.mono ?_
    rintro e ws6 ⟨y, rfl, hs, hg⟩
    clear KQ
    replace HG := Lib.hid (grown_trans HG.out hg)
    replace HS := Lib.hid hs
    replace hls := HS.out.lt
    clear hs hg
    go_wp2
    go_ret2
    exact ⟨x, y, rfl, HS.out, HG.out⟩
  case neg =>
    have h0b : (q == 0) = false := by simpa using h0
    clear h0
    obtain ⟨E, hE⟩ : ∃ x, IntKind.wrap .i64 (D + 1) = x := ⟨_, rfl⟩
    go_wp2_with fail
    refine (nxt_any _ _ _ HS.out).mono ?_
    rintro e ws3 ⟨x, rfl, -, -, -, hs, hg⟩
    replace HG := Lib.hid (grown_trans HG.out hg)
    replace HS := Lib.hid hs
    replace hls := HS.out.lt
    clear hs hg
    go_wp2
    go_ret2
    exact ⟨x, D, rfl, HS.out, HG.out⟩

set_option maxRecDepth 100000 in
set_option maxHeartbeats 4000000 in
theorem dru13_any (w : World) (s : Nat) (h : Src w s) :
    Calls Try.prog 53 #[.pointer (some ⟨s, 0, none⟩)] w (Dr2 w s) := by
  have hlt := h.lt
  have HS := Lib.hid h
  have HG := Lib.hid (grown_refl w s)
  have hls := HS.out.lt
  clear h
  go_enter Try.func53, Try.ntmps53
  go_wp2_with fail
  refine (nxt_any _ _ _ HS.out).mono ?_
  rintro e ws1 ⟨d, rfl, -, -, -, hs, hg⟩
  replace HG := Lib.hid (grown_trans HG.out hg)
  replace HS := Lib.hid hs
  replace hls := HS.out.lt
  clear hs hg
  obtain ⟨D, hD⟩ : ∃ x, IntKind.wrap .i64 (1 + d) = x := ⟨_, rfl⟩
  go_wp2_with fail
  refine (nxt_any _ _ _ HS.out).mono ?_
  rintro e ws2 ⟨q, rfl, -, -, -, hs, hg⟩
  replace HG := Lib.hid (grown_trans HG.out hg)
  replace HS := Lib.hid hs
  replace hls := HS.out.lt
  clear hs hg
  by_cases h0 : q = 0
  case pos =>
    subst h0
    go_wp2_with fail
    generalize hW : World.alloc _ _ = wp3
    have hb : Below ws2.heap.size ws2 wp3 := by rw [← hW]; exact (Below.refl _ _).alloc (Nat.le_refl _) _
    have KQ := Lib.hid (pick3 wp3 s ws2.heap.size 3 _ _ _ (HS.out.bel hb) (by have := HS.out.lt; omega) (by rw [← hW]; exact heap_alloc_new _ _))
    clear hW
    replace HG := Lib.hid (grown_bel HG.out hb)
    replace HS := Lib.hid (HS.out.bel hb)
    replace hls := HS.out.lt
    clear hb
    refine KQ.out.mono ?_
    rintro e ws4 ⟨x, rfl, hs, hg⟩
    clear KQ
    replace HG := Lib.hid (grown_trans HG.out hg)
    replace HS := Lib.hid hs
    replace hls := HS.out.lt
    clear hs hg
    go_wp2_with fail
    generalize hW : World.alloc _ _ = wp5
    have hb : Below ws4.heap.size ws4 wp5 := by rw [← hW]; exact (Below.refl _ _).alloc (Nat.le_refl _) _
    have KQ := Lib.hid (pick4 wp5 s ws4.heap.size 4 _ _ _ _ (HS.out.bel hb) (by have := HS.out.lt; omega) (by rw [← hW]; exact heap_alloc_new _ _))
    clear hW
    replace HG := Lib.hid (grown_bel HG.out hb)
    replace HS := Lib.hid (HS.out.bel hb)
    replace hls := HS.out.lt
    clear hb
    refine KQ.out.mono ?_
    rintro e ws6 ⟨y, rfl, hs, hg⟩
    clear KQ
    replace HG := Lib.hid (grown_trans HG.out hg)
    replace HS := Lib.hid hs
    replace hls := HS.out.lt
    clear hs hg
    go_wp2
    go_ret2
    exact ⟨x, y, rfl, HS.out, HG.out⟩
  case neg =>
    have h0b : (q == 0) = false := by simpa using h0
    clear h0
    go_wp2_with fail
    refine (nxt_any _ _ _ HS.out).mono ?_
    rintro e ws3 ⟨x, rfl, -, -, -, hs, hg⟩
    replace HG := Lib.hid (grown_trans HG.out hg)
    replace HS := Lib.hid hs
    replace hls := HS.out.lt
    clear hs hg
    obtain ⟨M, hM⟩ : ∃ z, IntKind.wrap .i64 (1 + x) = z := ⟨_, rfl⟩
    go_wp2
    go_ret2
    exact ⟨M, D, rfl, HS.out, HG.out⟩

set_option maxRecDepth 100000 in
set_option maxHeartbeats 4000000 in
theorem dtc13_any (w : World) (a0 : Option Addr) (cap : Nat) (zs : List Int) (h : Code8 w w.heap.size a0 zs) :
    Calls Try.prog 15 #[.slice a0 zs.length cap] w (Tn3 w) := by
  have HC := Lib.hid h
  clear h
  go_enter Try.func15, Try.ntmps15
  go_wp2_with fail
  refine (from_any _ _ _ zs HC.out).mono ?_
  rintro e w1 ⟨s, rfl, hR, hsrc, hb1⟩
  have HB := Lib.hid hb1
  have HS := Lib.hid hsrc
  have hls := HS.out.lt
  clear hsrc hb1 HC
  go_wp2_with fail
  refine (d13_any _ s HS.out).mono ?_
  rintro e ws2 ⟨n, a, rfl, hs, hg⟩
  have hz2 := hg.size
  replace HB := Lib.hid (HB.out.trans (below_of_grown hg (by omega) (by have := HB.out.size; omega)))
  replace HS := Lib.hid hs
  replace hls := HS.out.lt
  clear hs hg
  obtain ⟨N, hN⟩ : ∃ x, IntKind.wrap .i64 (n + 3) = x := ⟨_, rfl⟩
  go_wp2_with fail
  refine (nxt_any _ _ _ HS.out).mono ?_
  rintro e ws3 ⟨x, rfl, -, -, -, hs, hg⟩
  have hz3 := hg.size
  replace HB := Lib.hid (HB.out.trans (below_of_grown hg (by omega) (by have := HB.out.size; omega)))
  replace HS := Lib.hid hs
  replace hls := HS.out.lt
  clear hs hg
  go_wp2_with fail
  refine (nxt_any _ _ _ HS.out).mono ?_
  rintro e ws4 ⟨y, rfl, -, -, -, hs, hg⟩
  have hz4 := hg.size
  replace HB := Lib.hid (HB.out.trans (below_of_grown hg (by omega) (by have := HB.out.size; omega)))
  replace HS := Lib.hid hs
  replace hls := HS.out.lt
  clear hs hg
  obtain ⟨Q, hQ⟩ : ∃ z, IntKind.wrap .i64 (y.tdiv 19) = z := ⟨_, rfl⟩
  obtain ⟨M, hM⟩ : ∃ z, IntKind.wrap .i64 (x - Q) = z := ⟨_, rfl⟩
  go_wp2
  exact bodyPost_ret (v := .tuple #[.int .i64 n, .int .i64 a, .int .i64 M]) (by simp [results, Try.results15, go_sem]) rfl ⟨n, a, M, rfl, HB.out⟩

set_option maxRecDepth 100000 in
set_option maxHeartbeats 4000000 in
theorem dlt13_any (w : World) (a0 : Option Addr) (cap : Nat) (zs : List Int) (h : Code8 w w.heap.size a0 zs) :
    Calls Try.prog 20 #[.slice a0 zs.length cap] w (Tn4 w) := by
  have HC := Lib.hid h
  clear h
  go_enter Try.func20, Try.ntmps20
  go_wp2_with fail
  refine (from_any _ _ _ zs HC.out).mono ?_
  rintro e w1 ⟨s, rfl, hR, hsrc, hb1⟩
  have HB := Lib.hid hb1
  have HS := Lib.hid hsrc
  have hls := HS.out.lt
  clear hsrc hb1 HC
  go_wp2_with fail
  refine (d13_any _ s HS.out).mono ?_
  rintro e ws2 ⟨n, a, rfl, hs, hg⟩
  have hz2 := hg.size
  replace HB := Lib.hid (HB.out.trans (below_of_grown hg (by omega) (by have := HB.out.size; omega)))
  replace HS := Lib.hid hs
  replace hls := HS.out.lt
  clear hs hg
  go_wp2_with fail
  refine (dpa13_any _ s HS.out).mono ?_
  rintro e ws3 ⟨x, y, rfl, hs, hg⟩
  have hz3 := hg.size
  replace HB := Lib.hid (HB.out.trans (below_of_grown hg (by omega) (by have := HB.out.size; omega)))
  replace HS := Lib.hid hs
  replace hls := HS.out.lt
  clear hs hg
  go_wp2
  exact bodyPost_ret (v := .tuple #[.int .i64 n, .int .i64 a, .int .i64 x, .int .i64 y]) (by simp [results, Try.results20, go_sem]) rfl ⟨n, a, x, y, rfl, HB.out⟩

set_option maxRecDepth 100000 in
set_option maxHeartbeats 4000000 in
theorem dbt13_any (w : World) (a0 : Option Addr) (cap : Nat) (zs : List Int) (h : Code8 w w.heap.size a0 zs) :
    Calls Try.prog 23 #[.slice a0 zs.length cap] w (Tn3 w) := by
  have HC := Lib.hid h
  clear h
  go_enter Try.func23, Try.ntmps23
  go_wp2_with fail
  refine (from_any _ _ _ zs HC.out).mono ?_
  rintro e w1 ⟨s, rfl, hR, hsrc, hb1⟩
  have HB := Lib.hid hb1
  have HS := Lib.hid hsrc
  have hls := HS.out.lt
  clear hsrc hb1 HC
  go_wp2_with fail
  refine (d13_any _ s HS.out).mono ?_
  rintro e ws2 ⟨n, a, rfl, hs, hg⟩
  have hz2 := hg.size
  replace HB := Lib.hid (HB.out.trans (below_of_grown hg (by omega) (by have := HB.out.size; omega)))
  replace HS := Lib.hid hs
  replace hls := HS.out.lt
  clear hs hg
  go_wp2_with fail
  refine (d13_any _ s HS.out).mono ?_
  rintro e ws3 ⟨x, y, rfl, hs, hg⟩
  have hz3 := hg.size
  replace HB := Lib.hid (HB.out.trans (below_of_grown hg (by omega) (by have := HB.out.size; omega)))
  replace HS := Lib.hid hs
  replace hls := HS.out.lt
  clear hs hg
  go_wp2
  exact bodyPost_ret (v := .tuple #[.int .i64 n, .int .i64 a, .int .i64 y]) (by simp [results, Try.results23, go_sem]) rfl ⟨n, a, y, rfl, HB.out⟩

set_option maxRecDepth 100000 in
set_option maxHeartbeats 4000000 in
theorem dlr13_any (w : World) (a0 : Option Addr) (cap : Nat) (zs : List Int) (h : Code8 w w.heap.size a0 zs) :
    Calls Try.prog 26 #[.slice a0 zs.length cap] w (Tn3 w) := by
  have HC := Lib.hid h
  clear h
  go_enter Try.func26, Try.ntmps26
  go_wp2_with fail
  refine (from_any _ _ _ zs HC.out).mono ?_
  rintro e w1 ⟨s, rfl, hR, hsrc, hb1⟩
  have HB := Lib.hid hb1
  have HS := Lib.hid hsrc
  have hls := HS.out.lt
  clear hsrc hb1 HC
  go_wp2_with fail
  refine (d13_any _ s HS.out).mono ?_
  rintro e ws2 ⟨n, a, rfl, hs, hg⟩
  have hz2 := hg.size
  replace HB := Lib.hid (HB.out.trans (below_of_grown hg (by omega) (by have := HB.out.size; omega)))
  replace HS := Lib.hid hs
  replace hls := HS.out.lt
  clear hs hg
  go_wp2_with fail
  refine (dpa13_any _ s HS.out).mono ?_
  rintro e ws3 ⟨x, y, rfl, hs, hg⟩
  have hz3 := hg.size
  replace HB := Lib.hid (HB.out.trans (below_of_grown hg (by omega) (by have := HB.out.size; omega)))
  replace HS := Lib.hid hs
  replace hls := HS.out.lt
  clear hs hg
  go_wp2
  exact bodyPost_ret (v := .tuple #[.int .i64 a, .int .i64 x, .int .i64 y]) (by simp [results, Try.results26, go_sem]) rfl ⟨a, x, y, rfl, HB.out⟩

set_option maxRecDepth 100000 in
set_option maxHeartbeats 4000000 in
theorem dck13_any (w : World) (a0 : Option Addr) (cap : Nat) (zs : List Int) (h : Code8 w w.heap.size a0 zs) :
    Calls Try.prog 29 #[.slice a0 zs.length cap] w (Tn4 w) := by
  have HC := Lib.hid h
  clear h
  go_enter Try.func29, Try.ntmps29
  go_wp2_with fail
  refine (from_any _ _ _ zs HC.out).mono ?_
  rintro e w1 ⟨s, rfl, hR, hsrc, hb1⟩
  have HB := Lib.hid hb1
  have HS := Lib.hid hsrc
  have hls := HS.out.lt
  clear hsrc hb1 HC
  go_wp2_with fail
  refine (d13_any _ s HS.out).mono ?_
  rintro e ws2 ⟨n, a, rfl, hs, hg⟩
  have hz2 := hg.size
  replace HB := Lib.hid (HB.out.trans (below_of_grown hg (by omega) (by have := HB.out.size; omega)))
  replace HS := Lib.hid hs
  replace hls := HS.out.lt
  clear hs hg
  go_wp2_with fail
  refine (dru13_any _ s HS.out).mono ?_
  rintro e ws3 ⟨x, y, rfl, hs, hg⟩
  have hz3 := hg.size
  replace HB := Lib.hid (HB.out.trans (below_of_grown hg (by omega) (by have := HB.out.size; omega)))
  replace HS := Lib.hid hs
  replace hls := HS.out.lt
  clear hs hg
  go_wp2
  exact bodyPost_ret (v := .tuple #[.int .i64 n, .int .i64 a, .int .i64 x, .int .i64 y]) (by simp [results, Try.results29, go_sem]) rfl ⟨n, a, x, y, rfl, HB.out⟩

/-- a pattern drawn: short, or of zeros; and a rule -/
def CsC (w : World) (e : Ending) (w' : World) : Prop := ∃ (a : Option Addr) (c n : Nat) (ps : List Int) (m v : Int), e = .returned (.tuple #[.slice a n c, .int .i64 m, .int .i64 v]) ∧ ps.length = n ∧ n ≤ 401 ∧ n ≤ c ∧ (n ≤ 13 ∨ ∀ j, ps.getD j 0 = 0) ∧ Ints .i64 w' w'.heap.size a ps ∧ Below w.heap.size w w'
theorem rep_zero (k j : Nat) : (List.replicate k (0 : Int)).getD j 0 = 0 := by
  rw [List.getD_eq_getElem?_getD, List.getElem?_replicate]
  split <;> rfl

set_option maxRecDepth 100000 in
set_option maxHeartbeats 8000000 in
theorem dcs13_any (w : World) (a0 : Option Addr) (cap : Nat) (zs : List Int) (h : Code8 w w.heap.size a0 zs) :
    Calls Try.prog 34 #[.slice a0 zs.length cap] w (CsC w) := by
  obtain ⟨i0, hi, hza, hzb, hzc⟩ := info_parts info_i64
  have HC := Lib.hid h
  clear h
  go_enter Try.func34, Try.ntmps34
  go_wp2_with fail
  refine (from_any _ _ _ zs HC.out).mono ?_
  rintro e w1 ⟨s, rfl, hR, hsrc, hb1⟩
  have HB := Lib.hid hb1
  have HS := Lib.hid hsrc
  have hls := HS.out.lt
  clear hsrc hb1 HC
  go_wp2_with fail
  refine (dru13_any _ s HS.out).mono ?_
  rintro e ws2 ⟨m, v, rfl, hs, hg⟩
  have hz2 := hg.size
  replace HB := Lib.hid (HB.out.trans (below_of_grown hg (by omega) (by have := HB.out.size; omega)))
  replace HS := Lib.hid hs
  replace hls := HS.out.lt
  clear hs hg
  have hlt := HS.out.lt
  go_wp2_with fail
  refine (dbt_any _ _ 12 (by decide) (by decide) HS.out).mono ?_
  rintro e wd ⟨ge, ce, n, ps, rfl, hn, hD⟩
  have hn12 : n ≤ 12 := hn
  have HD := Lib.hid hD
  clear hD hn HS
  go_wp2_with fail
  refine (nxt_any _ _ _ HD.out.src).mono ?_
  rintro e wq ⟨q, rfl, hq0, hq1, -, hs1, hg⟩
  replace HD := Lib.hid (HD.out.draw hlt hs1 hg)
  clear hs1 hg hq1
  by_cases h0 : q = 0
  · subst h0
    go_wp2_with (at_builtin; refine wpList_append_lies _ rfl _ _ 32 rfl _ 2 i0 (.int .i64 0) 1 8 Try.underlying32 hi hza hzb hzc rfl (by decide) (.slice (some ⟨ge, 0, none⟩) n ce) n ((ps).map iv4) rfl (HD.out.row.alloc _) ⟨wq.heap.size, 0, none⟩ 1 1 [.int .i64 2] rfl rfl (World.news_of_block (cs := #[.int .i64 2]) (t := 2) (fr := (0, 0)) (heap_alloc_new wq _)) (by simp [Value.oneCell']) (by decide) (by unfold maxLen; omega) (by omega) (by have := HD.out.grw.size; simp; omega) (wq.heap.size + 1) (by simp) ?_; intro g2 cp2 w9 hown hgrow hat hlt9; have HD9 := Lib.hid (HD.out.put hlt hown hgrow); clear hown hgrow hat hlt9)
    go_wp2
    exact bodyPost_ret (v := .tuple #[.slice (some ⟨g2, 0, none⟩) (n + 1) cp2, .int .i64 m, .int .i64 v]) (by simp [results, Try.results34, go_sem]) rfl ⟨_, _, _, _, _, _, rfl, HD9.out.len, by omega, HD9.out.cap, Or.inl (by omega), HD9.out.ints, HD9.out.below HB.out hR⟩
  · have hqf : (q == 0) = false := by simpa using h0
    by_cases h1 : q = 1
    · subst h1
      go_wp2_with fail
      refine (nxt_any _ _ _ HD.out.src).mono ?_
      rintro e wz ⟨t, rfl, ht0, ht1, -, hs1, hg⟩
      have ht := ht1 (by omega)
      replace HD := Lib.hid (HD.out.draw hlt hs1 hg)
      clear hs1 hg ht1
      obtain ⟨k, hk, hk4⟩ : ∃ k : Nat, 200 + t = (k : Int) ∧ k ≤ 201 := ⟨(200 + t).toNat, by omega, by omega⟩
      have hkw : IntKind.wrap .i64 (k : Int) = (k : Int) := IntWalk.i64_in _ (by omega)
      have hmk : ∀ w, (Instr.makeSlice 32 (.int .i64 (k : Int)) (.int .i64 (k : Int))).run Try.prog w = .ok (.slice (some ⟨w.heap.size, 0, none⟩) k k) (w.alloc (.cells (madeCells #[.int .i64 0] k) 2)) := fun w => run_make_row' (P := Try.prog) 32 2 (.int .i64 0) 8 Try.underlying32 info_i64 rfl .i64 .i64 k (by omega) (by omega) w
      have HZ := Lib.hid (D1.zeros HD.out.src HD.out.grw k (by unfold maxLen; omega))
      go_wp2
      exact bodyPost_ret (v := .tuple #[.slice (some ⟨wz.heap.size, 0, none⟩) (k) k, .int .i64 m, .int .i64 v]) (by simp [results, Try.results34, go_sem]) rfl ⟨_, _, _, _, _, _, rfl, HZ.out.len, by omega, HZ.out.cap, Or.inr (rep_zero k), HZ.out.ints, HZ.out.below HB.out hR⟩
    · have hqf1 : (q == 1) = false := by simpa using h1
      go_wp2
      exact bodyPost_ret (v := .tuple #[.slice (some ⟨ge, 0, none⟩) (n) ce, .int .i64 m, .int .i64 v]) (by simp [results, Try.results34, go_sem]) rfl ⟨_, _, _, _, _, _, rfl, HD.out.len, by omega, HD.out.cap, Or.inl (by omega), HD.out.ints, HD.out.below HB.out hR⟩
end Go.Proofs.Ytgdnapioboodbaa
