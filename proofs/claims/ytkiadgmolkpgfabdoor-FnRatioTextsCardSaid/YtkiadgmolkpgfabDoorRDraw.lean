/- Contracts of the model's draws of fractions: of one, of two, of numbers that one is made of, of one and a factor. -/
import Derived.Test.YtkiadgmolkpgfabDoorPDraw
import Derived.Test.YtkiadgmolkpgfabDoorRat2
import Derived.Deep.RegionWith
import Derived.RegionTactic
namespace Go.Proofs.YtkiadgmolkpgfabDoor
open Go.ChangeShapes Go.WideShapes Go.ChangeAt Go.RowKit
set_option linter.unusedVariables false
theorem Src.bel {w w' : World} {s : Nat} (h : Src w s) (hb : Below w.heap.size w w') : Src w' s := by
  have hlt := h.lt
  obtain ⟨a, cap, zs, k, seed, hblk, hc, rest⟩ := h
  exact ⟨a, cap, zs, k, seed, (hb.block s hlt).trans hblk, hc.below (hb.mono (Nat.le_of_lt hlt)) (Nat.le_refl _), rest⟩
theorem grown_bel {W wr w' : World} {s : Nat} (h : W.grownBy wr (some s)) (hb : Below wr.heap.size wr w') : W.grownBy w' (some s) :=
  ⟨hb.os.trans h.os, hb.tape.trans h.tape, hb.output.trans h.output, Nat.le_trans h.size hb.size, fun k hk hne => (hb.block k (Nat.lt_of_lt_of_le hk h.size)).trans (h.block k hk hne)⟩
/-- one number is picked -/
def Some1 (w : World) (s : Nat) (e : Ending) (w' : World) : Prop := ∃ x : Int, e = .returned (.int .i64 x) ∧ Src w' s ∧ w.grownBy w' (some s)
theorem pick_some (w : World) (s b cap n : Nat) (zs : List Int) (h : Src w s) (hn : zs.length = n) (hb : ¬ b = s) (hl : 1 < n) (hl2 : n ≤ 1000) (hc : ∀ j, j < n → w.cell? ⟨b, j, none⟩ = some (.int .i64 (zs.getD j 0))) (hlt : b < w.heap.size) :
    Calls Tryd.prog 71 #[.pointer (some ⟨s, 0, none⟩), .slice (some ⟨b, 0, none⟩) n cap] w (Some1 w s) :=
  (pick_n w s b cap n zs h hn hb hl hl2 hc hlt).mono fun e w' ⟨j, _, he, hs, hg⟩ => ⟨_, he, hs, hg⟩
theorem pick4 (w : World) (s b cap : Nat) (z0 z1 z2 z3 : Int) (h : Src w s) (hb : ¬ b = s) (hk : w.heap[b]? = some (.cells #[.int .i64 z0, .int .i64 z1, .int .i64 z2, .int .i64 z3] 2 (0, 0))) :
    Calls Tryd.prog 71 #[.pointer (some ⟨s, 0, none⟩), .slice (some ⟨b, 0, none⟩) 4 cap] w (Some1 w s) :=
  pick_some w s b cap 4 [z0, z1, z2, z3] h rfl hb (by decide) (by decide) (fun j hj => (cell_of_row w b j _ _ _ hk).trans (match j, hj with
    | 0, _ => rfl
    | 1, _ => rfl
    | 2, _ => rfl
    | 3, _ => rfl)) (by obtain ⟨hlt, _⟩ := Array.getElem?_eq_some_iff.1 hk; exact hlt)
theorem pick3 (w : World) (s b cap : Nat) (z0 z1 z2 : Int) (h : Src w s) (hb : ¬ b = s) (hk : w.heap[b]? = some (.cells #[.int .i64 z0, .int .i64 z1, .int .i64 z2] 2 (0, 0))) :
    Calls Tryd.prog 71 #[.pointer (some ⟨s, 0, none⟩), .slice (some ⟨b, 0, none⟩) 3 cap] w (Some1 w s) :=
  pick_some w s b cap 3 [z0, z1, z2] h rfl hb (by decide) (by decide) (fun j hj => (cell_of_row w b j _ _ _ hk).trans (match j, hj with
    | 0, _ => rfl
    | 1, _ => rfl
    | 2, _ => rfl)) (by obtain ⟨hlt, _⟩ := Array.getElem?_eq_some_iff.1 hk; exact hlt)
theorem pick5 (w : World) (s b cap : Nat) (z0 z1 z2 z3 z4 : Int) (h : Src w s) (hb : ¬ b = s) (hk : w.heap[b]? = some (.cells #[.int .i64 z0, .int .i64 z1, .int .i64 z2, .int .i64 z3, .int .i64 z4] 2 (0, 0))) :
    Calls Tryd.prog 71 #[.pointer (some ⟨s, 0, none⟩), .slice (some ⟨b, 0, none⟩) 5 cap] w (Some1 w s) :=
  pick_some w s b cap 5 [z0, z1, z2, z3, z4] h rfl hb (by decide) (by decide) (fun j hj => (cell_of_row w b j _ _ _ hk).trans (match j, hj with
    | 0, _ => rfl
    | 1, _ => rfl
    | 2, _ => rfl
    | 3, _ => rfl
    | 4, _ => rfl)) (by obtain ⟨hlt, _⟩ := Array.getElem?_eq_some_iff.1 hk; exact hlt)
/-- what a draw of a fraction leaves -/
def RatDrawn (w : World) (s : Nat) (e : Ending) (w' : World) : Prop := ∃ x y : Int, e = .returned (.agg #[.int .i64 x, .int .i64 y]) ∧ Src w' s ∧ w.grownBy w' (some s)
def Rat2Drawn (w : World) (s : Nat) (e : Ending) (w' : World) : Prop := ∃ x y u v : Int, e = .returned (.tuple #[.agg #[.int .i64 x, .int .i64 y], .agg #[.int .i64 u, .int .i64 v]]) ∧ Src w' s ∧ w.grownBy w' (some s)
theorem Rzz.al {w : World} {g : Nat} (h : Rzz w g) (o : Obj) : Rzz (w.alloc o) g := kz h ((Below.refl _ _).alloc (Nat.le_refl _) o)
theorem two_set {w w' : World} {s g : Nat} {a b : Value} (h : w.grownBy w' (some s)) (hg : w.heap.size ≤ g) : w.grownBy ((w'.setCell ⟨g, 0, none⟩ a).setCell ⟨g, 1, none⟩ b) (some s) := grown_set_new (grown_set_new h hg _) hg _
theorem src_set {w : World} {s g : Nat} {a b : Value} (h : Src w s) (hg : s < g) : Src ((w.setCell ⟨g, 0, none⟩ a).setCell ⟨g, 1, none⟩ b) s := (h.set_far hg _).set_far hg _

set_option maxRecDepth 100000 in
set_option maxHeartbeats 4000000 in
theorem drr_any (w : World) (s : Nat) (h : Src w s) :
    Calls Tryd.prog 63 #[.pointer (some ⟨s, 0, none⟩)] w (RatDrawn w s) := by
  have hlt := h.lt
  have HS := Lib.hid (h.alloc (.cells #[.int .i64 0, .int .i64 0] 45))
  clear h
  go_enter Tryd.func63, Tryd.ntmps63
  go_wp2_with fail
  refine (nxt_any _ _ _ HS.out).mono ?_
  rintro e w1 ⟨x, rfl, hx0, hx1, -, hs, hg⟩
  have hx := hx1 (by omega)
  have RZ1 := Lib.hid (zero_in hg hlt)
  have HG1 := Lib.hid (grown_trans (grown_alloc (grown_refl w s) _) hg)
  have HS1 := Lib.hid hs
  clear hx1 hg hs
  go_wp2_with fail
  refine (nxt_any _ _ _ HS1.out).mono ?_
  rintro e w2 ⟨y, rfl, hy0, hy1, -, hs, hg⟩
  have hy := hy1 (by omega)
  have RZ2 := Lib.hid (RZ1.out.keep hg hlt)
  have HG2 := Lib.hid (grown_trans HG1.out hg)
  have HS2 := Lib.hid hs
  clear hy1 hg hs
  go_wp2_with fail
  refine (nxt_any _ _ _ HS2.out).mono ?_
  rintro e w3 ⟨n, rfl, hn0, hn1, -, hs, hg⟩
  have hn := hn1 (by omega)
  have RZ3 := Lib.hid (RZ2.out.keep hg hlt)
  have HG3 := Lib.hid (grown_trans HG2.out hg)
  have HS3 := Lib.hid hs
  clear hn1 hg hs
  by_cases n0 : n = 0
  · subst n0
    obtain ⟨⟨r0, r1⟩, t0, t1⟩ := RZ3.out
    go_wp2
    exact bodyPost_ret (v := .agg #[.int .i64 (x - 100), .int .i64 (1 + y - 2)]) (by simp [results, Tryd.results63, go_sem, r0, r1]) rfl ⟨_, _, rfl, src_set HS3.out hlt, two_set HG3.out (Nat.le_refl _)⟩
  · have b0 : (n == 0) = false := by simpa using n0
    by_cases n1 : n = 1
    · subst n1
      have hlt3 := HS3.out.lt
      go_wp2_with fail
      refine (pick4 _ _ _ _ _ _ _ _ (HS3.out.alloc _) (by omega) (heap_alloc_new _ _)).mono ?_
      rintro e w4 ⟨p, rfl, hs, hg⟩
      have RZ4 := Lib.hid ((RZ3.out.al _).keep hg hlt)
      have HG4 := Lib.hid (grown_trans (grown_alloc HG3.out _) hg)
      have HS4 := Lib.hid hs
      have hlt4 := hs.lt
      clear hg hs
      go_wp2_with fail
      refine (pick4 _ _ _ _ _ _ _ _ (HS4.out.alloc _) (by omega) (heap_alloc_new _ _)).mono ?_
      rintro e w5 ⟨q, rfl, hs, hg⟩
      obtain ⟨⟨r0, r1⟩, t0, t1⟩ := (RZ4.out.al (.cells #[.int .i64 1000000000, .int .i64 999999999, .int .i64 1000000001, .int .i64 1] 2)).keep hg hlt
      have HG5 := Lib.hid (grown_trans (grown_alloc HG4.out _) hg)
      have HS5 := Lib.hid hs
      clear hg hs
      go_wp2
      exact bodyPost_ret (v := .agg #[.int .i64 p, .int .i64 q]) (by simp [results, Tryd.results63, go_sem, r0, r1]) rfl ⟨_, _, rfl, src_set HS5.out hlt, two_set HG5.out (Nat.le_refl _)⟩
    · have b1 : (n == 1) = false := by simpa using n1
      have key : ∀ (a b : Int) (wz : World), Calls Tryd.prog 82 #[.int .i64 a, .int .i64 b] wz fun e w' => ∃ p q c, e = .returned (.tuple #[.agg #[.int .i64 p, .int .i64 q], .int .i64 c]) ∧ Below wz.heap.size wz w' :=
        fun a b wz => (smk_any a b wz).mono fun e w' h => ⟨_, _, _, h.1, h.2⟩
      have KEY := Lib.hid key
      clear key
      by_cases n2 : n = 2
      · subst n2
        go_wp2_with fail
        refine (KEY.out _ _ _).mono ?_
        rintro e w4 ⟨p, q, c, rfl, hb⟩
        obtain ⟨⟨r0, r1⟩, t0, t1⟩ := kz RZ3.out hb
        have HG4 := Lib.hid (grown_bel HG3.out hb)
        have HS4 := Lib.hid (HS3.out.bel hb)
        have hlt4 := World.block_lt_of_cell? w4 _ r0
        simp only [] at hlt4
        clear hb
        go_wp2
        exact bodyPost_ret (v := .agg #[.int .i64 p, .int .i64 q]) (by simp [results, Tryd.results63, go_sem, r0, r1, World.cell?_alloc_lt, hlt4]) rfl ⟨_, _, rfl, (src_set HS4.out hlt).alloc _, grown_alloc (two_set HG4.out (Nat.le_refl _)) _⟩
      · have b2 : (n == 2) = false := by simpa using n2
        go_wp2_with fail
        refine (KEY.out _ _ _).mono ?_
        rintro e w4 ⟨p, q, c, rfl, hb⟩
        obtain ⟨⟨r0, r1⟩, t0, t1⟩ := kz RZ3.out hb
        have HG4 := Lib.hid (grown_bel HG3.out hb)
        have HS4 := Lib.hid (HS3.out.bel hb)
        have hlt4 := World.block_lt_of_cell? w4 _ r0
        simp only [] at hlt4
        clear hb
        go_wp2
        exact bodyPost_ret (v := .agg #[.int .i64 p, .int .i64 q]) (by simp [results, Tryd.results63, go_sem, r0, r1, World.cell?_alloc_lt, hlt4]) rfl ⟨_, _, rfl, (src_set HS4.out hlt).alloc _, grown_alloc (two_set HG4.out (Nat.le_refl _)) _⟩

set_option maxRecDepth 100000 in
set_option maxHeartbeats 4000000 in
theorem drt_any (w : World) (s : Nat) (h : Src w s) :
    Calls Tryd.prog 66 #[.pointer (some ⟨s, 0, none⟩)] w (Rat2Drawn w s) := by
  have hlt := h.lt
  have HS := Lib.hid ((h.alloc (.cells #[.int .i64 0, .int .i64 0] 45)).alloc (.cells #[.int .i64 0, .int .i64 0] 45))
  clear h
  go_enter Tryd.func66, Tryd.ntmps66
  go_wp2_with fail
  refine (drr_any _ _ HS.out).mono ?_
  rintro e w1 ⟨x, y, rfl, hs, hg⟩
  have RA := Lib.hid ((zero_in2 hg hlt).al (.cells #[.int .i64 x, .int .i64 y] 45))
  have RB := Lib.hid (by simpa only [World.size_alloc] using (zero_in hg (by simp; omega)).al (.cells #[.int .i64 x, .int .i64 y] 45))
  have HG := Lib.hid (grown_alloc (grown_trans (grown_alloc (grown_alloc (grown_refl w s) _) _) hg) (.cells #[.int .i64 x, .int .i64 y] 45))
  have HS1 := Lib.hid (hs.alloc (.cells #[.int .i64 x, .int .i64 y] 45))
  have hlt1 := hs.lt
  have hsz : w.heap.size + 2 ≤ w1.heap.size := by have := hg.size; simp at this; omega
  clear hg hs
  go_wp2_with fail
  refine (nxt_any _ _ _ HS1.out).mono ?_
  rintro e w2 ⟨n, rfl, hn0, hn1, -, hs, hg⟩
  have RA2 := Lib.hid (RA.out.keep hg hlt)
  have RB2 := Lib.hid (RB.out.keep hg (by omega))
  have HG2 := Lib.hid (grown_trans HG.out hg)
  have HS2 := Lib.hid hs
  have x0 : w2.cell? ⟨w1.heap.size, 0, none⟩ = some (.int .i64 x) := cell_keep (by simp [go_sem]) hg (by omega)
  have x1 : w2.cell? ⟨w1.heap.size, 1, none⟩ = some (.int .i64 y) := cell_keep (by simp [go_sem]) hg (by omega)
  have hlt2 : s < w.heap.size + 1 := by omega
  clear hn1 hg hs
  by_cases hp : n = 0
  · subst hp
    obtain ⟨⟨r0, r1⟩, t0, t1⟩ := RA2.out
    obtain ⟨⟨p0, p1⟩, q0, q1⟩ := RB2.out
    have n1 : ¬ w1.heap.size = w.heap.size := by omega
    have n2 : ¬ w1.heap.size = w.heap.size + 1 := by omega
    go_wp2_with fail
    go_region
    all_goals
      go_wp2
      exact bodyPost_ret (v := .tuple #[.agg #[.int .i64 x, .int .i64 y], .agg #[.int .i64 x, .int .i64 y]]) (by simp [results, Tryd.results66, go_sem, r0, r1, p0, p1]) rfl ⟨_, _, _, _, rfl, by first | exact src_set (src_set HS2.out.drew hlt) hlt2 | exact src_set (src_set HS2.out.drew hlt2) hlt, by first | exact two_set (two_set (grown_drewN HG2.out 1) (Nat.le_refl _)) (Nat.le_succ _) | exact two_set (two_set (grown_drewN HG2.out 1) (Nat.le_succ _)) (Nat.le_refl _)⟩
  · have hpf : (n == 0) = false := by simpa using hp
    have hz1 : w1.heap.size < w2.heap.size := World.block_lt_of_cell? w2 _ x0
    go_wp2_with fail
    go_region_with (go_at_call 63; refine (drr_any _ _ HS2.out.drew).mono ?_; rintro e w3 ⟨u, v, rfl, hs, hg⟩; have y0 := cell_keep (show w2.drew.cell? _ = _ from x0) hg (by omega); have y1 := cell_keep (show w2.drew.cell? _ = _ from x1) hg (by omega); obtain ⟨⟨r0, r1⟩, t0, t1⟩ := RA2.out.drew.keep hg hlt; obtain ⟨⟨p0, p1⟩, q0, q1⟩ := RB2.out.drew.keep hg hlt2)
    all_goals
      go_wp2
      exact bodyPost_ret (v := .tuple #[.agg #[.int .i64 x, .int .i64 y], .agg #[.int .i64 u, .int .i64 v]]) (by simp [results, Tryd.results66, go_sem, r0, r1, p0, p1]) rfl ⟨_, _, _, _, rfl, by first | exact src_set (src_set hs hlt) hlt2 | exact src_set (src_set hs hlt2) hlt, by first | exact two_set (two_set (grown_trans (grown_drewN HG2.out 1) hg) (Nat.le_refl _)) (Nat.le_succ _) | exact two_set (two_set (grown_trans (grown_drewN HG2.out 1) hg) (Nat.le_succ _)) (Nat.le_refl _)⟩
end Go.Proofs.YtkiadgmolkpgfabDoor
