/- The model's draws of a profile with a number of a knot or layer: contracts. -/
import Derived.Test.YtcaekheghjnipaaDPr2
import Derived.Test.YtcaekheghjnipaaQLaw
import Derived.Deep.RegionWith
namespace Go.Proofs.Ytcaekheghjnipaa
open Go.ChangeShapes Go.WideShapes Go.ChangeAt Go.RowKit Go.Shelf
set_option linter.unusedVariables false
attribute [local go_sem ↓] Go.wp_at_zero Go.wp_at_succ
theorem bkD {W : World} {B : Nat} {cs : Array Value} {t : TypeId} (h : Bk W B cs t) : Bk W.drew B cs t := h
theorem ints_at {w w' : World} {B : Nat} {a : Option Addr} {zs : List Int} (h : Ints .i64 w B a zs) (hk : ∀ x, a = some x → x.block < w.heap.size → w'.heap[x.block]? = w.heap[x.block]?) : Ints .i64 w' B a zs := fun hp => by
  obtain ⟨b, off, e, hB, hc⟩ := h hp
  have hlt := cell_lt (hc 0 hp)
  have hh := hk _ e hlt
  exact ⟨b, off, e, hB, fun j hj => (World.cell?_of_block (w := w) (w' := w') (a := ⟨b, off + j, none⟩) hh).trans (hc j hj)⟩
theorem prof_at {w w' : World} {B : Nat} {a b : Option Addr} {zs ys : List Int} (h : Prof w B a b zs ys) (h1 : ∀ x, a = some x → x.block < w.heap.size → w'.heap[x.block]? = w.heap[x.block]?) (h2 : ∀ x, b = some x → x.block < w.heap.size → w'.heap[x.block]? = w.heap[x.block]?) : Prof w' B a b zs ys :=
  ⟨ints_at h.dz h1, ints_at h.sy h2, h.lz, h.ly⟩
/-- a profile beyond a mark -/
structure PrA (w : World) (m : Nat) (a b : Option Addr) (c d : Nat) (zs ys : List Int) : Prop where
  at_ : Prof w w.heap.size a b zs ys
  lo1 : ∀ x, a = some x → m < x.block
  lo2 : ∀ x, b = some x → m < x.block
  n1 : zs.length ≤ 20
  n2 : ys.length ≤ 20
  c1 : zs.length ≤ c
  c2 : ys.length ≤ d
theorem PrA.grown {w w' : World} {m s c d : Nat} {a b : Option Addr} {zs ys : List Int} (h : PrA w m a b c d zs ys) (hs : s ≤ m) (hg : w.grownBy w' (some s)) : PrA w' m a b c d zs ys :=
  ⟨(prof_at h.at_ (fun x e hx => hg.block _ hx (by have := h.lo1 x e; simp; omega)) (fun x e hx => hg.block _ hx (by have := h.lo2 x e; simp; omega))).more hg.size, h.lo1, h.lo2, h.n1, h.n2, h.c1, h.c2⟩
theorem PrA.on {w w' : World} {m c d : Nat} {a b : Option Addr} {zs ys : List Int} (h : PrA w m a b c d zs ys) (hb : Below w.heap.size w w') : PrA w' m a b c d zs ys := ⟨h.at_.on hb, h.lo1, h.lo2, h.n1, h.n2, h.c1, h.c2⟩
theorem PrA.set {w : World} {m c d : Nat} {a b : Option Addr} {zs ys : List Int} (h : PrA w m a b c d zs ys) (p : Addr) (hp : p.block ≤ m) (v : Value) : PrA (w.setCell p v) m a b c d zs ys :=
  ⟨(prof_at h.at_ (fun x e hx => Below.heap_setCell w p v _ (by have := h.lo1 x e; omega)) (fun x e hx => Below.heap_setCell w p v _ (by have := h.lo2 x e; omega))).more (by simp), h.lo1, h.lo2, h.n1, h.n2, h.c1, h.c2⟩
/-- what a draw of a profile and a number leaves -/
def PrKDrawn (w : World) (s : Nat) (e : Ending) (w' : World) : Prop :=
  ∃ (a b : Option Addr) (c d : Nat) (zs ys : List Int) (x : Int), e = .returned (.tuple #[.agg #[.slice a zs.length c, .slice b ys.length d], .int .i64 x]) ∧ PrA w' w.heap.size a b c d zs ys ∧ w.grownBy w' (some s) ∧ Src w' s
set_option maxRecDepth 100000 in
set_option maxHeartbeats 4000000 in
theorem dkn_any (w : World) (s : Nat) (h : Src w s) :
    Calls Try.prog 103 #[.pointer (some ⟨s, 0, none⟩)] w (PrKDrawn w s) := by
  have hlt := h.lt
  have HS := Lib.hid h
  clear h
  go_enter Try.func103, Try.ntmps103
  go_wp2_with fail
  obtain ⟨W, hW⟩ : ∃ W, W = w.alloc (.cells #[.slice none 0 0, .slice none 0 0] 42) := ⟨_, rfl⟩
  have bR : Bk W w.heap.size #[.slice none 0 0, .slice none 0 0] 42 := by rw [hW]; exact Bk.new' rfl
  have hg0 : w.grownBy W (some s) := by rw [hW]; exact grown_alloc (grown_refl _ _) _
  replace HS : Hid (Src W s) := Lib.hid (by rw [hW]; exact HS.out.alloc _)
  rw [← hW]
  clear hW
  refine (ddr_any _ _ HS.out).mono ?_
  rintro e w1 ⟨a, b, c, d, zs, ys, rfl, hn1, hn2, hc1, hc2, hp, hl1, hl2, hs, hg⟩
  have hWs := bR.lt
  replace bR := bR.kept hg (by simp; omega)
  have HP : Hid (PrA w1 w.heap.size a b c d zs ys) := Lib.hid ⟨hp, fun x e => by have := hl1 x e; omega, fun x e => by have := hl2 x e; omega, hn1, hn2, hc1, hc2⟩
  have HS1 := Lib.hid hs
  have HG := Lib.hid (grown_trans hg0 hg)
  clear hp hl1 hl2 hs hg hg0 HS
  go_wp2_with fail
  obtain ⟨w2, hW⟩ : ∃ W, W = w1.alloc (.cells #[.slice a zs.length c, .slice b ys.length d] 42) := ⟨_, rfl⟩
  have hb : Below w1.heap.size w1 w2 := by rw [hW]; exact (by repeat (first | exact Below.refl _ _ | (refine Below.alloc ?_ (by simp <;> omega) _) | (refine Below.setCell ?_ (by simp <;> omega) _) | (refine Below.drew ?_) | (refine bel_drewN ?_ _)))
  have bP : Bk w2 w1.heap.size #[.slice a zs.length c, .slice b ys.length d] 42 := by rw [hW]; exact Bk.new' rfl
  have hs1 := HS1.out.lt
  have hR1 := bR.lt
  replace bR := bR.on hb
  replace HP := Lib.hid (HP.out.on hb)
  replace HS1 := Lib.hid (HS1.out.bel hb)
  replace HG := Lib.hid (grown_bel HG.out hb)
  rw [← hW]
  clear hW hb
  refine (nxt_any _ _ _ HS1.out).mono ?_
  rintro e w3 ⟨q, rfl, hq0, hq1, -, hs, hg⟩
  have hq := hq1 (by omega)
  replace bR := bR.kept hg (by simp; omega)
  replace bP := bP.kept hg (by simp; omega)
  replace HP := Lib.hid (HP.out.grown (Nat.le_of_lt hlt) hg)
  replace HG := Lib.hid (grown_trans HG.out hg)
  have HS3 := Lib.hid hs
  have hs3 := HS3.out.lt
  clear hs hg hq1 HS1
  have p0 := bP.cell 0 rfl
  have p1 := bP.cell 1 rfl
  have r0 := bR.cell 0 rfl
  have r1 := bR.cell 1 rfl
  have f0 := bR.frozen 0
  have f1 := bR.frozen 1
  have q3 := bP.lt
  have q4 := bR.lt
  by_cases h0 : q = 0
  · subst h0
    go_wp2_with fail
    go_region_with (go_at_call 102; refine (pick3 _ _ w3.heap.size _ _ _ _ (Src.drew (Src.alloc HS3.out _)) (by omega) (heap_alloc_new w3 _)).mono ?_; rintro e w4 ⟨x, rfl, hs, hg⟩; have bP4 := (bkD (Bk.alloc bP _)).kept hg (by simp; omega); have bR4 := (bkD (Bk.alloc bR _)).kept hg (by simp; omega); have d0 := bP4.cell 0 rfl; have d1 := bP4.cell 1 rfl; have e0 := bR4.cell 0 rfl; have e1 := bR4.cell 1 rfl; have e2 := bR4.frozen 0; have e3 := bR4.frozen 1)
    all_goals
      have hb5 := ((Below.refl w3.heap.size w3).alloc (Nat.le_refl w3.heap.size) (.cells #[.int .i64 (-1), .int .i64 (IntKind.i64.wrap ((zs.length : Int) - 1)), .int .i64 (zs.length : Int)] 2)).drew
      have HP4 := Lib.hid (((HP.out.on hb5).grown (Nat.le_of_lt hlt) hg))
      have HG4 := Lib.hid (grown_trans (grown_bel HG.out hb5) hg)
      have HS5 := Lib.hid hs
      clear hs hg hb5
      go_wp2_with fail
      exact bodyPost_ret (v := .tuple #[.agg #[.slice a zs.length c, .slice b ys.length d], .int .i64 x]) (by simp [results, Try.results103, go_sem, e0, e1]) rfl
        ⟨a, b, c, d, zs, ys, x, rfl, (HP4.out.set ⟨w.heap.size, 0, none⟩ (Nat.le_refl _) _).set ⟨w.heap.size, 1, none⟩ (Nat.le_refl _) _, two_set HG4.out (Nat.le_refl _), (HS5.out.set_far (by simpa using hlt) _).set_far (by simpa using hlt) _⟩
  · have hqf : (q == 0) = false := by simpa using h0
    go_wp2_with fail
    go_region_with (go_at_call 75; refine (nxt_any _ _ _ (Src.drew HS3.out)).mono ?_; rintro e w4 ⟨x, rfl, hx0, hx1, hx2, hs, hg⟩; clear hx1 hx2; have bP4 := (bkD bP).kept hg (by simp; omega); have bR4 := (bkD bR).kept hg (by simp; omega); have d0 := bP4.cell 0 rfl; have d1 := bP4.cell 1 rfl; have e0 := bR4.cell 0 rfl; have e1 := bR4.cell 1 rfl; have e2 := bR4.frozen 0; have e3 := bR4.frozen 1)
    all_goals
      have hb5 := (Below.refl w3.heap.size w3).drew
      have HP4 := Lib.hid (((HP.out.on hb5).grown (Nat.le_of_lt hlt) hg))
      have HG4 := Lib.hid (grown_trans (grown_bel HG.out hb5) hg)
      have HS5 := Lib.hid hs
      clear hs hg hb5
      go_wp2_with fail
      exact bodyPost_ret (v := .tuple #[.agg #[.slice a zs.length c, .slice b ys.length d], .int .i64 x]) (by simp [results, Try.results103, go_sem, e0, e1]) rfl
        ⟨a, b, c, d, zs, ys, x, rfl, (HP4.out.set ⟨w.heap.size, 0, none⟩ (Nat.le_refl _) _).set ⟨w.heap.size, 1, none⟩ (Nat.le_refl _) _, two_set HG4.out (Nat.le_refl _), (HS5.out.set_far (by simpa using hlt) _).set_far (by simpa using hlt) _⟩
end Go.Proofs.Ytcaekheghjnipaa
