/- The layer of a depth: contracts of the program's search over the knots and of the model's. -/
import Derived.Test.YtcaekheghjnipaaKnots
namespace Go.Proofs.Ytcaekheghjnipaa
open Go.ChangeShapes Go.WideShapes Go.ChangeAt Go.RowKit Go.Shelf Num
set_option linter.unusedVariables false
attribute [local go_sem] Oper.semAt_some

/-- the last of the knots pre that lies above the depth d -/
def layF (zs : List Int) (d : Int) (pre : List Nat) : Nat := pre.foldl (fun l k => if zs.getD k 0 < d then k else l) 0
theorem layF_snoc (zs : List Int) (d : Int) (pre : List Nat) (x : Nat) : layF zs d (pre ++ [x]) = if zs.getD x 0 < d then x else layF zs d pre := by simp [layF]
def layN (zs : List Int) (d : Int) : Nat := layF zs d (List.range zs.length)
theorem layF_range (zs : List Int) (d : Int) : ∀ n, (layF zs d (List.range n) = 0 ∨ zs.getD (layF zs d (List.range n)) 0 < d) ∧ (layF zs d (List.range n) = 0 ∨ layF zs d (List.range n) < n) ∧ ∀ j, layF zs d (List.range n) < j → j < n → d ≤ zs.getD j 0
  | 0 => ⟨.inl rfl, .inl rfl, fun j _ h => by omega⟩
  | n + 1 => by
    obtain ⟨h1, h2, h3⟩ := layF_range zs d n
    rw [List.range_succ, layF_snoc]
    by_cases h : zs.getD n 0 < d
    · rw [if_pos h]
      exact ⟨.inr h, .inr (by omega), fun j h4 h5 => by omega⟩
    · rw [if_neg h]
      exact ⟨h1, by omega, fun j h4 h5 => by
        rcases Nat.lt_or_ge j n with hj | hj
        · exact h3 j h4 hj
        · obtain rfl : j = n := by omega
          omega⟩
theorem layN_lt {zs ys : List Int} {d : Int} (h : Okp zs ys) (hd : d ≤ zs.getD (zs.length - 1) 0) : layN zs d + 1 < zs.length := by
  obtain ⟨h1, h2, _⟩ := layF_range zs d zs.length
  have hn := h.n2
  have := h.n12
  unfold layN
  rcases h1 with h1 | h1
  · omega
  · rcases h2 with h2 | h2
    · omega
    · rcases Nat.lt_or_ge (layF zs d (List.range zs.length) + 1) zs.length with hlt | hge
      · exact hlt
      · rw [show layF zs d (List.range zs.length) = zs.length - 1 by omega] at h1; omega
theorem layN_le {zs ys : List Int} {d : Int} (h : Okp zs ys) (h0 : 0 ≤ d) : zs.getD (layN zs d) 0 ≤ d := by
  obtain ⟨h1, _, _⟩ := layF_range zs d zs.length
  unfold layN
  rcases h1 with h1 | h1
  · rw [h1, h.zero]; exact h0
  · omega
theorem layN_ge {zs ys : List Int} {d : Int} (h : Okp zs ys) (hd : d ≤ zs.getD (zs.length - 1) 0) : d ≤ zs.getD (layN zs d + 1) 0 := by
  have hlt := layN_lt h hd
  obtain ⟨_, _, h3⟩ := layF_range zs d zs.length
  exact h3 _ (by unfold layN; omega) hlt
/-- the layer is the only number with its two properties -/
theorem layN_uniq {zs ys : List Int} {d : Int} (h : Okp zs ys) {k : Nat} (hk : k + 1 < zs.length) (h1 : k = 0 ∨ zs.getD k 0 < d) (h2 : d ≤ zs.getD (k + 1) 0) : layN zs d = k := by
  obtain ⟨g1, g2, g3⟩ := layF_range zs d zs.length
  have e : layN zs d = layF zs d (List.range zs.length) := rfl
  rw [← e] at g1 g2 g3
  rcases Nat.lt_trichotomy (layN zs d) k with hlt | he | hgt
  · have := g3 k hlt (by omega)
    rcases h1 with h1 | h1 <;> omega
  · exact he
  · have := h.mono (i := k + 1) (layN zs d)
    rcases g1 with g1 | g1
    · omega
    · rcases Nat.lt_or_ge (k + 1) (layN zs d) with hk1 | hk1
      · have := this hk1 (by omega); omega
      · obtain hke : layN zs d = k + 1 := by omega
        rw [hke] at g1; omega

set_option maxRecDepth 100000 in
set_option maxHeartbeats 4000000 in
theorem lat_any (w : World) (a b : Option Addr) (c d : Nat) (zs ys : List Int) (dep : Int) (hp : Prof w w.heap.size a b zs ys) (hl : ys.length = zs.length) :
    Calls Try.prog 82 #[.agg #[.slice a zs.length c, .slice b ys.length d], .int .i64 dep] w fun e w' => e = .returned (.int .i64 (layN zs dep : Int)) ∧ Below w.heap.size w w' := by
  have lz := hp.lz
  have HP := Lib.hid hp
  have HL := Lib.hid hl
  clear hp hl
  refine (callsIn_wide (n := 6)).1 ?_
  refine callsIn_of_wp_marks Try.func82 rfl trivial ?_ rfl
  simp only [Try.ntmps82, List.size_toArray, List.length_cons, List.length_nil, Nat.reduceAdd, Nat.reduceSub, Array.replicate_succ, Array.replicate_zero, List.push_toArray, List.append_toArray, List.nil_append, List.cons_append]
  gi_wp2_with fail
  refine ⟨trivial, (callsIn_wide.2 (kns_any _ _ _ _ _ _ _)).mono ?_⟩
  rintro e w1 ⟨rfl, rfl⟩
  obtain ⟨W0, hW⟩ : ∃ W0, W0 = (((w.alloc (.cells #[.slice a zs.length c, .slice b ys.length d] 42)).alloc (.cells #[.int .i64 dep] 2)).alloc (.cells #[.int .i64 0] 2)).alloc (.cells #[.slice a zs.length c, .slice b ys.length d] 42) := ⟨_, rfl⟩
  have bD : Bk W0 (w.heap.size + 1) #[.int .i64 dep] 2 := by rw [hW]; exact ((Bk.new' (by simp)).alloc _).alloc _
  have bL : Bk W0 (w.heap.size + 1 + 1) #[.int .i64 0] 2 := by rw [hW]; exact (Bk.new' (by simp)).alloc _
  have bP : Bk W0 (w.heap.size + 1 + 1 + 1) #[.slice a zs.length c, .slice b ys.length d] 42 := by rw [hW]; exact Bk.new' (by simp)
  have hB0 : Below w.heap.size w W0 := by rw [hW]; exact (by repeat (first | exact Below.refl _ _ | (refine Below.alloc ?_ (by simp <;> omega) _) | (refine Below.setCell ?_ (by simp <;> omega) _) | (refine Below.drew ?_) | (refine bel_drewN ?_ _)))
  have hsz : W0.heap.size = w.heap.size + 1 + 1 + 1 + 1 := by rw [hW]; simp
  gi_wp2_with fail
  rw [← hW]
  clear hW
  refine wpIn_rangeFunc_ownH rfl (by omega) (gf := 113) (lb := #[.pointer (some ⟨w.heap.size + 1 + 1 + 1, 0, none⟩)]) rfl trivial (enters_of Try.func113 (by kernel_rfl) rfl)
    (kns_stops 5 (by omega) (w.heap.size + 1 + 1 + 1) w.heap.size a b c d zs ys HL.out W0 (by omega) (by omega) (bP.cell 0 rfl) (bP.cell 1 rfl) (HP.out.below hB0)) kpB_t (kpB_b (by omega) (by omega)) (Below.refl _ _) (fun _ => rfl)
    (fun pre W => (Bk W (w.heap.size + 1 + 1) #[.int .i64 (layF zs dep pre : Int)] 2 ∧ Bk W (w.heap.size + 1) #[.int .i64 dep] 2 ∧ Bk W (w.heap.size + 1 + 1 + 1) #[.slice a zs.length c, .slice b ys.length d] 42) ∧ Below w.heap.size w W)
    (fun _ _ _ => False)
    (OwnFrom.and (OwnFrom.and (Own.from (Bk.own _ _ _) _) (OwnFrom.and (Own.from (Bk.own _ _ _) _) (Own.from (Bk.own _ _ _) _))) (ownFrom_below (Nat.le_refl _) (by omega)))
    (fun _ _ _ _ _ hs _ _ => hs)
    ⟨⟨bL, bD, bP⟩, hB0⟩
    (fun x a' W => ∃ Bx, w.heap.size + 1 + 1 + 1 < Bx ∧ Bk W Bx #[.int .i64 (zs.getD x 0), .int .i64 (ys.getD x 0)] 101 ∧ a' = { tmps := #[.agg #[.slice a zs.length c, .slice b ys.length d], .int .i64 dep, .pointer (some ⟨w.heap.size, 0, none⟩), .pointer (some ⟨w.heap.size + 1, 0, none⟩), .int .i64 0, .pointer (some ⟨w.heap.size + 1 + 1, 0, none⟩), .int .i64 (x : Int), .pointer (some ⟨Bx, 0, none⟩), .agg #[.slice a zs.length c, .slice b ys.length d], .func (.func 113) #[] #[.pointer (some ⟨w.heap.size + 1 + 1 + 1, 0, none⟩)], .int .i64 (x : Int), .agg #[.int .i64 (zs.getD x 0), .int .i64 (ys.getD x 0)], undef, undef, undef, undef, undef, undef], defers := [] })
    (fun x a' _ X Y row hs hg hr => by obtain ⟨Bx, h1, h2, h3⟩ := hs; exact ⟨Bx, h1, Bk.own Bx (fun (_ : Unit) => #[.int .i64 (zs.getD x 0), .int .i64 (ys.getD x 0)]) _ () X Y row h2 hg (fun r e => (hr r e).2), h3⟩)
    ?assign ?body ?done ?stop
  case assign =>
    rintro l pre x W K ⟨⟨bL, bD, bP⟩, hB⟩ hK
    have hs := hB.size
    have hlt := bL.lt
    unfold knE
    obtain ⟨z, hz⟩ : ∃ z, zs.getD x 0 = z := ⟨_, rfl⟩
    obtain ⟨y, hy⟩ : ∃ z, ys.getD x 0 = z := ⟨_, rfl⟩
    rw [hz, hy] at hK ⊢
    clear hz hy
    gi_wp2
    exact hK _ _ ((KeepsOthers.alloc _ _).from _) (KpB.of ((Below.refl _ _).alloc (Nat.le_refl _) _) hB.size bP.lt) ⟨⟨bL.alloc _, bD.alloc _, bP.alloc _⟩, hB.alloc hB.size _⟩ ⟨W.heap.size, bP.lt, Bk.new W _ _, rfl⟩
  case body =>
    rintro l pre x a' W hl - ⟨⟨bL, bD, bP⟩, hB⟩ ⟨Bx, hBx, bX, rfl⟩ hlt
    have hx := layF_snoc zs dep pre x
    obtain ⟨z, hz⟩ : ∃ z, zs.getD x 0 = z := ⟨_, rfl⟩
    obtain ⟨y, hy⟩ : ∃ z, ys.getD x 0 = z := ⟨_, rfl⟩
    rw [hz, hy] at bX
    rw [hz] at hx
    rw [hz, hy]
    have HX := Lib.hid hx
    clear hz hy hx
    have cX := bX.cell 0 rfl
    have cD := bD.cell 0 rfl
    have cL := bL.cell 0 rfl
    have fL := bL.frozen 0
    by_cases h : z < dep
    · gi_wp2
      exact ⟨(KeepsOthers.setCell _ _ _).from _, KpB.set _ _ _ _ (by omega) (by omega), ⟨by rw [HX.out, if_pos h]; exact bL.set 0 _ rfl, bD.other (by omega) _ _, bP.other (by omega) _ _⟩, hB.setCell (p := ⟨w.heap.size + 1 + 1, 0, none⟩) (by simp; omega) _⟩
    · gi_wp2
      exact ⟨(KeepsOthers.refl _).from _, KpB.refl _ _ _, ⟨by rw [HX.out, if_neg (by omega)]; exact bL, bD, bP⟩, hB⟩
  case done =>
    rintro D xs W hD rfl ⟨⟨bL, bD, bP⟩, hB⟩ hK
    have cL := bL.cell 0 rfl
    gi_wp2
    refine ⟨by simp, .inl ⟨_, _, rfl, run_takeDeferred hK, ?_⟩⟩
    exact ⟨_, results_tmp rfl _ _ _, rfl, hB.trans (belowK_b (w := w) (Nat.le_refl _) W D _ _ (by omega) hK rfl rfl)⟩
  case stop =>
    rintro D c pre W _ _ h _
    exact h.elim
end Go.Proofs.Ytcaekheghjnipaa
