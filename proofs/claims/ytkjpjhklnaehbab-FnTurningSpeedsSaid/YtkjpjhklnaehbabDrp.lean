/- The model's draw of a profile: two rows of its own that grow by turns. The contract of the model's draw of a profile. The model's draws of a profile with a number of a knot or layer: contracts. The laws' draws of a profile and a knot or layer out of a code: contracts. -/
import Derived.Test.YtkjpjhklnaehbabDrw
import Derived.Test.YtkjpjhklnaehbabPrs
import Derived.Deep.AppendLies
import Derived.Maps.AppendAt
import Derived.OwnWalk
import Derived.LoopTactic
import Derived.Test.YtkjpjhklnaehbabBas
import Derived.Deep.RegionWith
namespace Go.Proofs.Ytkjpjhklnaehbab
open Go.ChangeShapes Go.WideShapes Go.ChangeAt Go.RowKit Go.Shelf
set_option linter.unusedVariables false
/-- a number of four is picked -/
theorem pick4c (w : World) (s b cap : Nat) (z0 z1 z2 z3 : Int) (h : Src w s) (hb : ¬ b = s) (hk : w.heap[b]? = some (.cells #[.int .i64 z0, .int .i64 z1, .int .i64 z2, .int .i64 z3] 2 (0, 0))) :
    Calls Try.prog 75 #[.pointer (some ⟨s, 0, none⟩), .slice (some ⟨b, 0, none⟩) 4 cap] w fun e w' => ∃ x : Int, e = .returned (.int .i64 x) ∧ (x = z0 ∨ x = z1 ∨ x = z2 ∨ x = z3) ∧ Src w' s ∧ w.grownBy w' (some s) :=
  (pick_n w s b cap 4 [z0, z1, z2, z3] h rfl hb (by decide) (by decide) (fun j hj => (cell_of_row w b j _ _ _ hk).trans (match j, hj with
    | 0, _ => rfl
    | 1, _ => rfl
    | 2, _ => rfl
    | 3, _ => rfl)) (by obtain ⟨hlt, _⟩ := Array.getElem?_eq_some_iff.1 hk; exact hlt)).mono fun e w' ⟨j, hj, he, hs, hg⟩ => ⟨_, he, by
      match j, hj with
      | 0, _ => exact Or.inl rfl
      | 1, _ => exact Or.inr (Or.inl rfl)
      | 2, _ => exact Or.inr (Or.inr (Or.inl rfl))
      | 3, _ => exact Or.inr (Or.inr (Or.inr rfl)), hs, hg⟩
theorem pick2 (w : World) (s b cap : Nat) (z0 z1 : Int) (h : Src w s) (hb : ¬ b = s) (hk : w.heap[b]? = some (.cells #[.int .i64 z0, .int .i64 z1] 2 (0, 0))) :
    Calls Try.prog 75 #[.pointer (some ⟨s, 0, none⟩), .slice (some ⟨b, 0, none⟩) 2 cap] w (Some1 w s) :=
  pick_some w s b cap 2 [z0, z1] h rfl hb (by decide) (by decide) (fun j hj => (cell_of_row w b j _ _ _ hk).trans (match j, hj with
    | 0, _ => rfl
    | 1, _ => rfl)) (by obtain ⟨hlt, _⟩ := Array.getElem?_eq_some_iff.1 hk; exact hlt)
/-- two rows of one's own, the source, the result's block -/
structure DS (w : World) (s : Nat) (a1 : Option Addr) (c1 : Nat) (a2 : Option Addr) (c2 : Nat) (L1 L2 : List Int) (W : World) : Prop where
  r1 : W.ownsRow (w.heap.size + 1) 2 1 (.slice a1 L1.length c1) L1.length (L1.map iv4)
  r2 : W.ownsRow (w.heap.size + 1) 2 1 (.slice a2 L2.length c2) L2.length (L2.map iv4)
  ne : ∀ g, (Value.slice a1 L1.length c1).ownBlock = some g → (Value.slice a2 L2.length c2).ownBlock ≠ some g
  src : Src W s
  grw : w.grownBy W (some s)
  box : Bk W w.heap.size #[.slice none 0 0, .slice none 0 0] 32
section
variable {w W W' : World} {s c1 c2 : Nat} {a1 a2 : Option Addr} {L1 L2 : List Int}
theorem DS.lt1 (h : DS w s a1 c1 a2 c2 L1 L2 W) : ∀ g, (Value.slice a1 L1.length c1).ownBlock = some g → w.heap.size + 1 ≤ g ∧ g < W.heap.size := h.r1.lt
theorem DS.lt2 (h : DS w s a1 c1 a2 c2 L1 L2 W) : ∀ g, (Value.slice a2 L2.length c2).ownBlock = some g → w.heap.size + 1 ≤ g ∧ g < W.heap.size := h.r2.lt
theorem own_ne {v : Value} {k : Nat} (h : v.ownBlock ≠ some k) : v.ownBlock = none ∨ v.ownBlock ≠ some k := Or.inr h
/-- behind a draw -/
theorem DS.draw (h : DS w s a1 c1 a2 c2 L1 L2 W) (hs : s < w.heap.size) (hs' : Src W' s) (hg : W.grownBy W' (some s)) : DS w s a1 c1 a2 c2 L1 L2 W' :=
  ⟨h.r1.kept hg (Or.inr fun e => by have := h.lt1 s e; omega), h.r2.kept hg (Or.inr fun e => by have := h.lt2 s e; omega), h.ne, hs', grown_trans h.grw hg, h.box.kept hg (by simp; omega)⟩
/-- behind new blocks -/
theorem DS.bel (h : DS w s a1 c1 a2 c2 L1 L2 W) (hb : Below W.heap.size W W') : DS w s a1 c1 a2 c2 L1 L2 W' :=
  ⟨own_bel h.r1 hb, own_bel h.r2 hb, h.ne, h.src.bel hb, grown_bel h.grw hb, h.box.on hb⟩
theorem DS.al (h : DS w s a1 c1 a2 c2 L1 L2 W) (o : Obj) : DS w s a1 c1 a2 c2 L1 L2 (W.alloc o) := h.bel ((Below.refl _ _).alloc (Nat.le_refl _) o)
theorem DS.swapped (h : DS w s a1 c1 a2 c2 L1 L2 W) : DS w s a2 c2 a1 c1 L2 L1 W := ⟨h.r2, h.r1, fun g e e' => h.ne g e' e, h.src, h.grw, h.box⟩
/-- one number more in the first row -/
theorem DS.put (h : DS w s a1 c1 a2 c2 L1 L2 W) (hs : s < w.heap.size) {o : Obj} {g cap : Nat} {x : Int} {w9 : World} (hown : w9.ownsRow (w.heap.size + 1) 2 1 (.slice (some ⟨g, 0, none⟩) (L1.length + 1) cap) (L1.length + 1) (L1.map iv4 ++ [.int .i64 x]))
    (hgrow : (W.alloc o).grownBy w9 (Value.slice a1 L1.length c1).ownBlock) (hat : (Value.slice a1 L1.length c1).ownBlock = some g ∨ g = W.heap.size + 1) :
    DS w s (some ⟨g, 0, none⟩) cap a2 c2 (L1 ++ [x]) L2 w9 := by
  have h' := h.al o
  have hno : ∀ k, k ≤ w.heap.size → k < (W.alloc o).heap.size → w9.heap[k]? = (W.alloc o).heap[k]? := fun k hk hk2 => hgrow.block k hk2 (fun e => by have := h.lt1 k e.symm; omega)
  have hsz := h.grw.size
  refine ⟨by simpa [iv4] using hown, h'.r2.kept hgrow ?_, ?_, ?_, ?_, (hno _ (Nat.le_refl _) h'.box.lt).trans h'.box⟩
  · cases e : (Value.slice a2 L2.length c2).ownBlock with
    | none => exact Or.inl rfl
    | some k => exact Or.inr fun e' => h.ne k e'.symm e
  · intro k e e'
    have hk : g = k := by simpa [Value.ownBlock] using e
    subst hk
    rcases hat with h1 | h1
    · exact h.ne g h1 e'
    · have := h.lt2 g e'
      omega
  · obtain ⟨a, cap, zs, k, seed, hblk, hc, rest⟩ := h'.src
    have hbel : Below s (W.alloc o) w9 := ⟨hgrow.os, hgrow.tape, hgrow.output, hgrow.size, fun k hk => hno k (by omega) (by rw [World.size_alloc]; omega)⟩
    exact ⟨a, cap, zs, k, seed, (hno s (by omega) (by rw [World.size_alloc]; omega)).trans hblk, hc.below hbel (Nat.le_refl _), rest⟩
  · exact ⟨hgrow.os.trans h'.grw.os, hgrow.tape.trans h'.grw.tape, hgrow.output.trans h'.grw.output, Nat.le_trans h'.grw.size hgrow.size, fun k hk hne => (hno k (by omega) (Nat.lt_of_lt_of_le hk h'.grw.size)).trans (h'.grw.block k hk hne)⟩
/-- a store into the first row -/
theorem DS.set {g : Nat} (h : DS w s (some ⟨g, 0, none⟩) c1 a2 c2 L1 L2 W) (hs : s < w.heap.size) (j : Nat) (x : Int) : DS w s (some ⟨g, 0, none⟩) c1 a2 c2 (L1.set j x) L2 (W.setCell ⟨g, j, none⟩ (.int .i64 x)) := by
  obtain ⟨k1, k2⟩ := h.r1.stored j (.int .i64 x)
  have hg := h.lt1 g (by simp [Value.ownBlock])
  have hno : ∀ k, k ≤ w.heap.size → (W.setCell ⟨g, j, none⟩ (.int .i64 x)).heap[k]? = W.heap[k]? := fun k hk => Below.heap_setCell W ⟨g, j, none⟩ _ k (by simp; omega)
  refine ⟨?_, h.r2.kept k2 (Or.inr fun e => h.ne g (by simp [Value.ownBlock]) e), ?_, ?_, ?_, (hno _ (Nat.le_refl _)).trans h.box⟩
  · rw [List.length_set]
    have : (L1.set j x).map iv4 = (L1.map iv4).set j (.int .i64 x) := by rw [List.map_set]; rfl
    rw [this]
    exact k1
  · rw [List.length_set]; exact h.ne
  · obtain ⟨a, cap, zs, k, seed, hblk, hc, rest⟩ := h.src
    have hbel : Below s W (W.setCell ⟨g, j, none⟩ (.int .i64 x)) := (Below.refl _ _).setCell (p := ⟨g, j, none⟩) (by simp; omega) _
    exact ⟨a, cap, zs, k, seed, (hno s (by omega)).trans hblk, hc.below hbel (Nat.le_refl _), rest⟩
  · exact ⟨h.grw.os, h.grw.tape, h.grw.output, by simpa using h.grw.size, fun k hk hne => (hno k (by omega)).trans (h.grw.block k hk hne)⟩
/-- both rows given up -/
theorem DS.gone (h : DS w s a1 c1 a2 c2 L1 L2 W) : DS w s none 0 none 0 [] [] W := ⟨World.ownsRow_nil _ _ _ _, World.ownsRow_nil _ _ _ _, fun g e => by simp [Value.ownBlock] at e, h.src, h.grw, h.box⟩
end
/-- what a draw of a profile leaves -/
def PrDrawn (w : World) (s : Nat) (e : Ending) (w' : World) : Prop :=
  ∃ (a b : Option Addr) (c d : Nat) (zs ys : List Int), e = .returned (.agg #[.slice a zs.length c, .slice b ys.length d]) ∧ zs.length ≤ 20 ∧ ys.length ≤ 20 ∧ zs.length ≤ c ∧ ys.length ≤ d ∧ Prof w' w'.heap.size a b zs ys ∧ (∀ x, a = some x → w.heap.size < x.block) ∧ (∀ x, b = some x → w.heap.size < x.block) ∧ Src w' s ∧ w.grownBy w' (some s)
theorem ds_fin {w W : World} {s c1 c2 : Nat} {a1 a2 : Option Addr} {L1 L2 : List Int} (h : DS w s a1 c1 a2 c2 L1 L2 W) (hs : s < w.heap.size) (h1 : L1.length ≤ 20) (h2 : L2.length ≤ 20) (u v : Value) :
    PrDrawn w s (.returned (.agg #[.slice a1 L1.length c1, .slice a2 L2.length c2])) ((W.setCell ⟨w.heap.size, 0, none⟩ u).setCell ⟨w.heap.size, 1, none⟩ v) := by
  have k1 := ownsRow_setCell_below (ownsRow_setCell_below h.r1 (a := ⟨w.heap.size, 0, none⟩) (by simp) u) (a := ⟨w.heap.size, 1, none⟩) (by simp) v
  have k2 := ownsRow_setCell_below (ownsRow_setCell_below h.r2 (a := ⟨w.heap.size, 0, none⟩) (by simp) u) (a := ⟨w.heap.size, 1, none⟩) (by simp) v
  exact ⟨a1, a2, c1, c2, L1, L2, rfl, h1, h2, own_caps h.r1, own_caps h.r2, ⟨own_ints k1, own_ints k2, by omega, by omega⟩, fun x e => (h.lt1 x.block (by rw [e]; rfl)).1, fun x e => (h.lt2 x.block (by rw [e]; rfl)).1, (h.src.set_far (by simpa using hs) _).set_far (by simpa using hs) _, two_set h.grw (Nat.le_refl _)⟩
end Go.Proofs.Ytkjpjhklnaehbab
namespace Go.Proofs.Ytkjpjhklnaehbab
open Go.ChangeShapes Go.WideShapes Go.ChangeAt Go.RowKit Go.Shelf
set_option linter.unusedVariables false
attribute [local go_sem ↓] Go.wp_at_zero Go.wp_at_succ
set_option maxRecDepth 100000 in
set_option maxHeartbeats 4000000 in
theorem ddr_any (w : World) (s : Nat) (h : Src w s) :
    Calls Try.prog 73 #[.pointer (some ⟨s, 0, none⟩)] w (PrDrawn w s) := by
  have hlt := h.lt
  have HS := Lib.hid h
  have HI := Lib.hid info_i64
  clear h
  go_enter Try.func73, Try.ntmps73
  go_wp2_with fail
  obtain ⟨W, hW⟩ : ∃ W, W = ((w.alloc (.cells #[.slice none 0 0, .slice none 0 0] 32)).alloc (.cells #[] 2)).alloc (.cells #[] 2) := ⟨_, rfl⟩
  have HD : Hid (DS w s (some ⟨w.heap.size + 1, 0, none⟩) 0 (some ⟨w.heap.size + 1 + 1, 0, none⟩) 0 [] [] W) := Lib.hid (by
    have q1 := World.ownsRow_lit (base := w.heap.size + 1) (e := 2) (size := 1) (w.alloc (.cells #[.slice none 0 0, .slice none 0 0] 32)) #[] 0 (by simp) (by decide) (by decide)
    have q2 := World.ownsRow_lit (base := w.heap.size + 1) (e := 2) (size := 1) ((w.alloc (.cells #[.slice none 0 0, .slice none 0 0] 32)).alloc (.cells #[] 2)) #[] 0 (by simp) (by decide) (by decide)
    rw [World.size_alloc] at q1
    rw [World.size_alloc, World.size_alloc] at q2
    have q3 := q1.alloc (.cells #[] 2)
    rw [← hW] at q2 q3
    refine ⟨q3, q2, fun g e e' => ?_, ?_, ?_, ?_⟩
    · simp [Value.ownBlock] at e e'; omega
    · rw [hW]; exact ((HS.out.alloc _).alloc _).alloc _
    · rw [hW]; exact grown_alloc (grown_alloc (grown_alloc (grown_refl _ _) _) _) _
    · rw [hW]; exact ((Bk.new' rfl).alloc _).alloc _)
  rw [← hW]
  clear hW HS
  obtain ⟨i0, hi, hz0, hz1, hz2⟩ := info_parts HI.out
  refine (nxt_any _ _ _ HD.out.src).mono ?_
  rintro e w1 ⟨n, rfl, hn0, hn1, -, hs, hg⟩
  have hn := hn1 (by omega)
  replace HD := Lib.hid (HD.out.draw hlt hs hg)
  clear hs hg hn1
  go_wp2_with fail
  refine (nxt_any _ _ _ HD.out.src).mono ?_
  rintro e w2 ⟨k, rfl, hk0, hk1, -, hs, hg⟩
  have hk := hk1 (by omega)
  replace HD := Lib.hid (HD.out.draw hlt hs hg)
  clear hs hg hk1
  go_wp2_with fail
  go_loopw [3, 4, 5, 6, 7] (fun v1 v2 d sp m wr => ∃ (a1 : Option Addr) (c1 : Nat) (a2 : Option Addr) (c2 : Nat) (L1 L2 : List Int) (x y z : Int), v1 = .slice a1 L1.length c1 ∧ v2 = .slice a2 L2.length c2 ∧ d = .int .i64 x ∧ sp = .int .i64 y ∧ m = .int .i64 z ∧ 0 ≤ z ∧
      2 ≤ (L1.length : Int) + z ∧ (L1.length : Int) + z ≤ 5 ∧ 2 ≤ (L2.length : Int) + z ∧ (L2.length : Int) + z ≤ 5 ∧ 0 ≤ x ∧ x ≤ 30000 * (L1.length : Int) ∧ 1300000 ≤ y ∧ y ≤ 1700000 ∧ DS w s a1 c1 a2 c2 L1 L2 wr) (fun _ _ _ _ m _ => (intOf m).toNat)
  case atStart => exact ⟨_, _, _, _, [], [], 0, 1480000 + n, 2 + k, rfl, rfl, rfl, by go_num, by go_num, by omega, by simp; omega, by simp; omega, by simp; omega, by simp; omega, by omega, by simp, by omega, by omega, HD.out⟩
  case round =>
    obtain ⟨a1, c1, a2, c2, L1, L2, x, y, z, rfl, rfl, rfl, rfl, rfl, z0, l1, l2, l3, l4, x0, x1, y0, y1, hD⟩ := hrel
    clear HD
    have hsz := hD.grw.size
    have HD := Lib.hid hD
    clear hD
    by_cases hz : 0 < z
    · go_wp2_with (first | (at_builtin; refine wpList_append_lies _ rfl _ _ 22 rfl (w.heap.size + 1) 2 i0 (.int .i64 0) 1 8 Try.underlying22 hi hz0 hz1 hz2 rfl (by decide) (.slice a1 L1.length c1) L1.length (L1.map iv4) rfl (HD.out.r1.alloc _) ⟨wr.heap.size, 0, none⟩ 1 1 [.int .i64 x] rfl rfl (cell_one_new _ _ _) (by simp [Value.oneCell']) (by decide) (by unfold maxLen; omega) (by omega) (by simp; omega) (wr.heap.size + 1) (by simp) ?_; intro g1 cp1 w5 hown hgrow hat hlt9; have D1 := Lib.hid (HD.out.put hlt hown hgrow hat); have hs5 := D1.out.grw.size; clear hown hgrow hat) | (at_builtin; refine wpList_append_lies _ rfl _ _ 22 rfl (w.heap.size + 1) 2 i0 (.int .i64 0) 1 8 Try.underlying22 hi hz0 hz1 hz2 rfl (by decide) (.slice a2 L2.length c2) L2.length (L2.map iv4) rfl (D1.out.r2.alloc _) ⟨w5.heap.size, 0, none⟩ 1 1 [.int .i64 y] rfl rfl (cell_one_new _ _ _) (by simp [Value.oneCell']) (by decide) (by unfold maxLen; omega) (by omega) (by simp; omega) (w5.heap.size + 1) (by simp) ?_; intro g2 cp2 w6 hown hgrow hat hlt8; have D2 := Lib.hid (D1.out.swapped.put hlt hown hgrow hat).swapped; have hs6 := D2.out.grw.size; clear hown hgrow hat))
      refine (nxt_any _ _ _ D2.out.src).mono ?_
      rintro e w7 ⟨p, rfl, hp0, hp1, -, hs, hg⟩
      have hp := hp1 (by omega)
      have D3 := Lib.hid (D2.out.draw hlt hs hg)
      clear hs hg hp1 D1 D2 HD
      go_wp2_with fail
      refine (nxt_any _ _ _ D3.out.src).mono ?_
      rintro e w8 ⟨q, rfl, hq0, hq1, -, hs, hg⟩
      have hq := hq1 (by omega)
      have D4 := Lib.hid (D3.out.draw hlt hs hg)
      have hs8 := D4.out.src.lt
      clear hs hg hq1 D3
      go_wp2_with fail
      refine (pick4c _ _ w8.heap.size _ _ _ _ _ (D4.out.src.alloc _) (by omega) (heap_alloc_new w8 _)).mono ?_
      rintro e w9 ⟨y4, rfl, hy4, hs, hg⟩
      have D5 := Lib.hid ((D4.out.al _).draw hlt hs hg)
      clear hs hg D4 hs8
      rcases hy4 with rfl | rfl | rfl | rfl
      all_goals
        go_wp2_with fail
        go_roundw
        (case rel => exact ⟨some ⟨g1, 0, none⟩, cp1, some ⟨g2, 0, none⟩, cp2, L1 ++ [x], L2 ++ [y], x + 500 + p, _, z - 1, by simp, by simp, by go_num, rfl, by go_num, by omega, by simp; omega, by simp; omega, by simp; omega, by simp; omega, by omega, by simp; omega, by split <;> (try split) <;> omega, by split <;> (try split) <;> omega, D5.out⟩)
        (case measure => simp [intOf]; omega)
    · obtain rfl : z = 0 := by omega
      go_wp2_with fail
      refine (nxt_any _ _ _ HD.out.src).mono ?_
      rintro e w7 ⟨q, rfl, hq0, hq1, -, hs, hg⟩
      have hq := hq1 (by omega)
      have D3 := Lib.hid (HD.out.draw hlt hs hg)
      have hs7 := D3.out.grw.size
      clear hs hg hq1 HD
      have hc : q = 0 ∨ q = 1 ∨ q = 2 ∨ q = 3 ∨ q = 4 ∨ 5 ≤ q := by omega
      rcases hc with rfl | rfl | rfl | rfl | rfl | hc
      · obtain ⟨g1, cp1, e1, -, -⟩ := D3.out.r1.form (by omega)
        injection e1 with h1 h2 h3
        subst h1 h3
        clear h2
        go_wp2_with fail
        refine (pick2 _ _ w7.heap.size _ _ _ (D3.out.src.alloc _) (by omega) (heap_alloc_new w7 _)).mono ?_
        rintro e w8 ⟨x2, rfl, hs, hg⟩
        have D4 := Lib.hid ((D3.out.al _).draw hlt hs hg)
        clear hs hg D3
        obtain ⟨v0, hv0⟩ : ∃ v, w8.cell? ⟨g1, 0, none⟩ = some v := by
          rw [D4.out.r1.cellAt 0 (by omega)]
          cases L1 with
          | nil => simp at l1
          | cons a l => exact ⟨_, rfl⟩
        have fz := D4.out.r1.frozenAt 0
        have hgl := D4.out.lt1 g1 (by simp [Value.ownBlock])
        have gn1 : ¬ g1 = w.heap.size := by omega
        have gn2 : ¬ w.heap.size = g1 := by omega
        have hL1 : ¬ L1.length = 0 := by omega
        have hL0 : (0 : Int) < (L1.length : Int) := by omega
        have b0 := D4.out.box.cell 0 rfl
        have b1 := D4.out.box.cell 1 rfl
        have f0 := D4.out.box.frozen 0
        have f1 := D4.out.box.frozen 1
        have F := fun u v => ds_fin (D4.out.set hlt 0 x2) hlt (by rw [List.length_set]; omega) (by omega) u v
        rw [List.length_set] at F
        have HF := Lib.hid F
        clear F
        go_wp2_with fail
        exact bodyPost_ret (v := .agg #[.slice (some ⟨g1, 0, none⟩) L1.length _, .slice a2 L2.length _]) (by simp [results, Try.results73, go_sem, b0, b1]) rfl (HF.out _ _)
      · obtain ⟨g2, cp2, e1, -, -⟩ := D3.out.r2.form (by omega)
        injection e1 with h1 h2 h3
        subst h1 h3
        clear h2
        go_wp2_with fail
        refine (pick4 _ _ w7.heap.size _ _ _ _ _ (D3.out.src.alloc _) (by omega) (heap_alloc_new w7 _)).mono ?_
        rintro e w8 ⟨x2, rfl, hs, hg⟩
        have D4 := Lib.hid ((D3.out.al _).draw hlt hs hg)
        clear hs hg D3
        obtain ⟨v0, hv0⟩ : ∃ v, w8.cell? ⟨g2, 0, none⟩ = some v := by
          rw [D4.out.r2.cellAt 0 (by omega)]
          cases L2 with
          | nil => simp at l3
          | cons a l => exact ⟨_, rfl⟩
        have fz := D4.out.r2.frozenAt 0
        have hgl := D4.out.lt2 g2 (by simp [Value.ownBlock])
        have gn1 : ¬ g2 = w.heap.size := by omega
        have gn2 : ¬ w.heap.size = g2 := by omega
        have hL1 : ¬ L2.length = 0 := by omega
        have hL0 : (0 : Int) < (L2.length : Int) := by omega
        have b0 := D4.out.box.cell 0 rfl
        have b1 := D4.out.box.cell 1 rfl
        have f0 := D4.out.box.frozen 0
        have f1 := D4.out.box.frozen 1
        have F := fun u v => ds_fin (D4.out.swapped.set hlt 0 x2).swapped hlt (by omega) (by rw [List.length_set]; omega) u v
        rw [List.length_set] at F
        have HF := Lib.hid F
        clear F
        go_wp2_with fail
        exact bodyPost_ret (v := .agg #[.slice a1 L1.length _, .slice (some ⟨g2, 0, none⟩) L2.length _]) (by simp [results, Try.results73, go_sem, b0, b1]) rfl (HF.out _ _)
      · go_wp2_with fail
        refine (pick3 _ _ w7.heap.size _ _ _ _ (D3.out.src.alloc _) (by omega) (heap_alloc_new w7 _)).mono ?_
        rintro e w8 ⟨x2, rfl, hs, hg⟩
        have D4 := Lib.hid ((D3.out.al _).draw hlt hs hg)
        have hs8 := D4.out.grw.size
        clear hs hg D3
        go_wp2_with (first | (at_builtin; refine wpList_append_lies _ rfl _ _ 22 rfl (w.heap.size + 1) 2 i0 (.int .i64 0) 1 8 Try.underlying22 hi hz0 hz1 hz2 rfl (by decide) (.slice a1 L1.length c1) L1.length (L1.map iv4) rfl (D4.out.r1.alloc _) ⟨w8.heap.size, 0, none⟩ 1 1 [.int .i64 x2] rfl rfl (cell_one_new _ _ _) (by simp [Value.oneCell']) (by decide) (by unfold maxLen; (try simp only [List.length_append, List.length_cons, List.length_nil]); omega) (by (try simp only [List.length_append, List.length_cons, List.length_nil]); omega) (by simp; omega) (w8.heap.size + 1) (by simp) ?_; intro g1 cp1 w5 hown hgrow hat hlt9; have D1 := Lib.hid (D4.out.put hlt hown hgrow hat); have hs5 := D1.out.grw.size; clear hown hgrow hat) | (at_builtin; refine wpList_append_lies _ rfl _ _ 22 rfl (w.heap.size + 1) 2 i0 (.int .i64 0) 1 8 Try.underlying22 hi hz0 hz1 hz2 rfl (by decide) (.slice a2 L2.length c2) L2.length (L2.map iv4) rfl (D1.out.r2.alloc _) ⟨w5.heap.size, 0, none⟩ 1 1 [.int .i64 1500000] rfl rfl (cell_one_new _ _ _) (by simp [Value.oneCell']) (by decide) (by unfold maxLen; (try simp only [List.length_append, List.length_cons, List.length_nil]); omega) (by (try simp only [List.length_append, List.length_cons, List.length_nil]); omega) (by simp; omega) (w5.heap.size + 1) (by simp) ?_; intro g2 cp2 w6 hown hgrow hat hlt8; have D2 := Lib.hid (D1.out.swapped.put hlt hown hgrow hat).swapped; have b0 := D2.out.box.cell 0 rfl; have b1 := D2.out.box.cell 1 rfl; have f0 := D2.out.box.frozen 0; have f1 := D2.out.box.frozen 1; clear hown hgrow hat))
        have F := fun u v => ds_fin D2.out hlt (by simp; omega) (by simp; omega) u v
        simp only [List.length_append, List.length_cons, List.length_nil] at F
        exact bodyPost_ret (v := .agg #[.slice (some ⟨g1, 0, none⟩) (L1.length + 1) cp1, .slice (some ⟨g2, 0, none⟩) (L2.length + 1) cp2]) (by simp [results, Try.results73, go_sem, b0, b1]) rfl (F _ _)
      · go_wp2_with (first | (at_builtin; refine wpList_append_lies _ rfl _ _ 22 rfl (w.heap.size + 1) 2 i0 (.int .i64 0) 1 8 Try.underlying22 hi hz0 hz1 hz2 rfl (by decide) (.slice a1 L1.length c1) L1.length (L1.map iv4) rfl (D3.out.r1.alloc _) ⟨w7.heap.size, 0, none⟩ 1 1 [.int .i64 x] rfl rfl (cell_one_new _ _ _) (by simp [Value.oneCell']) (by decide) (by unfold maxLen; (try simp only [List.length_append, List.length_cons, List.length_nil]); omega) (by (try simp only [List.length_append, List.length_cons, List.length_nil]); omega) (by simp; omega) (w7.heap.size + 1) (by simp) ?_; intro g1 cp1 w5 hown hgrow hat hlt9; have D1 := Lib.hid (D3.out.put hlt hown hgrow hat); have b0 := D1.out.box.cell 0 rfl; have b1 := D1.out.box.cell 1 rfl; have f0 := D1.out.box.frozen 0; have f1 := D1.out.box.frozen 1; clear hown hgrow hat) | fail)
        have F := fun u v => ds_fin D1.out hlt (by simp; omega) (by omega) u v
        simp only [List.length_append, List.length_cons, List.length_nil] at F
        exact bodyPost_ret (v := .agg #[.slice (some ⟨g1, 0, none⟩) (L1.length + 1) cp1, .slice a2 L2.length c2]) (by simp [results, Try.results73, go_sem, b0, b1]) rfl (F _ _)
      · go_wp2_with fail
        go_loopw [3, 4, 8] (fun v1 v2 m wr => ∃ (a1 : Option Addr) (c1 : Nat) (a2 : Option Addr) (c2 : Nat) (L1 L2 : List Int) (z : Int), v1 = .slice a1 L1.length c1 ∧ v2 = .slice a2 L2.length c2 ∧ m = .int .i64 z ∧ 0 ≤ z ∧ z ≤ 13 ∧ (L1.length : Int) ≤ z ∧ (L2.length : Int) ≤ z ∧ DS w s a1 c1 a2 c2 L1 L2 wr) (fun _ _ m _ => (20 - intOf m).toNat)
        case atStart => exact ⟨none, 0, none, 0, [], [], 0, rfl, rfl, rfl, by omega, by omega, by simp, by simp, D3.out.gone⟩
        case round =>
          obtain ⟨a1, c1, a2, c2, L1, L2, z, rfl, rfl, rfl, z0, z1, l1, l2, hD⟩ := hrel
          clear D3
          have hsz := hD.grw.size
          have HD := Lib.hid hD
          clear hD
          go_wp2_with fail
          refine (nxt_any _ _ _ HD.out.src).mono ?_
          rintro e w9 ⟨r, rfl, hr0, hr1, -, hs, hg⟩
          have hr := hr1 (by omega)
          have D4 := Lib.hid (HD.out.draw hlt hs hg)
          have hs9 := D4.out.grw.size
          clear hs hg hr1 HD
          by_cases hlz : z < 12 + r
          · go_wp2_with (first | (at_builtin; refine wpList_append_lies _ rfl _ _ 22 rfl (w.heap.size + 1) 2 i0 (.int .i64 0) 1 8 Try.underlying22 hi hz0 hz1 hz2 rfl (by decide) (.slice a1 L1.length c1) L1.length (L1.map iv4) rfl (D4.out.r1.alloc _) ⟨w9.heap.size, 0, none⟩ 1 1 [.int .i64 (100 * z)] rfl rfl (cell_one_new _ _ _) (by simp [Value.oneCell']) (by decide) (by unfold maxLen; (try simp only [List.length_append, List.length_cons, List.length_nil]); omega) (by (try simp only [List.length_append, List.length_cons, List.length_nil]); omega) (by simp; omega) (w9.heap.size + 1) (by simp) ?_; intro g1 cp1 w5 hown hgrow hat hlt9; have D1 := Lib.hid (D4.out.put hlt hown hgrow hat); have hs5 := D1.out.grw.size; clear hown hgrow hat) | (at_builtin; refine wpList_append_lies _ rfl _ _ 22 rfl (w.heap.size + 1) 2 i0 (.int .i64 0) 1 8 Try.underlying22 hi hz0 hz1 hz2 rfl (by decide) (.slice a2 L2.length c2) L2.length (L2.map iv4) rfl (D1.out.r2.alloc _) ⟨w5.heap.size, 0, none⟩ 1 1 [.int .i64 (1500000 + z)] rfl rfl (cell_one_new _ _ _) (by simp [Value.oneCell']) (by decide) (by unfold maxLen; (try simp only [List.length_append, List.length_cons, List.length_nil]); omega) (by (try simp only [List.length_append, List.length_cons, List.length_nil]); omega) (by simp; omega) (w5.heap.size + 1) (by simp) ?_; intro g2 cp2 w6 hown hgrow hat hlt8; have D2 := Lib.hid (D1.out.swapped.put hlt hown hgrow hat).swapped; have hs6 := D2.out.grw.size; clear hown hgrow hat))
            go_roundw
            (case rel => exact ⟨some ⟨g1, 0, none⟩, cp1, some ⟨g2, 0, none⟩, cp2, L1 ++ [100 * z], L2 ++ [1500000 + z], z + 1, by simp, by simp, by go_num, by omega, by omega, by simp; omega, by simp; omega, D2.out⟩)
            (case measure => simp [intOf]; omega)
          · have b0 := D4.out.box.cell 0 rfl
            have b1 := D4.out.box.cell 1 rfl
            have f0 := D4.out.box.frozen 0
            have f1 := D4.out.box.frozen 1
            have F := fun u v => ds_fin D4.out hlt (by omega) (by omega) u v
            have HF := Lib.hid F
            clear F
            go_wp2_with fail
            exact bodyPost_ret (v := .agg #[.slice a1 L1.length c1, .slice a2 L2.length c2]) (by simp [results, Try.results73, go_sem, b0, b1]) rfl (HF.out _ _)
      · have q0 : (q == 0) = false := by simp; omega
        have q1 : (q == 1) = false := by simp; omega
        have q2 : (q == 2) = false := by simp; omega
        have q3 : (q == 3) = false := by simp; omega
        have q4 : (q == 4) = false := by simp; omega
        have b0 := D3.out.box.cell 0 rfl
        have b1 := D3.out.box.cell 1 rfl
        have f0 := D3.out.box.frozen 0
        have f1 := D3.out.box.frozen 1
        have F := fun u v => ds_fin D3.out hlt (by omega) (by omega) u v
        have HF := Lib.hid F
        clear F
        go_wp2_with fail
        exact bodyPost_ret (v := .agg #[.slice a1 L1.length c1, .slice a2 L2.length c2]) (by simp [results, Try.results73, go_sem, b0, b1]) rfl (HF.out _ _)
end Go.Proofs.Ytkjpjhklnaehbab
namespace Go.Proofs.Ytkjpjhklnaehbab
open Go.ChangeShapes Go.WideShapes Go.ChangeAt Go.RowKit Go.Shelf
set_option linter.unusedVariables false
attribute [local go_sem ↓] Go.wp_at_zero Go.wp_at_succ
theorem bkD {W : World} {B : Nat} {cs : Array Value} {t : TypeId} (h : Bk W B cs t) : Bk W.drew B cs t := h
theorem ints_at {w w' : World} {B : Nat} {a : Option Addr} {zs : List Int} (h : Ints .i64 w B a zs) (hk : ∀ x, a = some x → x.block < w.heap.size → w'.heap[x.block]? = w.heap[x.block]?) : Ints .i64 w' B a zs := fun hp => by
  obtain ⟨b, off, e, hB, hc⟩ := h hp
  have hlt := cell_lt (hc 0 hp)
  have hh := hk _ e hlt
  exact ⟨b, off, e, hB, fun j hj => (World.cell?_of_block (w := w) (w' := w') (a := ⟨b, off + j, none⟩) hh).trans (hc j hj)⟩
theorem prof_at {w w' : World} {B : Nat} {a b : Option Addr} {zs ys : List Int} (h : Prof w B a b zs ys) (h1 : ∀ x, a = some x → x.block < w.heap.size → w'.heap[x.block]? = w.heap[x.block]?) (h2 : ∀ x, b = some x → x.block < w.heap.size → w'.heap[x.block]? = w.heap[x.block]?) : Prof w' B a b zs ys :=
  ⟨ints_at h.dz h1, ints_at h.sy h2, h.lz, h.ly⟩
/-- a profile beyond a mark -/
structure PrA (w : World) (m : Nat) (a b : Option Addr) (c d : Nat) (zs ys : List Int) : Prop where
  at_ : Prof w w.heap.size a b zs ys
  lo1 : ∀ x, a = some x → m < x.block
  lo2 : ∀ x, b = some x → m < x.block
  n1 : zs.length ≤ 20
  n2 : ys.length ≤ 20
  c1 : zs.length ≤ c
  c2 : ys.length ≤ d
theorem PrA.grown {w w' : World} {m s c d : Nat} {a b : Option Addr} {zs ys : List Int} (h : PrA w m a b c d zs ys) (hs : s ≤ m) (hg : w.grownBy w' (some s)) : PrA w' m a b c d zs ys :=
  ⟨(prof_at h.at_ (fun x e hx => hg.block _ hx (by have := h.lo1 x e; simp; omega)) (fun x e hx => hg.block _ hx (by have := h.lo2 x e; simp; omega))).more hg.size, h.lo1, h.lo2, h.n1, h.n2, h.c1, h.c2⟩
theorem PrA.on {w w' : World} {m c d : Nat} {a b : Option Addr} {zs ys : List Int} (h : PrA w m a b c d zs ys) (hb : Below w.heap.size w w') : PrA w' m a b c d zs ys := ⟨h.at_.on hb, h.lo1, h.lo2, h.n1, h.n2, h.c1, h.c2⟩
theorem PrA.set {w : World} {m c d : Nat} {a b : Option Addr} {zs ys : List Int} (h : PrA w m a b c d zs ys) (p : Addr) (hp : p.block ≤ m) (v : Value) : PrA (w.setCell p v) m a b c d zs ys :=
  ⟨(prof_at h.at_ (fun x e hx => Below.heap_setCell w p v _ (by have := h.lo1 x e; omega)) (fun x e hx => Below.heap_setCell w p v _ (by have := h.lo2 x e; omega))).more (by simp), h.lo1, h.lo2, h.n1, h.n2, h.c1, h.c2⟩
/-- what a draw of a profile and a number leaves -/
def PrKDrawn (w : World) (s : Nat) (e : Ending) (w' : World) : Prop :=
  ∃ (a b : Option Addr) (c d : Nat) (zs ys : List Int) (x : Int), e = .returned (.tuple #[.agg #[.slice a zs.length c, .slice b ys.length d], .int .i64 x]) ∧ PrA w' w.heap.size a b c d zs ys ∧ w.grownBy w' (some s) ∧ Src w' s
set_option maxRecDepth 100000 in
set_option maxHeartbeats 4000000 in
theorem dkn_any (w : World) (s : Nat) (h : Src w s) :
    Calls Try.prog 56 #[.pointer (some ⟨s, 0, none⟩)] w (PrKDrawn w s) := by
  have hlt := h.lt
  have HS := Lib.hid h
  clear h
  go_enter Try.func56, Try.ntmps56
  go_wp2_with fail
  obtain ⟨W, hW⟩ : ∃ W, W = w.alloc (.cells #[.slice none 0 0, .slice none 0 0] 32) := ⟨_, rfl⟩
  have bR : Bk W w.heap.size #[.slice none 0 0, .slice none 0 0] 32 := by rw [hW]; exact Bk.new' rfl
  have hg0 : w.grownBy W (some s) := by rw [hW]; exact grown_alloc (grown_refl _ _) _
  replace HS : Hid (Src W s) := Lib.hid (by rw [hW]; exact HS.out.alloc _)
  rw [← hW]
  clear hW
  refine (ddr_any _ _ HS.out).mono ?_
  rintro e w1 ⟨a, b, c, d, zs, ys, rfl, hn1, hn2, hc1, hc2, hp, hl1, hl2, hs, hg⟩
  have hWs := bR.lt
  replace bR := bR.kept hg (by simp; omega)
  have HP : Hid (PrA w1 w.heap.size a b c d zs ys) := Lib.hid ⟨hp, fun x e => by have := hl1 x e; omega, fun x e => by have := hl2 x e; omega, hn1, hn2, hc1, hc2⟩
  have HS1 := Lib.hid hs
  have HG := Lib.hid (grown_trans hg0 hg)
  clear hp hl1 hl2 hs hg hg0 HS
  go_wp2_with fail
  obtain ⟨w2, hW⟩ : ∃ W, W = w1.alloc (.cells #[.slice a zs.length c, .slice b ys.length d] 32) := ⟨_, rfl⟩
  have hb : Below w1.heap.size w1 w2 := by rw [hW]; exact (by repeat (first | exact Below.refl _ _ | (refine Below.alloc ?_ (by simp <;> omega) _) | (refine Below.setCell ?_ (by simp <;> omega) _) | (refine Below.drew ?_) | (refine bel_drewN ?_ _)))
  have bP : Bk w2 w1.heap.size #[.slice a zs.length c, .slice b ys.length d] 32 := by rw [hW]; exact Bk.new' rfl
  have hs1 := HS1.out.lt
  have hR1 := bR.lt
  replace bR := bR.on hb
  replace HP := Lib.hid (HP.out.on hb)
  replace HS1 := Lib.hid (HS1.out.bel hb)
  replace HG := Lib.hid (grown_bel HG.out hb)
  rw [← hW]
  clear hW hb
  refine (nxt_any _ _ _ HS1.out).mono ?_
  rintro e w3 ⟨q, rfl, hq0, hq1, -, hs, hg⟩
  have hq := hq1 (by omega)
  replace bR := bR.kept hg (by simp; omega)
  replace bP := bP.kept hg (by simp; omega)
  replace HP := Lib.hid (HP.out.grown (Nat.le_of_lt hlt) hg)
  replace HG := Lib.hid (grown_trans HG.out hg)
  have HS3 := Lib.hid hs
  have hs3 := HS3.out.lt
  clear hs hg hq1 HS1
  have p0 := bP.cell 0 rfl
  have p1 := bP.cell 1 rfl
  have r0 := bR.cell 0 rfl
  have r1 := bR.cell 1 rfl
  have f0 := bR.frozen 0
  have f1 := bR.frozen 1
  have q3 := bP.lt
  have q4 := bR.lt
  by_cases h0 : q = 0
  · subst h0
    go_wp2_with fail
    go_region_with (go_at_call 75; refine (pick3 _ _ w3.heap.size _ _ _ _ (Src.drew (Src.alloc HS3.out _)) (by omega) (heap_alloc_new w3 _)).mono ?_; rintro e w4 ⟨x, rfl, hs, hg⟩; have bP4 := (bkD (Bk.alloc bP _)).kept hg (by simp; omega); have bR4 := (bkD (Bk.alloc bR _)).kept hg (by simp; omega); have d0 := bP4.cell 0 rfl; have d1 := bP4.cell 1 rfl; have e0 := bR4.cell 0 rfl; have e1 := bR4.cell 1 rfl; have e2 := bR4.frozen 0; have e3 := bR4.frozen 1)
    all_goals
      have hb5 := ((Below.refl w3.heap.size w3).alloc (Nat.le_refl w3.heap.size) (.cells #[.int .i64 (-1), .int .i64 (IntKind.i64.wrap ((zs.length : Int) - 1)), .int .i64 (zs.length : Int)] 2)).drew
      have HP4 := Lib.hid (((HP.out.on hb5).grown (Nat.le_of_lt hlt) hg))
      have HG4 := Lib.hid (grown_trans (grown_bel HG.out hb5) hg)
      have HS5 := Lib.hid hs
      clear hs hg hb5
      go_wp2_with fail
      exact bodyPost_ret (v := .tuple #[.agg #[.slice a zs.length c, .slice b ys.length d], .int .i64 x]) (by simp [results, Try.results56, go_sem, e0, e1]) rfl
        ⟨a, b, c, d, zs, ys, x, rfl, (HP4.out.set ⟨w.heap.size, 0, none⟩ (Nat.le_refl _) _).set ⟨w.heap.size, 1, none⟩ (Nat.le_refl _) _, two_set HG4.out (Nat.le_refl _), (HS5.out.set_far (by simpa using hlt) _).set_far (by simpa using hlt) _⟩
  · have hqf : (q == 0) = false := by simpa using h0
    go_wp2_with fail
    go_region_with (go_at_call 74; refine (nxt_any _ _ _ (Src.drew HS3.out)).mono ?_; rintro e w4 ⟨x, rfl, hx0, hx1, hx2, hs, hg⟩; clear hx1 hx2; have bP4 := (bkD bP).kept hg (by simp; omega); have bR4 := (bkD bR).kept hg (by simp; omega); have d0 := bP4.cell 0 rfl; have d1 := bP4.cell 1 rfl; have e0 := bR4.cell 0 rfl; have e1 := bR4.cell 1 rfl; have e2 := bR4.frozen 0; have e3 := bR4.frozen 1)
    all_goals
      have hb5 := (Below.refl w3.heap.size w3).drew
      have HP4 := Lib.hid (((HP.out.on hb5).grown (Nat.le_of_lt hlt) hg))
      have HG4 := Lib.hid (grown_trans (grown_bel HG.out hb5) hg)
      have HS5 := Lib.hid hs
      clear hs hg hb5
      go_wp2_with fail
      exact bodyPost_ret (v := .tuple #[.agg #[.slice a zs.length c, .slice b ys.length d], .int .i64 x]) (by simp [results, Try.results56, go_sem, e0, e1]) rfl
        ⟨a, b, c, d, zs, ys, x, rfl, (HP4.out.set ⟨w.heap.size, 0, none⟩ (Nat.le_refl _) _).set ⟨w.heap.size, 1, none⟩ (Nat.le_refl _) _, two_set HG4.out (Nat.le_refl _), (HS5.out.set_far (by simpa using hlt) _).set_far (by simpa using hlt) _⟩
end Go.Proofs.Ytkjpjhklnaehbab
namespace Go.Proofs.Ytkjpjhklnaehbab
open Go.ChangeShapes Go.WideShapes Go.ChangeAt Go.RowKit Go.Shelf
set_option linter.unusedVariables false
attribute [local go_sem ↓] Go.wp_at_zero Go.wp_at_succ
/-- a profile drawn -/
structure PrN (w : World) (a b : Option Addr) (zs ys : List Int) : Prop where
  at_ : Prof w w.heap.size a b zs ys
  n1 : zs.length ≤ 20
  n2 : ys.length ≤ 20
theorem PrN.on {w w' : World} {a b : Option Addr} {zs ys : List Int} (h : PrN w a b zs ys) (hb : Below w.heap.size w w') : PrN w' a b zs ys := ⟨h.at_.on hb, h.n1, h.n2⟩
def PrK1 (w : World) (e : Ending) (w' : World) : Prop := ∃ (a b : Option Addr) (c d : Nat) (zs ys : List Int) (x : Int), e = .returned (.tuple #[.agg #[.slice a zs.length c, .slice b ys.length d], .int .i64 x]) ∧ PrN w' a b zs ys ∧ Below w.heap.size w w'
def Pr1 (w : World) (e : Ending) (w' : World) : Prop := ∃ (a b : Option Addr) (c d : Nat) (zs ys : List Int), e = .returned (.agg #[.slice a zs.length c, .slice b ys.length d]) ∧ PrN w' a b zs ys ∧ Below w.heap.size w w'

end Go.Proofs.Ytkjpjhklnaehbab
