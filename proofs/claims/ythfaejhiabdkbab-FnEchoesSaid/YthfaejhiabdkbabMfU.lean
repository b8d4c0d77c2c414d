/- Contracts of the model's draws of signals with echoes. -/
import Derived.Test.YthfaejhiabdkbabMfG
import Derived.Test.YthfaejhiabdkbabPuD
namespace Go.Proofs.Ythfaejhiabdkbab
open Go.ChangeShapes Go.WideShapes Go.ChangeAt Go.RowKit Go.Shelf Num
set_option linter.unusedVariables false
set_option linter.unusedSimpArgs false
theorem getD_snoc (L : List Int) (x : Int) (i : Nat) : (L ++ [x]).getD i 0 = if i < L.length then L.getD i 0 else if i = L.length then x else 0 := by
  rw [List.getD_eq_getElem?_getD, List.getD_eq_getElem?_getD, List.getElem?_append]
  split
  · rfl
  · rename_i h
    split
    · rename_i e; subst e; simp
    · rename_i e
      rw [List.getElem?_eq_none (by simp; omega)]; rfl
theorem smlL_snoc {A : Int} {L : List Int} {x : Int} (hA : 0 ≤ A) (h : smlL A L) (hx : -A ≤ x ∧ x ≤ A) : smlL A (L ++ [x]) := fun i => by
  rw [getD_snoc]
  have := h i
  split
  · exact this
  · split
    · exact hx
    · omega
theorem smlL_nil {A : Int} (hA : 0 ≤ A) : smlL A [] := fun i => by
  have : ([] : List Int).getD i 0 = 0 := by simp
  omega
theorem smlL_mono {A B : Int} {L : List Int} (h : smlL A L) (hAB : A ≤ B) : smlL B L := fun i => by
  have := h i
  omega
theorem smlL_addE {A : Int} {S ps : List Int} {d : Nat} {g : Int} (hS : smlL A S) (hp : smlL 3 ps) (hg : -20 ≤ g ∧ g ≤ 20) (k : Nat) (h : d + k ≤ S.length) : smlL (A + 60) (addE S d g ps k) := fun j => by
  rw [addE_at S d g ps k j h]
  have h1 := hS j
  split
  · have h2 := hp (j - d)
    have := mul_abs (a := g) (n := ps.getD (j - d) 0) (A := 20) (N := 3) (by omega) (by omega)
    omega
  · omega
/-- a pulse drawn -/
def PulD (w : World) (s : Nat) (e : Ending) (w' : World) : Prop := ∃ (g c n : Nat) (ps : List Int), e = .returned (.slice (some ⟨g, 0, none⟩) n c) ∧ 1 ≤ n ∧ n ≤ 8 ∧ smlL 3 ps ∧ D1 w s g c n ps w'

set_option maxRecDepth 100000 in
set_option maxHeartbeats 4000000 in
theorem dpl_any (w : World) (s : Nat) (h : Src w s) :
    Calls Try.prog 68 #[.pointer (some ⟨s, 0, none⟩)] w (PulD w s) := by
  have hlt := h.lt
  have HS := Lib.hid h
  clear h
  obtain ⟨i0, hi, hz0, hz1, hz2⟩ := info_parts info_i64
  go_enter Try.func68, Try.ntmps68
  go_upto_region 2 with fail
  have HD := Lib.hid (D1.lit HS.out)
  obtain ⟨W, hW⟩ : ∃ X, X = w.alloc (.cells #[] 2) := ⟨_, rfl⟩
  rw [← hW] at HD ⊢
  clear hW
  go_wp2_with fail
  refine (nxt_any _ _ _ HD.out.src).mono ?_
  rintro e w1 ⟨x, rfl, hx0, hx1, -, hs, hg⟩
  have hx := hx1 (by omega)
  replace HD := Lib.hid (HD.out.draw hlt hs hg)
  clear hs hg hx1
  go_wp2_with fail
  go_loopw [3, 4] (fun v y wr => ∃ (ge ce n : Nat) (L : List Int) (r : Int), v = .slice (some ⟨ge, 0, none⟩) n ce ∧ y = .int .i64 r ∧ 0 ≤ r ∧ ((n : Int) + r ≤ 8 ∧ 1 ≤ (n : Int) + r) ∧ smlL 3 L ∧ D1 w s ge ce n L wr) (fun _ y _ => (intOf y).toNat)
  case atStart => exact ⟨w.heap.size, 0, 0, [], 1 + x, rfl, rfl, by omega, ⟨by simp; omega, by simp; omega⟩, smlL_nil (by decide), HD.out⟩
  case round =>
    obtain ⟨ge, ce, n, Lx, r, rfl, rfl, hr0, ⟨hrm, hrn⟩, hsm, hD⟩ := hrel
    rename_i wr
    replace HD := Lib.hid hD
    have HSM := Lib.hid hsm
    clear hD hsm
    by_cases hr : 0 < r
    · go_wp2_with fail
      refine (pick_new _ s 7 7 [1, -1, 1, -1, 2, -3, 0] _ HD.out.src rfl (by omega) (by omega) ?hc).mono ?_
      case hc => intro j hj; match j, hj with
        | 0, _ => rfl
        | 1, _ => rfl
        | 2, _ => rfl
        | 3, _ => rfl
        | 4, _ => rfl
        | 5, _ => rfl
        | 6, _ => rfl
      rintro e wz ⟨j, hj, rfl, hs, hg⟩
      replace HD := Lib.hid ((HD.out.al _).draw hlt hs hg)
      clear hs hg
      obtain ⟨z, hz, z3, z4⟩ : ∃ z : Int, [(1 : Int), -1, 1, -1, 2, -3, 0].getD j 0 = z ∧ -3 ≤ z ∧ z ≤ 3 := by
        have hj7 : j < 7 := hj
        match j, hj7 with
        | 0, _ => exact ⟨1, rfl, by decide, by decide⟩
        | 1, _ => exact ⟨-1, rfl, by decide, by decide⟩
        | 2, _ => exact ⟨1, rfl, by decide, by decide⟩
        | 3, _ => exact ⟨-1, rfl, by decide, by decide⟩
        | 4, _ => exact ⟨2, rfl, by decide, by decide⟩
        | 5, _ => exact ⟨-3, rfl, by decide, by decide⟩
        | 6, _ => exact ⟨0, rfl, by decide, by decide⟩
      rw [hz]
      clear hz hj
      go_wp2_with (at_builtin; refine wpList_append_lies _ rfl _ _ 30 rfl w.heap.size 2 i0 (.int .i64 0) 1 8 Try.underlying30 hi hz0 hz1 hz2 rfl (by decide) (.slice (some ⟨ge, 0, none⟩) n ce) (n) ((Lx).map iv4) rfl (HD.out.row.alloc _) ⟨wz.heap.size, 0, none⟩ 1 1 [.int .i64 (z)] rfl rfl (World.news_of_block (cs := #[.int .i64 (z)]) (t := 2) (fr := (0, 0)) (heap_alloc_new wz _)) (by simp [Value.oneCell']) (by decide) (by unfold maxLen; omega) (by omega) (by simp; exact Nat.le_succ_of_le HD.out.grw.size) (wz.heap.size + 1) (by simp) ?_; intro g2 cp2 w9 hown hgrow hat hlt9; have HD9 := Lib.hid (HD.out.put hlt hown hgrow); clear hown hgrow hat hlt9)
      go_wp2_with fail
      go_roundw
      case rel => exact ⟨g2, cp2, n + 1, Lx ++ [z], r - 1, rfl, rfl, by omega, ⟨by omega, by omega⟩, smlL_snoc (by decide) HSM.out ⟨by omega, by omega⟩, HD9.out⟩
      case measure => simp [intOf]; omega
    · go_wp2
      go_ret
      exact ⟨ge, ce, n, Lx, rfl, by omega, by omega, HSM.out, HD.out⟩
/-- a list in memory beside a source -/
def FarI (W : World) (s : Nat) (a : Option Addr) (zs : List Int) : Prop := 0 < zs.length → ∃ (b off : Nat), a = some ⟨b, off, none⟩ ∧ (b < W.heap.size ∧ b ≠ s) ∧ ∀ j, j < zs.length → W.cell? ⟨b, off + j, none⟩ = some (.int .i64 (zs.getD j 0))
theorem FarI.ints {W : World} {s : Nat} {a : Option Addr} {zs : List Int} (h : FarI W s a zs) : Ints .i64 W W.heap.size a zs := fun hp => by
  obtain ⟨b, off, e, hb, hc⟩ := h hp
  exact ⟨b, off, e, hb.1, hc⟩
theorem FarI.draw {W W' : World} {s : Nat} {a : Option Addr} {zs : List Int} (h : FarI W s a zs) (hg : W.grownBy W' (some s)) : FarI W' s a zs := fun hp => by
  obtain ⟨b, off, e, hb, hc⟩ := h hp
  exact ⟨b, off, e, ⟨Nat.lt_of_lt_of_le hb.1 hg.size, hb.2⟩, fun j hj => (World.cell?_of_block (a := ⟨b, off + j, none⟩) (hg.block b hb.1 (fun e => by injection e with e; exact hb.2 e))).trans (hc j hj)⟩
theorem FarI.al {W : World} {s : Nat} {a : Option Addr} {zs : List Int} (h : FarI W s a zs) (o : Obj) : FarI (W.alloc o) s a zs := h.draw (grown_alloc (grown_refl _ _) o)
theorem FarI.on {W W' : World} {s : Nat} {a : Option Addr} {zs : List Int} (h : FarI W s a zs) (hb : Below W.heap.size W W') : FarI W' s a zs := fun hp => by
  obtain ⟨b, off, e, hb2, hc⟩ := h hp
  exact ⟨b, off, e, ⟨Nat.lt_of_lt_of_le hb2.1 hb.size, hb2.2⟩, fun j hj => (hb.cell (p := ⟨b, off + j, none⟩) hb2.1).trans (hc j hj)⟩
theorem FarI.nil {W : World} {s : Nat} {a : Option Addr} : FarI W s a [] := fun hp => absurd hp (Nat.lt_irrefl _)
theorem FarI.row {W : World} {s lo g c n : Nat} {L : List Int} (h : W.ownsRow lo 2 1 (.slice (some ⟨g, 0, none⟩) n c) n (L.map iv4)) (hl : L.length = n) (hs : g ≠ s) : FarI W s (some ⟨g, 0, none⟩) L := fun hp => by
  subst hl
  obtain ⟨b, off, e, hb, hc⟩ := own_ints h hp
  simp only [Option.some.injEq, Addr.mk.injEq, and_true] at e
  obtain ⟨e1, e2⟩ := e
  subst e1 e2
  exact ⟨g, 0, rfl, ⟨hb, hs⟩, hc⟩
theorem D2.of1 {w W : World} {s g c n : Nat} {L : List Int} (h : D1 w s g c n L W) : D2 w s g c n L W.heap.size 0 0 [] (W.alloc (.cells #[] 2)) :=
  ⟨h.row.alloc _, World.ownsRow_lit (base := w.heap.size) (e := 2) (size := 1) W #[] 0 h.grw.size (by decide) (by decide), by have := h.lo; omega, h.src.alloc _, grown_alloc h.grw _, h.len, rfl⟩
/-- the second of two rows turned -/
theorem D2.turn {w W W' : World} {s g1 c1 n1 g2 c2 n2 : Nat} {L1 L2 R : List Int} (h : D2 w s g1 c1 n1 L1 g2 c2 n2 L2 W) (hs : s < w.heap.size) (hr : W'.ownsRow w.heap.size 2 1 (.slice (some ⟨g2, 0, none⟩) n2 c2) n2 (R.map iv4)) (hl : R.length = n2) (hg : W.grownBy W' (some g2)) : D2 w s g1 c1 n1 L1 g2 c2 n2 R W' :=
  ⟨h.row.kept hg (Or.inr (by have := h.ne; simp [Value.ownBlock]; omega)), hr, h.ne, srcP_far h.src hg (by have := h.lo; omega), grownP_far h.grw hg h.lo.2.1, h.len, hl⟩
theorem D2.drew {w W : World} {s g1 c1 n1 g2 c2 n2 : Nat} {L1 L2 : List Int} (h : D2 w s g1 c1 n1 L1 g2 c2 n2 L2 W) : D2 w s g1 c1 n1 L1 g2 c2 n2 L2 W.drew :=
  ⟨h.row, h.row2, h.ne, h.src.drew, ⟨h.grw.os, h.grw.tape, h.grw.output, h.grw.size, h.grw.block⟩, h.len, h.len2⟩
theorem D2.at2 {w W : World} {s g1 c1 n1 g2 c2 n2 : Nat} {L1 L2 : List Int} (h : D2 w s g1 c1 n1 L1 g2 c2 n2 L2 W) {j : Nat} (hj : j < n2) : W.cell? ⟨g2, j, none⟩ = some (.int .i64 (L2.getD j 0)) := by
  have hl := h.len2
  rw [h.row2.cellAt j (by omega), List.getElem?_map, List.getElem?_eq_getElem (by omega), List.getD_eq_getElem?_getD, List.getElem?_eq_getElem (by omega)]; rfl
theorem D2.at1 {w W : World} {s g1 c1 n1 g2 c2 n2 : Nat} {L1 L2 : List Int} (h : D2 w s g1 c1 n1 L1 g2 c2 n2 L2 W) {j : Nat} (hj : j < n1) : W.cell? ⟨g1, j, none⟩ = some (.int .i64 (L1.getD j 0)) := h.swap.at2 hj
theorem Ints.takeP {w : World} {B : Nat} {a : Option Addr} {zs : List Int} (h : Ints .i64 w B a zs) (k : Nat) : Ints .i64 w B a (zs.take k) := fun hp => by
  rw [List.length_take] at hp
  obtain ⟨b, off, e, hb, hc⟩ := h (by omega)
  refine ⟨b, off, e, hb, fun j hj => ?_⟩
  rw [List.length_take] at hj
  rw [hc j (by omega), List.getD_eq_getElem?_getD, List.getD_eq_getElem?_getD, List.getElem?_take, if_pos (by omega)]
theorem srcP_bel {W W' : World} {s : Nat} (h : Src W s) (hb : Below W.heap.size W W') : Src W' s :=
  srcP_far (g := W.heap.size) h ⟨hb.os, hb.tape, hb.output, hb.size, fun k hk _ => hb.block k hk⟩ h.lt
/-- a signal and a pulse drawn -/
def SigD (w : World) (s : Nat) (e : Ending) (w' : World) : Prop := ∃ (a0 : Option Addr) (c0 n0 : Nat) (a1 : Option Addr) (c1 n1 : Nat) (ss ps : List Int), e = .returned (.tuple #[.slice a0 n0 c0, .slice a1 n1 c1]) ∧ (ss.length = n0 ∧ ps.length = n1) ∧ (n0 ≤ 401 ∧ n1 ≤ 401) ∧ (n0 ≤ c0 ∧ n1 ≤ c1) ∧ FarI w' s a0 ss ∧ FarI w' s a1 ps ∧ Src w' s ∧ w.grownBy w' (some s)

set_option maxRecDepth 100000 in
set_option maxHeartbeats 8000000 in
theorem dsn_any (w : World) (s : Nat) (h : Src w s) :
    Calls Try.prog 54 #[.pointer (some ⟨s, 0, none⟩)] w (SigD w s) := by
  have hlt := h.lt
  have HS := Lib.hid h
  clear h
  obtain ⟨i0, hi, hz0, hz1, hz2⟩ := info_parts info_i64
  go_enter Try.func54, Try.ntmps54
  go_wp2_with fail
  refine (dpl_any _ _ HS.out).mono ?_
  rintro e w1 ⟨g1, c1, m, ps, rfl, hm1, hm8, hsp, hD⟩
  have HP := Lib.hid hsp
  have hmw : (m : Int) ≤ 8 := by omega
  have HD0 := Lib.hid (D2.of1 hD)
  clear hsp hD
  go_upto_region 3 with fail
  obtain ⟨W, hW⟩ : ∃ X, X = w1.alloc (.cells #[] 2) := ⟨_, rfl⟩
  obtain ⟨g0, hg0⟩ : ∃ g, w1.heap.size = g := ⟨_, rfl⟩
  rw [← hW]
  rw [← hW] at HD0
  rw [hg0] at HD0 ⊢
  clear hW hg0
  have HD := HD0
  clear HD0
  go_wp2_with fail
  refine (nxt_any _ _ _ HD.out.src).mono ?_
  rintro e w2 ⟨no, rfl, hn0, hn1, -, hs, hg⟩
  have hn4 := hn1 (by omega)
  replace HD := Lib.hid (HD.out.draw hlt hs hg)
  clear hs hg hn1
  go_wp2_with fail
  refine (nxt_any _ _ _ HD.out.src).mono ?_
  rintro e w3 ⟨x, rfl, hx0, hx1, -, hs, hg⟩
  have hx := hx1 (by omega)
  replace HD := Lib.hid (HD.out.draw hlt hs hg)
  clear hs hg hx1
  obtain ⟨X, rfl⟩ : ∃ X : Nat, x = (X : Int) := ⟨x.toNat, by omega⟩
  go_wp2_with fail
  go_loopw [5, 7] (fun v y wr => ∃ (ge ce n : Nat) (L : List Int) (r : Int), v = .slice (some ⟨ge, 0, none⟩) n ce ∧ y = .int .i64 r ∧ 0 ≤ r ∧ (n : Int) + r = (m : Int) + (X : Int) ∧ smlL 3 L ∧ D2 w s g1 c1 m ps ge ce n L wr) (fun _ y _ => (intOf y).toNat)
  case atStart => exact ⟨g0, 0, 0, [], (m : Int) + (X : Int), rfl, rfl, by omega, by simp, smlL_nil (by decide), HD.out⟩
  case round =>
    obtain ⟨ge, ce, n, L, r, rfl, rfl, hr0, hrm, hsm, hD⟩ := hrel
    rename_i wr
    replace HD := Lib.hid hD
    have HSM := Lib.hid hsm
    clear hD hsm
    by_cases hr : 0 < r
    case pos =>
      go_wp2_with fail
      refine (nxt_any _ _ _ HD.out.src).mono ?_
      rintro e wz ⟨b, rfl, hb0, hb1, hb2, hs, hg⟩
      replace HD := Lib.hid (HD.out.draw hlt hs hg)
      have hbn : b ≤ 2 * no := by
        by_cases h1 : 1 < 2 * no + 1
        · have := hb1 h1; omega
        · have := hb2 (by omega); omega
      clear hs hg hb1 hb2
      go_wp2_with (at_builtin; refine wpList_append_lies _ rfl _ _ 30 rfl w.heap.size 2 i0 (.int .i64 0) 1 8 Try.underlying30 hi hz0 hz1 hz2 rfl (by decide) (.slice (some ⟨ge, 0, none⟩) n ce) (n) ((L).map iv4) rfl (HD.out.row2.alloc _) ⟨wz.heap.size, 0, none⟩ 1 1 [.int .i64 (b - no)] rfl rfl (World.news_of_block (cs := #[.int .i64 (b - no)]) (t := 2) (fr := (0, 0)) (heap_alloc_new wz _)) (by simp [Value.oneCell']) (by decide) (by unfold maxLen; omega) (by omega) (by simp; exact Nat.le_succ_of_le HD.out.grw.size) (wz.heap.size + 1) (by simp) ?_; intro g2 cp2 w9 hown hgrow hat hlt9; have HD9 := Lib.hid (HD.out.swap.put hlt hown hgrow hat).swap; clear hown hgrow hat hlt9)
      go_wp2_with fail
      go_roundw
      case rel => exact ⟨g2, cp2, n + 1, L ++ [b - no], r - 1, rfl, rfl, by omega, by omega, smlL_snoc (by decide) HSM.out ⟨by omega, by omega⟩, HD9.out⟩
      case measure => simp [intOf]; omega
    case neg =>
      obtain rfl : r = 0 := by omega
      have hnX : n = m + X := by omega
      have HNX := Lib.hid hnX
      have hX30 : X < 30 := by omega
      clear hrm hr hr0
      go_wp2_with fail
      refine (nxt_any _ _ _ HD.out.src).mono ?_
      rintro e w4 ⟨q, rfl, hq0, hq1, -, hs, hg⟩
      have hq := hq1 (by omega)
      replace HD := Lib.hid (HD.out.draw hlt hs hg)
      clear hs hg hq1
      have hn40 : n ≤ 37 := by omega
      have hMe : (n : Int) - (m : Int) + 1 = (X : Int) + 1 := by omega
      have hW1 : IntKind.wrap .i64 ((n : Int) - (m : Int)) = (X : Int) := by rw [show (n : Int) - (m : Int) = (X : Int) by omega]; exact IntWalk.i64_in _ (by omega)
      clear hMe hnX
      go_wp2_with fail
      go_loopw [8] (fun y wr => ∃ (L : List Int) (r : Int), y = .int .i64 r ∧ (0 ≤ r ∧ r ≤ 3) ∧ smlL (3 + 60 * (3 - r)) L ∧ D2 w s g1 c1 m ps ge ce n L wr) (fun y _ => (intOf y).toNat)
      case atStart => exact ⟨L, q, rfl, ⟨hq0, by omega⟩, smlL_mono HSM.out (by omega), HD.out⟩
      case round =>
        obtain ⟨L, r, rfl, ⟨hr0, hr3⟩, hsm, hD⟩ := hrel
        replace HD := Lib.hid hD
        replace HSM := Lib.hid hsm
        clear hD hsm
        by_cases hr : 0 < r
        case pos =>
          go_wp2_with fail
          refine (nxt_any _ _ _ HD.out.src).mono ?_
          rintro e wa ⟨b, rfl, hb0, hb1, hb2, hs, hg⟩
          replace HD := Lib.hid (HD.out.draw hlt hs hg)
          have hbX : b ≤ (X : Int) := by
            by_cases h1 : 1 < (X : Int) + 1
            · have := hb1 h1; omega
            · have := hb2 (by omega); omega
          clear hs hg hb1 hb2
          obtain ⟨at_, rfl⟩ : ∃ at_ : Nat, b = (at_ : Int) := ⟨b.toNat, by omega⟩
          go_wp2_with fail
          refine (nxt_any _ _ _ HD.out.src).mono ?_
          rintro e wb ⟨u, rfl, hu0, hu1, -, hs, hg⟩
          have hu := hu1 (by omega)
          replace HD := Lib.hid (HD.out.draw hlt hs hg)
          clear hs hg hu1
          obtain ⟨gn, hgn, hg1, hg2⟩ : ∃ gn : Int, u - 20 = gn ∧ -20 ≤ gn ∧ gn ≤ 20 := ⟨u - 20, rfl, by omega, by omega⟩
          have hwg : IntKind.wrap .i64 (u - 20) = gn := by rw [← hgn]; exact IntWalk.i64_in _ (by omega)
          have hatm : at_ + m ≤ n := by have := HNX.out; omega
          have HAT : Hid (∀ j, j ≤ m → (addE L at_ gn ps j).getD (at_ + j) 0 = L.getD (at_ + j) 0) := Lib.hid (fun j hj => by rw [addE_at L at_ gn ps j _ (by rw [HD.out.len2]; omega), if_neg (by omega)])
          have HLA : Hid (∀ j, (addE L at_ gn ps j).length = n) := Lib.hid (fun j => (addE_len L at_ gn ps j).trans HD.out.len2)
          have HLn := Lib.hid HD.out.len2
          clear hgn
          go_wp2_with fail
          go_loopw [11] (fun x wr => ∃ j : Nat, j ≤ m ∧ x = .int .i64 (j : Int) ∧ D2 w s g1 c1 m ps ge ce n (addE L at_ gn ps j) wr) (fun x _ => m - (intOf x).toNat)
          case atStart => exact ⟨0, Nat.zero_le _, rfl, HD.out⟩
          case round =>
            obtain ⟨j, hj, rfl, hD⟩ := hrel
            replace HD := Lib.hid hD
            clear hD
            by_cases hlj : j < m
            case pos =>
              have hc1 := HD.out.at1 hlj
              have cR := HD.out.at2 (j := at_ + j) (by omega)
              have fR := HD.out.row2.frozenAt (at_ + j)
              have hs := addE_succ L at_ gn ps j
              have hv := HSM.out (at_ + j)
              have hatj := HAT.out j hj
              have hx2 := HP.out j
              obtain ⟨x, hx⟩ : ∃ x, ps.getD j 0 = x := ⟨_, rfl⟩
              obtain ⟨v, hvv⟩ : ∃ v, (addE L at_ gn ps j).getD (at_ + j) 0 = v := ⟨_, rfl⟩
              rw [hx] at hc1 hs hx2
              rw [hvv] at cR hs hatj
              rw [← hatj] at hv
              have hpr := mul_abs (a := gn) (n := x) (A := 20) (N := 3) (by omega) (by omega)
              have p1 : -60 ≤ gn * x := by omega
              have p2 : gn * x ≤ 60 := by omega
              have q1 : -1000 ≤ v := by omega
              have q2 : v ≤ 1000 := by omega
              have HSS := Lib.hid hs
              have ej : IntKind.wrap .i64 ((at_ : Int) + (j : Int)) = (at_ : Int) + (j : Int) := IntWalk.i64_in _ (by omega)
              have ejn : ((at_ : Int) + (j : Int)).toNat = at_ + j := by omega
              have ejp : 0 ≤ (at_ : Int) + (j : Int) := by omega
              have ejl : (at_ : Int) + (j : Int) < (n : Int) := by omega
              have exy : IntKind.wrap .i64 (gn * x) = gn * x := IntWalk.i64_in _ (by omega)
              have exs : IntKind.wrap .i64 (v + gn * x) = v + gn * x := IntWalk.i64_in _ (by omega)
              clear hx hvv hs hatj hx2 hpr hv
              go_wp2_with fail
              go_still_tail 18, (by kernel_rfl)
              go_wp2_with fail
              go_roundw
              case rel => exact ⟨j + 1, by omega, by go_num, by rw [HSS.out]; exact HD.out.drew.turn hlt (own_set HD.out.drew.row2 _ _) (by rw [List.length_set]; exact HLA.out j) (grown_cell (grown_id _ _) _ _)⟩
              case measure => simp [intOf]; omega
            case neg =>
              obtain rfl : j = m := by omega
              go_wp2_with fail
              go_roundw
              case rel => exact ⟨_, r - 1, rfl, ⟨by omega, by omega⟩, smlL_mono (smlL_addE HSM.out HP.out ⟨hg1, hg2⟩ j (by rw [HLn.out]; exact hatm)) (by omega), HD.out⟩
              case measure => simp [intOf]; omega
        case neg =>
          go_wp2_with fail
          refine (nxt_any _ _ _ HD.out.src).mono ?_
          rintro e w5 ⟨q2, rfl, hp0, hp1, -, hs, hg⟩
          replace HD := Lib.hid (HD.out.draw hlt hs hg)
          clear hs hg hp1 hp0
          have hm8 : n ≤ 401 := by omega
          by_cases h0 : q2 = 0
          case pos =>
            subst h0
            have HF := Lib.hid (FarI.row (s := s) HD.out.row2 HD.out.len2 (by have := HD.out.lo; omega))
            go_wp2
            go_ret2
            exact ⟨some ⟨ge, 0, none⟩, ce, n, none, 0, 0, L, [], rfl, ⟨HD.out.len2, rfl⟩, ⟨hm8, by omega⟩, ⟨own_caps HD.out.row2, Nat.le_refl _⟩, HF.out, FarI.nil, HD.out.src, HD.out.grw⟩
          case neg =>
            have hqf0 : (q2 == 0) = false := by simpa using h0
            by_cases h1 : q2 = 1
            case pos =>
              subst h1
              have hcap := own_caps HD.out.row
              have hk0 : (0 : Int) ≤ (m : Int) - 1 := by omega
              have hkn : ((m : Int) - 1).toNat = m - 1 := by omega
              have hkc : (m : Int) - 1 ≤ (c1 : Int) := by omega
              have hkw : IntKind.wrap .i64 ((m : Int) - 1) = (m : Int) - 1 := IntWalk.i64_in _ (by omega)
              have HF := Lib.hid (FarI.row (s := s) HD.out.row HD.out.len (by have := HD.out.lo; omega))
              have KO := Lib.hid (lno_any w5 ⟨g1, 0, none⟩ c1 (m - 1) (ps.take (m - 1)) (by rw [List.length_take, HD.out.len]; omega) (by omega) (Ints.takeP HF.out.ints _))
              clear h0 hqf0
              go_wp2_with fail
              refine KO.out.mono ?_
              rintro e w6 ⟨gx, cx, rfl, hrow, hb⟩
              have HX := Lib.hid (FarI.row (s := s) hrow (by rw [List.length_take, HD.out.len]; omega) (by have := (hrow.lt gx rfl).1; have := HD.out.src.lt; omega))
              have HCx := Lib.hid (own_caps hrow)
              have HSr := Lib.hid (srcP_bel HD.out.src hb)
              have HGr := Lib.hid (grownP_bel HD.out.grw hb)
              have HLn : Hid ((ps.take (m - 1)).length = m - 1) := Lib.hid (by rw [List.length_take, HD.out.len]; omega)
              have HLp := Lib.hid HD.out.len
              replace HF := Lib.hid (HF.out.on hb)
              clear hrow hb KO hk0 hkn hkc hkw
              go_wp2
              go_ret2
              exact ⟨some ⟨gx, 0, none⟩, cx, m - 1, some ⟨g1, 0, none⟩, c1, m, ps.take (m - 1), ps, rfl, ⟨HLn.out, HLp.out⟩, ⟨by omega, by omega⟩, ⟨HCx.out, hcap⟩, HX.out, HF.out, HSr.out, HGr.out⟩
            case neg =>
              have hqf1 : (q2 == 1) = false := by simpa using h1
              by_cases h2 : q2 = 2
              case pos =>
                subst h2
                have hn0 : 0 < n := by have := HNX.out; omega
                clear h0 h1
                go_wp2_with fail
                refine (pick_new _ s 3 3 [1000, 1001, -1000] _ HD.out.src rfl (by omega) (by omega) ?hc).mono ?_
                case hc => intro j hj; match j, hj with
                  | 0, _ => rfl
                  | 1, _ => rfl
                  | 2, _ => rfl
                rintro e w6 ⟨j, hj, rfl, hs, hg⟩
                have hDal : D2 w s g1 c1 m ps ge ce n L (w5.alloc (.cells #[.int .i64 1000, .int .i64 1001, .int .i64 (-1000)] 2)) := ⟨HD.out.row.alloc _, HD.out.row2.alloc _, HD.out.ne, HD.out.src.alloc _, grown_alloc HD.out.grw _, HD.out.len, HD.out.len2⟩
                replace HD := Lib.hid (hDal.draw hlt hs hg)
                clear hs hg hDal
                obtain ⟨z, hz⟩ : ∃ z : Int, [(1000 : Int), 1001, -1000].getD j 0 = z := ⟨_, rfl⟩
                rw [hz]
                clear hz hj
                have cR := HD.out.at2 (j := 0) hn0
                have fR := HD.out.row2.frozenAt 0
                obtain ⟨v, hvv⟩ : ∃ v, L.getD 0 0 = v := ⟨_, rfl⟩
                rw [hvv] at cR
                clear hvv
                have HT := Lib.hid (HD.out.turn hlt (own_set HD.out.row2 0 z) (by rw [List.length_set]; exact HD.out.len2) (grown_cell (grown_id _ _) 0 (.int .i64 z)))
                have HX := Lib.hid (FarI.row (s := s) HT.out.row2 HT.out.len2 (by have := HT.out.lo; have := hlt; omega))
                have HF := Lib.hid (FarI.row (s := s) HT.out.row HT.out.len (by have := HT.out.lo; have := hlt; omega))
                clear HD
                go_wp2
                go_ret2
                exact ⟨some ⟨ge, 0, none⟩, ce, n, some ⟨g1, 0, none⟩, c1, m, L.set 0 z, ps, rfl, ⟨HT.out.len2, HT.out.len⟩, ⟨hm8, by omega⟩, ⟨own_caps HT.out.row2, own_caps HT.out.row⟩, HX.out, HF.out, HT.out.src, HT.out.grw⟩
              case neg =>
                have hqf2 : (q2 == 2) = false := by simpa using h2
                have HX := Lib.hid (FarI.row (s := s) HD.out.row2 HD.out.len2 (by have := HD.out.lo; omega))
                have HF := Lib.hid (FarI.row (s := s) HD.out.row HD.out.len (by have := HD.out.lo; omega))
                clear h0 h1 h2
                go_wp2
                go_ret2
                exact ⟨some ⟨ge, 0, none⟩, ce, n, some ⟨g1, 0, none⟩, c1, m, L, ps, rfl, ⟨HD.out.len2, HD.out.len⟩, ⟨hm8, by omega⟩, ⟨own_caps HD.out.row2, own_caps HD.out.row⟩, HX.out, HF.out, HD.out.src, HD.out.grw⟩
/-- a signal and a pulse that a law draws -/
def SigC (w : World) (e : Ending) (w' : World) : Prop := ∃ (a0 : Option Addr) (c0 n0 : Nat) (a1 : Option Addr) (c1 n1 : Nat) (ss ps : List Int), e = .returned (.tuple #[.slice a0 n0 c0, .slice a1 n1 c1]) ∧ (ss.length = n0 ∧ ps.length = n1) ∧ (n0 ≤ 401 ∧ n1 ≤ 401) ∧ (n0 ≤ c0 ∧ n1 ≤ c1) ∧ Ints .i64 w' w'.heap.size a0 ss ∧ Ints .i64 w' w'.heap.size a1 ps ∧ Below w.heap.size w w'

theorem ddl_any (w : World) (a : Option Addr) (cap : Nat) (zs : List Int) (h : Code8 w w.heap.size a zs) :
    Calls Try.prog 20 #[.slice a zs.length cap] w (SigC w) := by
  have H := Lib.hid h
  clear h
  go_enter Try.func20, Try.ntmps20
  go_wp2_with fail
  refine (from_any _ _ _ zs H.out).mono ?_
  rintro e w1 ⟨s, rfl, hs, hsrc, hb⟩
  have HS := Lib.hid hsrc
  have HB := Lib.hid hb
  have hsz := hb.size
  clear hsrc hb
  go_wp2_with fail
  refine (dsn_any _ _ HS.out).mono ?_
  rintro e w2 ⟨a0, c0, n0, a1, c1, n1, ss, ps, rfl, hl, hn, hc, h0, h1, hsr, hg⟩
  have HR := Lib.hid (⟨hl, hn, hc, h0.ints, h1.ints, HB.out.trans (below_of_grown hg hs HB.out.size)⟩ : (ss.length = n0 ∧ ps.length = n1) ∧ (n0 ≤ 401 ∧ n1 ≤ 401) ∧ (n0 ≤ c0 ∧ n1 ≤ c1) ∧ Ints .i64 w2 w2.heap.size a0 ss ∧ Ints .i64 w2 w2.heap.size a1 ps ∧ Below w.heap.size w w2)
  clear hl hn hc h0 h1 hsr hg
  go_wp2
  go_ret2
  exact ⟨a0, c0, n0, a1, c1, n1, ss, ps, rfl, HR.out⟩
end Go.Proofs.Ythfaejhiabdkbab
