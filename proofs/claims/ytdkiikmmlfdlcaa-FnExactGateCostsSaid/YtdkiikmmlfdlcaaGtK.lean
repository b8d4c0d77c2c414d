/- Slices of motions in the laws' hands: copied, compared, marked, measured. -/
import Derived.Test.YtdkiikmmlfdlcaaGtF
namespace Go.Proofs.Ytdkiikmmlfdlcaa
open Go.ChangeShapes Go.WideShapes Go.ChangeAt Go.RowKit Go.Shelf Num
set_option linter.unusedVariables false
set_option linter.unusedSimpArgs false
/-- the numbers of a list's elements in their order -/
def flM (ps : List (Mo)) : List Int := ps.flatMap fun p => [p.1, p.2.1, p.2.2.1, p.2.2.2.1, p.2.2.2.2]
theorem flM_len (ps : List (Mo)) : (flM ps).length = ps.length * 5 := by
  induction ps with
  | nil => rfl
  | cons p q ih => simp only [flM, List.flatMap_cons, List.length_append, List.length_cons, List.length_nil] at ih ⊢; omega
theorem flM_at (ps : List (Mo)) : ∀ j : Nat, j < ps.length → (flM ps).getD (j * 5 + 0) 0 = (ps.getD j mo0).1 ∧ (flM ps).getD (j * 5 + 1) 0 = (ps.getD j mo0).2.1 ∧ (flM ps).getD (j * 5 + 2) 0 = (ps.getD j mo0).2.2.1 ∧ (flM ps).getD (j * 5 + 3) 0 = (ps.getD j mo0).2.2.2.1 ∧ (flM ps).getD (j * 5 + 4) 0 = (ps.getD j mo0).2.2.2.2 := by
  induction ps with
  | nil => intro j hj; simp at hj
  | cons p q ih =>
    intro j hj
    cases j with
    | zero => exact ⟨rfl, rfl, rfl, rfl, rfl⟩
    | succ j =>
      have := ih j (by simpa using hj)
      have e : ∀ r, (flM (p :: q)).getD ((j + 1) * 5 + r) 0 = (flM q).getD (j * 5 + r) 0 := fun r => by
        rw [show (j + 1) * 5 + r = (j * 5 + r) + 5 by omega]; rfl
      exact ⟨(e 0).trans this.1, (e 1).trans this.2.1, (e 2).trans this.2.2.1, (e 3).trans this.2.2.2.1, (e 4).trans this.2.2.2.2⟩
theorem info_M : (Try.prog.info? 25).map (fun i => (i.zero, i.size, i.bytes)) = some (some (.agg #[.int .i64 0, .int .i64 0, .int .i64 0, .int .i64 0, .int .i64 0]), 5, 40) := by kernel_rfl
theorem mzeroM (n : Nat) : ∀ i, i < (madeCells #[.int .i64 0, .int .i64 0, .int .i64 0, .int .i64 0, .int .i64 0] n).size → (madeCells #[.int .i64 0, .int .i64 0, .int .i64 0, .int .i64 0, .int .i64 0] n)[i]? = some (.int .i64 0) := by
  intro i hi
  rw [size_madeCells] at hi
  have : i % 5 < 5 := Nat.mod_lt _ (by omega)
  rcases (by omega : i % 5 = 0 ∨ i % 5 = 1 ∨ i % 5 = 2 ∨ i % 5 = 3 ∨ i % 5 = 4) with h | h | h | h | h <;> simp [madeCells, hi, h]
theorem mkM_run (n : Nat) (hn : n ≤ 1048576) (w : World) :
    (Instr.makeSlice 74 (.int .i64 (n : Int)) (.int .i64 (n : Int))).run Try.prog w = .ok (.slice (some ⟨w.heap.size, 0, none⟩) n n) (w.alloc (.cells (madeCells #[.int .i64 0, .int .i64 0, .int .i64 0, .int .i64 0, .int .i64 0] (n * 5)) 25)) := by
  obtain ⟨i, hi, hzz⟩ := Option.map_eq_some_iff.1 info_M
  simp only [Prod.mk.injEq] at hzz
  obtain ⟨hz, hs, hb⟩ := hzz
  have h := run_make (P := Try.prog) (w := w) 74 25 i _ Try.underlying74 hi hz .i64 .i64 (n : Int) (n : Int) (by omega) (Int.le_refl _) (by rw [hb]; omega) (by omega)
  simpa only [Int.toNat_natCast, hs, Value.cells] using h
theorem OwnK.rdM {w : World} {lo hi : Nat} {a : Option Addr} {c : Nat} {t : TypeId} {ps : List (Mo)} (h : OwnK t 5 w lo hi a c ps.length (flM ps)) : Mts w w.heap.size a ps := fun hp => by
  rcases h.own.2 with ⟨h', h0⟩ | ⟨g, cap, cur, h', hb, hg, hle, _⟩
  · simp only [Value.slice.injEq] at h'; omega
  · simp only [Value.slice.injEq] at h'
    obtain ⟨rfl, -, rfl⟩ := h'
    refine ⟨g, 0, rfl, (h.own.lt g (by simp [Value.ownBlock])).2, fun j hj => ?_⟩
    have hf := flM_at ps j hj
    have hl := flM_len ps
    have e : ∀ r, r < 5 → w.cell? ⟨g, 0 + j * 5 + r, none⟩ = some (.int .i64 ((flM ps).getD (j * 5 + r) 0)) := fun r hr => by
      rw [Nat.zero_add, h.own.cellAt (j * 5 + r) (by omega), List.getElem?_map, List.getElem?_eq_getElem (by omega), List.getD_eq_getElem?_getD, List.getElem?_eq_getElem (by omega)]; rfl
    exact ⟨by have := e 0 (by omega); rwa [hf.1] at this, by have := e 1 (by omega); rwa [hf.2.1] at this, by have := e 2 (by omega); rwa [hf.2.2.1] at this, by have := e 3 (by omega); rwa [hf.2.2.2.1] at this, by have := e 4 (by omega); rwa [hf.2.2.2.2] at this⟩

set_option maxRecDepth 100000 in
set_option maxHeartbeats 4000000 in
theorem toM_any (w : World) (a : Option Addr) (cap : Nat) (ps : List (Mo)) (hl : ps.length ≤ 1048576) (hz : Mts w w.heap.size a ps) :
    Calls Try.prog 49 #[.slice a ps.length cap] w fun e w' => ∃ g : Nat, e = .returned (.slice (some ⟨g, 0, none⟩) ps.length ps.length) ∧ OwnK 25 5 w' w.heap.size w'.heap.size (some ⟨g, 0, none⟩) ps.length ps.length (flM ps) ∧ Below w.heap.size w w' := by
  have hmk := fun W => mkM_run ps.length hl W
  have hfl := flM_len ps
  go_enter Try.func49, Try.ntmps49
  go_wp2
  clear hmk
  go_loopw [4] (fun i wr => ∃ k : Nat, k ≤ ps.length ∧ i = .int .i64 k ∧ Below w.heap.size w wr ∧ wr.rowIs w.heap.size 25 (ps.length * 5) (ckF (flM ps) (k * 5))) (fun i _ => ps.length - (intOf i).toNat)
  case atStart => exact ⟨0, by omega, rfl, (Below.refl _ _).alloc (Nat.le_refl _) _, by
    have h := World.rowIs_alloc w (madeCells #[.int .i64 0, .int .i64 0, .int .i64 0, .int .i64 0, .int .i64 0] (ps.length * 5)) 25 _ (mzeroM _)
    rw [size_madeCells] at h
    exact h.congr (fun i hi => by unfold ckF; rw [if_neg (by omega)])⟩
  case round =>
    obtain ⟨k, hk, rfl, hb, hrow⟩ := hrel
    by_cases hlt : k < ps.length
    · obtain ⟨b, off, x, y, u, v, s, rfl, hB, hxy, hc0, hc1, hc2, hc3, hc4⟩ := (hz.below hb).at_ hlt
      have HB := Lib.hid hb
      have HX := Lib.hid hxy
      have HR := Lib.hid hrow
      clear hb hxy hrow
      have x0 : (flM ps).getD (k * 5) 0 = x := by have := (flM_at ps k hlt).1; rw [HX.out] at this; exact this
      have x1 : (flM ps).getD (k * 5 + 1) 0 = y := by have := (flM_at ps k hlt).2.1; rw [HX.out] at this; exact this
      have x2 : (flM ps).getD (k * 5 + 2) 0 = u := by have := (flM_at ps k hlt).2.2.1; rw [HX.out] at this; exact this
      have x3 : (flM ps).getD (k * 5 + 3) 0 = v := by have := (flM_at ps k hlt).2.2.2.1; rw [HX.out] at this; exact this
      have x4 : (flM ps).getD (k * 5 + 4) 0 = s := by have := (flM_at ps k hlt).2.2.2.2; rw [HX.out] at this; exact this
      go_wp2_with fail
      refine (tmo_any _ _ _ _ _ _).mono ?_
      rintro e w2 ⟨rfl, hb⟩
      have hrow2 := HR.out.of_block (hb.block w.heap.size HR.out.lt)
      have q0 := hrow2.cell (i := k * 5) (by omega)
      rw [show ckF (flM ps) (k * 5) (k * 5) = .int .i64 0 from by unfold ckF; rw [if_neg (by omega)]] at q0
      have f0 := hrow2.frozen (k * 5)
      have q1 := hrow2.cell (i := k * 5 + 1) (by omega)
      rw [show ckF (flM ps) (k * 5) (k * 5 + 1) = .int .i64 0 from by unfold ckF; rw [if_neg (by omega)]] at q1
      have f1 := hrow2.frozen (k * 5 + 1)
      have q2 := hrow2.cell (i := k * 5 + 2) (by omega)
      rw [show ckF (flM ps) (k * 5) (k * 5 + 2) = .int .i64 0 from by unfold ckF; rw [if_neg (by omega)]] at q2
      have f2 := hrow2.frozen (k * 5 + 2)
      have q3 := hrow2.cell (i := k * 5 + 3) (by omega)
      rw [show ckF (flM ps) (k * 5) (k * 5 + 3) = .int .i64 0 from by unfold ckF; rw [if_neg (by omega)]] at q3
      have f3 := hrow2.frozen (k * 5 + 3)
      have q4 := hrow2.cell (i := k * 5 + 4) (by omega)
      rw [show ckF (flM ps) (k * 5) (k * 5 + 4) = .int .i64 0 from by unfold ckF; rw [if_neg (by omega)]] at q4
      have f4 := hrow2.frozen (k * 5 + 4)
      have HR2 := Lib.hid hrow2
      have HB2 := Lib.hid (HB.out.trans (hb.mono HB.out.size))
      have HN : Hid (∀ W : World, W.rowIs w.heap.size 25 (ps.length * 5) (ckF (flM ps) (k * 5 + 5)) → W.rowIs w.heap.size 25 (ps.length * 5) (ckF (flM ps) ((k + 1) * 5))) := Lib.hid (fun W h => by rw [show (k + 1) * 5 = k * 5 + 5 by omega]; exact h)
      have H9 := Lib.hid (HN.out _ (ck_step (m := k * 5 + 4) (ck_step (m := k * 5 + 3) (ck_step (m := k * 5 + 2) (ck_step (m := k * 5 + 1) (ck_step (m := k * 5) HR2.out x0) x1) x2) x3) x4))
      clear hb hrow2 hfl x0 x1 x2 x3 x4
      go_wp2
      go_roundw
      case rel => exact ⟨k + 1, by omega, by go_num, ((((HB2.out.setCell (by simp) _).setCell (by simp) _).setCell (by simp) _).setCell (by simp) _).setCell (by simp) _, H9.out⟩
      case measure => simp [intOf]; omega
    · obtain rfl : k = ps.length := by omega
      go_wp2
      go_ret
      exact ⟨_, rfl, ownK_new hrow hfl (Nat.le_refl _) hl, hb⟩

set_option maxRecDepth 100000 in
set_option maxHeartbeats 2000000 in
theorem eqM_any (w : World) (a b : Option Addr) (c d : Nat) (ps : List (Mo)) (hl : ps.length ≤ 1048576) (hx : Mts w w.heap.size a ps) (hy : Mts w w.heap.size b ps) :
    Calls Try.prog 52 #[.slice a ps.length c, .slice b ps.length d] w fun e w' => e = .returned (.bool true) ∧ Below w.heap.size w w' := by
  go_enter Try.func52, Try.ntmps52
  go_wp2
  go_loopw [5] (fun i wr => ∃ k : Nat, k ≤ ps.length ∧ i = .int .i64 k ∧ Below w.heap.size w wr) (fun i _ => ps.length - (intOf i).toNat)
  case atStart => exact ⟨0, by omega, rfl, Below.refl _ _⟩
  case round =>
    obtain ⟨k, hk, rfl, hb⟩ := hrel
    by_cases hlt : k < ps.length
    · obtain ⟨b1, o1, x, y, u, v, s, rfl, hB1, hxy, hc0, hc1, hc2, hc3, hc4⟩ := (hx.below hb).at_ hlt
      obtain ⟨b2, o2, x', y', u', v', s', rfl, hB2, hxy2, hd0, hd1, hd2, hd3, hd4⟩ := (hy.below hb).at_ hlt
      rw [hxy] at hxy2
      simp only [Prod.mk.injEq] at hxy2
      obtain ⟨e0, e1, e2, e3, e4⟩ := hxy2
      subst e0 e1 e2 e3 e4
      have HB := Lib.hid hb
      have HX := Lib.hid hx
      have HY := Lib.hid hy
      clear hb hxy hx hy
      go_wp2_with fail
      go_still_tail 8, (by kernel_rfl)
      go_wp2_with fail
      refine (eqmo_any _ _ _ _ _ _).mono ?_
      rintro e w2 ⟨rfl, hb⟩
      have HB2 := Lib.hid (HB.out.drew.trans (hb.mono HB.out.size))
      clear hb
      go_wp2
      go_roundw
      case rel => exact ⟨k + 1, by omega, by go_num, HB2.out⟩
      case measure => simp [intOf]; omega
    · go_wp2
      go_ret
      exact ⟨rfl, hb⟩

set_option maxRecDepth 100000 in
set_option maxHeartbeats 4000000 in
theorem mkrM_any (w : World) (B g c n : Nat) (k : Int) (zs0 : List Int) (hz0 : zs0.length = n * 5) (hr : w.ownsRow B 25 5 (.slice (some ⟨g, 0, none⟩) n c) n (zs0.map iv4)) (hn : n ≤ 1048576) (k0 : 0 ≤ k) (k1 : k ≤ 10000000) :
    Calls Try.prog 53 #[.slice (some ⟨g, 0, none⟩) n c, .int .i64 k] w fun e w' => e = .returned (.int .i64 (k + 5 * (n : Int))) ∧ w.grownBy w' (some g) := by
  have HR := Lib.hid hr
  have HZ0 := Lib.hid hz0
  clear hr hz0
  go_enter Try.func53, Try.ntmps53
  go_wp2
  go_loopw [1, 5] (fun s i wr => ∃ (j : Nat) (zs : List Int), j ≤ n ∧ zs.length = n * 5 ∧ i = .int .i64 j ∧ s = .int .i64 (k + 5 * (j : Int)) ∧ wr.ownsRow B 25 5 (.slice (some ⟨g, 0, none⟩) n c) n (zs.map iv4) ∧ w.grownBy wr (some g)) (fun _ i _ => n - (intOf i).toNat)
  case atStart => exact ⟨0, zs0, by omega, HZ0.out, rfl, by simp, HR.out, grown_refl _ _⟩
  case round =>
    obtain ⟨j, zs, hj, hzl, rfl, rfl, hrow, hg⟩ := hrel
    by_cases hlt : j < n
    · have hlen : zs.length = n * 5 := hzl
      obtain ⟨v0, o0⟩ : ∃ v, wr.cell? ⟨g, j * 5, none⟩ = some v := by
        rw [hrow.cellAt (j * 5) (by omega), List.getElem?_map, List.getElem?_eq_getElem (by omega)]
        exact ⟨_, rfl⟩
      have f0 := hrow.frozenAt (j * 5)
      obtain ⟨v1, o1⟩ : ∃ v, wr.cell? ⟨g, j * 5 + 1, none⟩ = some v := by
        rw [hrow.cellAt (j * 5 + 1) (by omega), List.getElem?_map, List.getElem?_eq_getElem (by omega)]
        exact ⟨_, rfl⟩
      have f1 := hrow.frozenAt (j * 5 + 1)
      obtain ⟨v2, o2⟩ : ∃ v, wr.cell? ⟨g, j * 5 + 2, none⟩ = some v := by
        rw [hrow.cellAt (j * 5 + 2) (by omega), List.getElem?_map, List.getElem?_eq_getElem (by omega)]
        exact ⟨_, rfl⟩
      have f2 := hrow.frozenAt (j * 5 + 2)
      obtain ⟨v3, o3⟩ : ∃ v, wr.cell? ⟨g, j * 5 + 3, none⟩ = some v := by
        rw [hrow.cellAt (j * 5 + 3) (by omega), List.getElem?_map, List.getElem?_eq_getElem (by omega)]
        exact ⟨_, rfl⟩
      have f3 := hrow.frozenAt (j * 5 + 3)
      obtain ⟨v4, o4⟩ : ∃ v, wr.cell? ⟨g, j * 5 + 4, none⟩ = some v := by
        rw [hrow.cellAt (j * 5 + 4) (by omega), List.getElem?_map, List.getElem?_eq_getElem (by omega)]
        exact ⟨_, rfl⟩
      have f4 := hrow.frozenAt (j * 5 + 4)
      have HW := Lib.hid hrow
      have HL := Lib.hid hlen
      have HG := Lib.hid hg
      clear hrow hg hlen hzl
      go_wp2
      go_roundw
      case rel => exact ⟨j + 1, _, by omega, by simp only [List.length_set]; exact HL.out, by go_num, by go_num, (own_setK (own_setK (own_setK (own_setK (own_setK HW.out _ _) _ _) _ _) _ _) _ _), (grown_cell (grown_cell (grown_cell (grown_cell (grown_cell HG.out _ _) _ _) _ _) _ _) _ _)⟩
      case measure => simp [intOf]; omega
    · obtain rfl : j = n := by omega
      have HG := Lib.hid hg
      clear hrow hg
      go_wp2
      go_ret
      exact ⟨rfl, HG.out⟩
theorem mknM_any (w : World) (c : Nat) (k : Int) :
    Calls Try.prog 53 #[.slice none 0 c, .int .i64 k] w fun e w' => e = .returned (.int .i64 k) ∧ w' = w := by
  go_enter Try.func53, Try.ntmps53
  go_wp2
  go_loopw [1, 5] (fun s i wr => i = .int .i64 0 ∧ s = .int .i64 k ∧ wr = w) (fun _ _ _ => 0)
  case atStart => exact ⟨rfl, rfl, rfl⟩
  case round =>
    obtain ⟨rfl, rfl, rfl⟩ := hrel
    go_wp2
    go_ret
    exact ⟨rfl, rfl⟩
theorem mkM_any (w : World) (lo hi : Nat) (a : Option Addr) (c n : Nat) (zs : List Int) (k : Int) (h : OwnK 25 5 w lo hi a c n zs) (hz : zs.length = n * 5) (hn : n ≤ 1048576) (k0 : 0 ≤ k) (k1 : k ≤ 10000000) :
    Calls Try.prog 53 #[.slice a n c, .int .i64 k] w fun e w' => e = .returned (.int .i64 (k + 5 * (n : Int))) ∧ Kept lo hi w w' := by
  rcases h.own.2 with ⟨hv, h0⟩ | ⟨g, cap, cur, hv, hb, hg, rest⟩
  · simp only [Value.slice.injEq] at hv
    obtain ⟨rfl, rfl, rfl⟩ := hv
    refine (mknM_any w 0 k).mono ?_
    rintro e w' ⟨rfl, rfl⟩
    exact ⟨by simp, Kept.of_below (Below.refl _ _)⟩
  · simp only [Value.slice.injEq] at hv
    obtain ⟨rfl, -, rfl⟩ := hv
    refine (mkrM_any w lo g c n k zs hz h.own hn k0 k1).mono ?_
    rintro e w' ⟨rfl, hgr⟩
    exact ⟨rfl, Kept.of_grown hgr (fun x e => ⟨(h.own.lt x (by simpa [Value.ownBlock] using e)).1, h.lt x (by simpa [Value.ownBlock] using e)⟩)⟩
theorem szM_any (w : World) (a : Option Addr) (n c : Nat) (l : Int) (hn : n ≤ 9223372036854775807) (l0 : 0 ≤ l) (l1 : l ≤ 1048576) :
    Calls Try.prog 47 #[.slice a n c, .int .i64 l] w fun e w' => e = .returned (.int .i64 (if l < (n : Int) then -1 else l - (n : Int))) ∧ w = w' := by
  by_cases h : l < (n : Int)
  · have h1 : l - (n : Int) < 0 := by omega
    have HE : Hid ((if l < (n : Int) then -1 else l - (n : Int)) = -1) := Lib.hid (if_pos h)
    clear h
    go_enter Try.func47, Try.ntmps47
    go_wp2
    go_ret
    exact ⟨rfl, rfl⟩
  · have h1 : ¬ l - (n : Int) < 0 := by omega
    have HE : Hid ((if l < (n : Int) then -1 else l - (n : Int)) = l - (n : Int)) := Lib.hid (if_neg h)
    clear h
    go_enter Try.func47, Try.ntmps47
    go_wp2
    go_ret
    exact ⟨rfl, rfl⟩
end Go.Proofs.Ytdkiikmmlfdlcaa
