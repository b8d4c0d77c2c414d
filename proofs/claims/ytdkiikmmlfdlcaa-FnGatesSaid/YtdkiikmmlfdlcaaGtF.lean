/- Slices of contacts and of motions in the laws' hands: copied, compared, marked, measured. -/
import Derived.Test.YtdkiikmmlfdlcaaGtE
import Derived.Test.YtdkiikmmlfdlcaaPwS
import Derived.Deep.OwnRows
import Derived.Test.YtdkiikmmlfdlcaaDrw
namespace Go.Proofs.Ytdkiikmmlfdlcaa
open Go.ChangeShapes Go.WideShapes Go.ChangeAt Go.RowKit Go.Shelf Num
set_option linter.unusedVariables false
set_option linter.unusedSimpArgs false

/-- a row of structs of integers of one's own, between two marks of the memory -/
structure OwnK (t : TypeId) (m : Nat) (w : World) (lo hi : Nat) (a : Option Addr) (c n : Nat) (zs : List Int) : Prop where
  own : w.ownsRow lo t m (.slice a n c) n (zs.map iv4)
  lt : ∀ g, (Value.slice a n c).ownBlock = some g → g < hi
  up : hi ≤ w.heap.size
section
variable {t : TypeId} {m : Nat} {w w' : World} {lo hi : Nat} {a : Option Addr} {c n : Nat} {zs : List Int}
theorem OwnK.on (h : OwnK t m w lo hi a c n zs) (hb : Below w.heap.size w w') : OwnK t m w' lo hi a c n zs := ⟨own_bel h.own hb, h.lt, Nat.le_trans h.up hb.size⟩
theorem OwnK.kept {l i : Nat} (h : OwnK t m w lo hi a c n zs) (hk : Kept l i w w') (hd : hi ≤ l ∨ i ≤ lo) : OwnK t m w' lo hi a c n zs :=
  ⟨own_atG h.own (fun g e => hk.block g (h.own.lt g e).2 (by have := (h.own.lt g e).1; have := h.lt g e; omega)), h.lt, Nat.le_trans h.up hk.size⟩
theorem OwnK.less {lo' : Nat} (h : OwnK t m w lo hi a c n zs) (hl : lo' ≤ lo) : OwnK t m w lo' hi a c n zs := ⟨World.ownsRow.mono h.own hl, h.lt, h.up⟩
theorem OwnK.cap (h : OwnK t m w lo hi a c n zs) : n ≤ c := by
  rcases h.own.2 with ⟨hv, h0⟩ | ⟨g, cap, cur, hv, _, _, hle, _⟩
  · simp only [Value.slice.injEq] at hv; omega
  · simp only [Value.slice.injEq] at hv; omega
end
/-- the numbers up to m, zeros behind -/
def ckF (zs : List Int) (m i : Nat) : Value := if i < m then .int .i64 (zs.getD i 0) else .int .i64 0
theorem ck_step {w : World} {g n m : Nat} {t : TypeId} {zs : List Int} {x : Int} (h : w.rowIs g t n (ckF zs m)) (hx : zs.getD m 0 = x) : (w.setCell ⟨g, m, none⟩ (.int .i64 x)).rowIs g t n (ckF zs (m + 1)) := by
  refine (h.set m (.int .i64 x)).congr fun i hi => ?_
  unfold ckF
  by_cases e : i = m
  · subst e; rw [if_pos rfl, if_pos (by omega), hx]
  · rw [if_neg e]
    by_cases h3 : i < m
    · rw [if_pos h3, if_pos (by omega)]
    · rw [if_neg h3, if_neg (by omega)]
theorem ownK_new {W : World} {g lo n m : Nat} {t : TypeId} {zs : List Int} (h : W.rowIs g t (n * m) (ckF zs (n * m))) (hz : zs.length = n * m) (hl : lo ≤ g) (hn : n ≤ 1048576) : OwnK t m W lo W.heap.size (some ⟨g, 0, none⟩) n n zs := by
  obtain ⟨cs, hg, hs, hc⟩ := h
  have hlt := (Array.getElem?_eq_some_iff.1 hg).1
  refine ⟨⟨by simp [hz], Or.inr ⟨g, n, cs, rfl, hl, hg, Nat.le_refl _, by unfold maxLen; omega, hs, ?_⟩⟩, fun g' e => ?_, Nat.le_refl _⟩
  · rw [← hs, List.take_of_length_le (by simp)]
    apply List.ext_getElem (by simp [hs, hz])
    intro i h1 h2
    have hi : i < zs.length := by simpa using h2
    have := hc i (by omega)
    rw [Array.getElem?_eq_getElem (by omega)] at this
    simp only [Option.some.injEq] at this
    rw [Array.getElem_toList, this, List.getElem_map]
    unfold ckF iv4
    rw [if_pos (by omega), List.getD_eq_getElem?_getD, List.getElem?_eq_getElem hi]; rfl
  · simp only [Value.ownBlock, Option.map_some, Option.some.injEq] at e
    subst e
    exact hlt
theorem own_setK {w : World} {t : TypeId} {B g c n m : Nat} {zs : List Int} (h : w.ownsRow B t m (.slice (some ⟨g, 0, none⟩) n c) n (zs.map iv4)) (j : Nat) (x : Int) :
    (w.setCell ⟨g, j, none⟩ (.int .i64 x)).ownsRow B t m (.slice (some ⟨g, 0, none⟩) n c) n ((zs.set j x).map iv4) := by
  have := (h.stored j (.int .i64 x)).1
  rwa [show (zs.set j x).map iv4 = (zs.map iv4).set j (.int .i64 x) by rw [List.map_set]; rfl]
/-- the numbers of a list's elements in their order -/
def flC (ps : List (Int × Int)) : List Int := ps.flatMap fun p => [p.1, p.2]
theorem flC_len (ps : List (Int × Int)) : (flC ps).length = ps.length * 2 := by
  induction ps with
  | nil => rfl
  | cons p q ih => simp only [flC, List.flatMap_cons, List.length_append, List.length_cons, List.length_nil] at ih ⊢; omega
theorem flC_at (ps : List (Int × Int)) : ∀ j : Nat, j < ps.length → (flC ps).getD (j * 2 + 0) 0 = (ps.getD j (0, 0)).1 ∧ (flC ps).getD (j * 2 + 1) 0 = (ps.getD j (0, 0)).2 := by
  induction ps with
  | nil => intro j hj; simp at hj
  | cons p q ih =>
    intro j hj
    cases j with
    | zero => exact ⟨rfl, rfl⟩
    | succ j =>
      have := ih j (by simpa using hj)
      have e : ∀ r, (flC (p :: q)).getD ((j + 1) * 2 + r) 0 = (flC q).getD (j * 2 + r) 0 := fun r => by
        rw [show (j + 1) * 2 + r = (j * 2 + r) + 2 by omega]; rfl
      exact ⟨(e 0).trans this.1, (e 1).trans this.2⟩
theorem info_C : (Try.prog.info? 45).map (fun i => (i.zero, i.size, i.bytes)) = some (some (.agg #[.int .i64 0, .int .i64 0]), 2, 16) := by kernel_rfl
theorem mzeroC (n : Nat) : ∀ i, i < (madeCells #[.int .i64 0, .int .i64 0] n).size → (madeCells #[.int .i64 0, .int .i64 0] n)[i]? = some (.int .i64 0) := by
  intro i hi
  rw [size_madeCells] at hi
  have : i % 2 < 2 := Nat.mod_lt _ (by omega)
  rcases (by omega : i % 2 = 0 ∨ i % 2 = 1) with h | h <;> simp [madeCells, hi, h]
theorem mkC_run (n : Nat) (hn : n ≤ 1048576) (w : World) :
    (Instr.makeSlice 29 (.int .i64 (n : Int)) (.int .i64 (n : Int))).run Try.prog w = .ok (.slice (some ⟨w.heap.size, 0, none⟩) n n) (w.alloc (.cells (madeCells #[.int .i64 0, .int .i64 0] (n * 2)) 45)) := by
  obtain ⟨i, hi, hzz⟩ := Option.map_eq_some_iff.1 info_C
  simp only [Prod.mk.injEq] at hzz
  obtain ⟨hz, hs, hb⟩ := hzz
  have h := run_make (P := Try.prog) (w := w) 29 45 i _ Try.underlying29 hi hz .i64 .i64 (n : Int) (n : Int) (by omega) (Int.le_refl _) (by rw [hb]; omega) (by omega)
  simpa only [Int.toNat_natCast, hs, Value.cells] using h
theorem OwnK.rdC {w : World} {lo hi : Nat} {a : Option Addr} {c : Nat} {t : TypeId} {ps : List (Int × Int)} (h : OwnK t 2 w lo hi a c ps.length (flC ps)) : Cts w w.heap.size a ps := fun hp => by
  rcases h.own.2 with ⟨h', h0⟩ | ⟨g, cap, cur, h', hb, hg, hle, _⟩
  · simp only [Value.slice.injEq] at h'; omega
  · simp only [Value.slice.injEq] at h'
    obtain ⟨rfl, -, rfl⟩ := h'
    refine ⟨g, 0, rfl, (h.own.lt g (by simp [Value.ownBlock])).2, fun j hj => ?_⟩
    have hf := flC_at ps j hj
    have hl := flC_len ps
    have e : ∀ r, r < 2 → w.cell? ⟨g, 0 + j * 2 + r, none⟩ = some (.int .i64 ((flC ps).getD (j * 2 + r) 0)) := fun r hr => by
      rw [Nat.zero_add, h.own.cellAt (j * 2 + r) (by omega), List.getElem?_map, List.getElem?_eq_getElem (by omega), List.getD_eq_getElem?_getD, List.getElem?_eq_getElem (by omega)]; rfl
    exact ⟨by have := e 0 (by omega); rwa [hf.1] at this, by have := e 1 (by omega); rwa [hf.2] at this⟩

set_option maxRecDepth 100000 in
set_option maxHeartbeats 4000000 in
theorem toC_any (w : World) (a : Option Addr) (cap : Nat) (ps : List (Int × Int)) (hl : ps.length ≤ 1048576) (hz : Cts w w.heap.size a ps) :
    Calls Try.prog 39 #[.slice a ps.length cap] w fun e w' => ∃ g : Nat, e = .returned (.slice (some ⟨g, 0, none⟩) ps.length ps.length) ∧ OwnK 45 2 w' w.heap.size w'.heap.size (some ⟨g, 0, none⟩) ps.length ps.length (flC ps) ∧ Below w.heap.size w w' := by
  have hmk := fun W => mkC_run ps.length hl W
  have hfl := flC_len ps
  go_enter Try.func39, Try.ntmps39
  go_wp2
  clear hmk
  go_loopw [4] (fun i wr => ∃ k : Nat, k ≤ ps.length ∧ i = .int .i64 k ∧ Below w.heap.size w wr ∧ wr.rowIs w.heap.size 45 (ps.length * 2) (ckF (flC ps) (k * 2))) (fun i _ => ps.length - (intOf i).toNat)
  case atStart => exact ⟨0, by omega, rfl, (Below.refl _ _).alloc (Nat.le_refl _) _, by
    have h := World.rowIs_alloc w (madeCells #[.int .i64 0, .int .i64 0] (ps.length * 2)) 45 _ (mzeroC _)
    rw [size_madeCells] at h
    exact h.congr (fun i hi => by unfold ckF; rw [if_neg (by omega)])⟩
  case round =>
    obtain ⟨k, hk, rfl, hb, hrow⟩ := hrel
    by_cases hlt : k < ps.length
    · obtain ⟨b, off, x, y, rfl, hB, hxy, hc0, hc1⟩ := (hz.below hb).at_ hlt
      have HB := Lib.hid hb
      have HX := Lib.hid hxy
      have HR := Lib.hid hrow
      clear hb hxy hrow
      have x0 : (flC ps).getD (k * 2) 0 = x := by have := (flC_at ps k hlt).1; rw [HX.out] at this; exact this
      have x1 : (flC ps).getD (k * 2 + 1) 0 = y := by have := (flC_at ps k hlt).2; rw [HX.out] at this; exact this
      go_wp2_with fail
      refine (tct_any _ _ _).mono ?_
      rintro e w2 ⟨rfl, hb⟩
      have hrow2 := HR.out.of_block (hb.block w.heap.size HR.out.lt)
      have q0 := hrow2.cell (i := k * 2) (by omega)
      rw [show ckF (flC ps) (k * 2) (k * 2) = .int .i64 0 from by unfold ckF; rw [if_neg (by omega)]] at q0
      have f0 := hrow2.frozen (k * 2)
      have q1 := hrow2.cell (i := k * 2 + 1) (by omega)
      rw [show ckF (flC ps) (k * 2) (k * 2 + 1) = .int .i64 0 from by unfold ckF; rw [if_neg (by omega)]] at q1
      have f1 := hrow2.frozen (k * 2 + 1)
      have HR2 := Lib.hid hrow2
      have HB2 := Lib.hid (HB.out.trans (hb.mono HB.out.size))
      have HN : Hid (∀ W : World, W.rowIs w.heap.size 45 (ps.length * 2) (ckF (flC ps) (k * 2 + 2)) → W.rowIs w.heap.size 45 (ps.length * 2) (ckF (flC ps) ((k + 1) * 2))) := Lib.hid (fun W h => by rw [show (k + 1) * 2 = k * 2 + 2 by omega]; exact h)
      have H9 := Lib.hid (HN.out _ (ck_step (m := k * 2 + 1) (ck_step (m := k * 2) HR2.out x0) x1))
      clear hb hrow2 hfl x0 x1
      go_wp2
      go_roundw
      case rel => exact ⟨k + 1, by omega, by go_num, (HB2.out.setCell (by simp) _).setCell (by simp) _, H9.out⟩
      case measure => simp [intOf]; omega
    · obtain rfl : k = ps.length := by omega
      go_wp2
      go_ret
      exact ⟨_, rfl, ownK_new hrow hfl (Nat.le_refl _) hl, hb⟩

set_option maxRecDepth 100000 in
set_option maxHeartbeats 2000000 in
theorem eqC_any (w : World) (a b : Option Addr) (c d : Nat) (ps : List (Int × Int)) (hl : ps.length ≤ 1048576) (hx : Cts w w.heap.size a ps) (hy : Cts w w.heap.size b ps) :
    Calls Try.prog 40 #[.slice a ps.length c, .slice b ps.length d] w fun e w' => e = .returned (.bool true) ∧ Below w.heap.size w w' := by
  go_enter Try.func40, Try.ntmps40
  go_wp2
  go_loopw [5] (fun i wr => ∃ k : Nat, k ≤ ps.length ∧ i = .int .i64 k ∧ Below w.heap.size w wr) (fun i _ => ps.length - (intOf i).toNat)
  case atStart => exact ⟨0, by omega, rfl, Below.refl _ _⟩
  case round =>
    obtain ⟨k, hk, rfl, hb⟩ := hrel
    by_cases hlt : k < ps.length
    · obtain ⟨b1, o1, x, y, rfl, hB1, hxy, hc0, hc1⟩ := (hx.below hb).at_ hlt
      obtain ⟨b2, o2, x', y', rfl, hB2, hxy2, hd0, hd1⟩ := (hy.below hb).at_ hlt
      rw [hxy] at hxy2
      simp only [Prod.mk.injEq] at hxy2
      obtain ⟨e0, e1⟩ := hxy2
      subst e0 e1
      have HB := Lib.hid hb
      have HX := Lib.hid hx
      have HY := Lib.hid hy
      clear hb hxy hx hy
      go_wp2_with fail
      go_still_tail 8, (by kernel_rfl)
      go_wp2_with fail
      refine (eqct_any _ _ _).mono ?_
      rintro e w2 ⟨rfl, hb⟩
      have HB2 := Lib.hid (HB.out.drew.trans (hb.mono HB.out.size))
      clear hb
      go_wp2
      go_roundw
      case rel => exact ⟨k + 1, by omega, by go_num, HB2.out⟩
      case measure => simp [intOf]; omega
    · go_wp2
      go_ret
      exact ⟨rfl, hb⟩

set_option maxRecDepth 100000 in
set_option maxHeartbeats 4000000 in
theorem mkrC_any (w : World) (B g c n : Nat) (k : Int) (zs0 : List Int) (hz0 : zs0.length = n * 2) (hr : w.ownsRow B 45 2 (.slice (some ⟨g, 0, none⟩) n c) n (zs0.map iv4)) (hn : n ≤ 1048576) (k0 : 0 ≤ k) (k1 : k ≤ 10000000) :
    Calls Try.prog 44 #[.slice (some ⟨g, 0, none⟩) n c, .int .i64 k] w fun e w' => e = .returned (.int .i64 (k + 2 * (n : Int))) ∧ w.grownBy w' (some g) := by
  have HR := Lib.hid hr
  have HZ0 := Lib.hid hz0
  clear hr hz0
  go_enter Try.func44, Try.ntmps44
  go_wp2
  go_loopw [1, 5] (fun s i wr => ∃ (j : Nat) (zs : List Int), j ≤ n ∧ zs.length = n * 2 ∧ i = .int .i64 j ∧ s = .int .i64 (k + 2 * (j : Int)) ∧ wr.ownsRow B 45 2 (.slice (some ⟨g, 0, none⟩) n c) n (zs.map iv4) ∧ w.grownBy wr (some g)) (fun _ i _ => n - (intOf i).toNat)
  case atStart => exact ⟨0, zs0, by omega, HZ0.out, rfl, by simp, HR.out, grown_refl _ _⟩
  case round =>
    obtain ⟨j, zs, hj, hzl, rfl, rfl, hrow, hg⟩ := hrel
    by_cases hlt : j < n
    · have hlen : zs.length = n * 2 := hzl
      obtain ⟨v0, o0⟩ : ∃ v, wr.cell? ⟨g, j * 2, none⟩ = some v := by
        rw [hrow.cellAt (j * 2) (by omega), List.getElem?_map, List.getElem?_eq_getElem (by omega)]
        exact ⟨_, rfl⟩
      have f0 := hrow.frozenAt (j * 2)
      obtain ⟨v1, o1⟩ : ∃ v, wr.cell? ⟨g, j * 2 + 1, none⟩ = some v := by
        rw [hrow.cellAt (j * 2 + 1) (by omega), List.getElem?_map, List.getElem?_eq_getElem (by omega)]
        exact ⟨_, rfl⟩
      have f1 := hrow.frozenAt (j * 2 + 1)
      have HW := Lib.hid hrow
      have HL := Lib.hid hlen
      have HG := Lib.hid hg
      clear hrow hg hlen hzl
      go_wp2
      go_roundw
      case rel => exact ⟨j + 1, _, by omega, by simp only [List.length_set]; exact HL.out, by go_num, by go_num, (own_setK (own_setK HW.out _ _) _ _), (grown_cell (grown_cell HG.out _ _) _ _)⟩
      case measure => simp [intOf]; omega
    · obtain rfl : j = n := by omega
      have HG := Lib.hid hg
      clear hrow hg
      go_wp2
      go_ret
      exact ⟨rfl, HG.out⟩
theorem mknC_any (w : World) (c : Nat) (k : Int) :
    Calls Try.prog 44 #[.slice none 0 c, .int .i64 k] w fun e w' => e = .returned (.int .i64 k) ∧ w' = w := by
  go_enter Try.func44, Try.ntmps44
  go_wp2
  go_loopw [1, 5] (fun s i wr => i = .int .i64 0 ∧ s = .int .i64 k ∧ wr = w) (fun _ _ _ => 0)
  case atStart => exact ⟨rfl, rfl, rfl⟩
  case round =>
    obtain ⟨rfl, rfl, rfl⟩ := hrel
    go_wp2
    go_ret
    exact ⟨rfl, rfl⟩
theorem mkC_any (w : World) (lo hi : Nat) (a : Option Addr) (c n : Nat) (zs : List Int) (k : Int) (h : OwnK 45 2 w lo hi a c n zs) (hz : zs.length = n * 2) (hn : n ≤ 1048576) (k0 : 0 ≤ k) (k1 : k ≤ 10000000) :
    Calls Try.prog 44 #[.slice a n c, .int .i64 k] w fun e w' => e = .returned (.int .i64 (k + 2 * (n : Int))) ∧ Kept lo hi w w' := by
  rcases h.own.2 with ⟨hv, h0⟩ | ⟨g, cap, cur, hv, hb, hg, rest⟩
  · simp only [Value.slice.injEq] at hv
    obtain ⟨rfl, rfl, rfl⟩ := hv
    refine (mknC_any w 0 k).mono ?_
    rintro e w' ⟨rfl, rfl⟩
    exact ⟨by simp, Kept.of_below (Below.refl _ _)⟩
  · simp only [Value.slice.injEq] at hv
    obtain ⟨rfl, -, rfl⟩ := hv
    refine (mkrC_any w lo g c n k zs hz h.own hn k0 k1).mono ?_
    rintro e w' ⟨rfl, hgr⟩
    exact ⟨rfl, Kept.of_grown hgr (fun x e => ⟨(h.own.lt x (by simpa [Value.ownBlock] using e)).1, h.lt x (by simpa [Value.ownBlock] using e)⟩)⟩
theorem szC_any (w : World) (a : Option Addr) (n c : Nat) (l : Int) (hn : n ≤ 9223372036854775807) (l0 : 0 ≤ l) (l1 : l ≤ 1048576) :
    Calls Try.prog 38 #[.slice a n c, .int .i64 l] w fun e w' => e = .returned (.int .i64 (if l < (n : Int) then -1 else l - (n : Int))) ∧ w = w' := by
  by_cases h : l < (n : Int)
  · have h1 : l - (n : Int) < 0 := by omega
    have HE : Hid ((if l < (n : Int) then -1 else l - (n : Int)) = -1) := Lib.hid (if_pos h)
    clear h
    go_enter Try.func38, Try.ntmps38
    go_wp2
    go_ret
    exact ⟨rfl, rfl⟩
  · have h1 : ¬ l - (n : Int) < 0 := by omega
    have HE : Hid ((if l < (n : Int) then -1 else l - (n : Int)) = l - (n : Int)) := Lib.hid (if_neg h)
    clear h
    go_enter Try.func38, Try.ntmps38
    go_wp2
    go_ret
    exact ⟨rfl, rfl⟩
end Go.Proofs.Ytdkiikmmlfdlcaa
