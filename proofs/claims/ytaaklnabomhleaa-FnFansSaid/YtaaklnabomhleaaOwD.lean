/- Rows of directions of one's own: kept over calls, compared, marked, read again. -/
import Derived.Test.YtaaklnabomhleaaLys
import Derived.Test.YtaaklnabomhleaaRowG
import Derived.Test.YtaaklnabomhleaaDrc
import Derived.LoopTactic
import Derived.StillTailTactics
namespace Go.Proofs.Ytaaklnabomhleaa
open Go.ChangeShapes Go.WideShapes Go.ChangeAt Go.RowKit Go.Shelf Num
set_option linter.unusedVariables false
/-- the slice at 'a' reads as the directions 'ps'; its memory lies below block B -/
def Drs (w : World) (B : Nat) (a : Option Addr) (ps : List (Int × Int × Int)) : Prop :=
  0 < ps.length → ∃ b off, a = some ⟨b, off, none⟩ ∧ b < B ∧ ∀ j, j < ps.length → w.cell? ⟨b, off + j * 3, none⟩ = some (.int .i64 (ps.getD j (0, 0, 0)).1) ∧ w.cell? ⟨b, off + j * 3 + 1, none⟩ = some (.int .i64 (ps.getD j (0, 0, 0)).2.1) ∧ w.cell? ⟨b, off + j * 3 + 2, none⟩ = some (.int .i64 (ps.getD j (0, 0, 0)).2.2)
theorem Drs.below {w w' : World} {B : Nat} {a : Option Addr} {ps : List (Int × Int × Int)} (h : Drs w B a ps) (hb : Below B w w') : Drs w' B a ps := fun hp => by
  obtain ⟨b, off, e, hB, hc⟩ := h hp
  exact ⟨b, off, e, hB, fun j hj => ⟨(hb.cell (p := ⟨b, off + j * 3, none⟩) hB).trans (hc j hj).1, (hb.cell (p := ⟨b, off + j * 3 + 1, none⟩) hB).trans (hc j hj).2.1, (hb.cell (p := ⟨b, off + j * 3 + 2, none⟩) hB).trans (hc j hj).2.2⟩⟩
theorem Drs.more {w : World} {B B' : Nat} {a : Option Addr} {ps : List (Int × Int × Int)} (h : Drs w B a ps) (hb : B ≤ B') : Drs w B' a ps := fun hp => by
  obtain ⟨b, off, e, hB, hc⟩ := h hp
  exact ⟨b, off, e, by omega, hc⟩
theorem Drs.at_ {w : World} {B : Nat} {a : Option Addr} {ps : List (Int × Int × Int)} (h : Drs w B a ps) {j : Nat} (hj : j < ps.length) :
    ∃ b off x y z, a = some ⟨b, off, none⟩ ∧ b < B ∧ ps.getD j (0, 0, 0) = (x, y, z) ∧ w.cell? ⟨b, off + j * 3, none⟩ = some (.int .i64 x) ∧ w.cell? ⟨b, off + j * 3 + 1, none⟩ = some (.int .i64 y) ∧ w.cell? ⟨b, off + j * 3 + 2, none⟩ = some (.int .i64 z) := by
  obtain ⟨b, off, e, hB, hc⟩ := h (by omega)
  exact ⟨b, off, _, _, _, e, hB, rfl, (hc j hj).1, (hc j hj).2.1, (hc j hj).2.2⟩
/-- directions below a mark -/
structure DrsL (w : World) (L : Nat) (a : Option Addr) (ps : List (Int × Int × Int)) : Prop where
  at_ : Drs w L a ps
  le : L ≤ w.heap.size
theorem DrsL.of {w : World} {a : Option Addr} {ps : List (Int × Int × Int)} (h : Drs w w.heap.size a ps) : DrsL w w.heap.size a ps := ⟨h, Nat.le_refl _⟩
theorem DrsL.on {w w' : World} {L : Nat} {a : Option Addr} {ps : List (Int × Int × Int)} (h : DrsL w L a ps) (hb : Below w.heap.size w w') : DrsL w' L a ps := ⟨h.at_.below (hb.mono h.le), Nat.le_trans h.le hb.size⟩
theorem DrsL.drs {w : World} {L : Nat} {a : Option Addr} {ps : List (Int × Int × Int)} (h : DrsL w L a ps) : Drs w w.heap.size a ps := h.at_.more h.le
theorem DrsL.kept {w w' : World} {L l i : Nat} {a : Option Addr} {ps : List (Int × Int × Int)} (h : DrsL w L a ps) (hk : Kept l i w w') (hd : L ≤ l) (hl : l ≤ w.heap.size) : DrsL w' L a ps := ⟨h.at_.below ((hk.below hl).mono hd), Nat.le_trans h.le hk.size⟩
/-- the numbers of the directions in their order -/
def flD (ps : List (Int × Int × Int)) : List Int := ps.flatMap fun p => [p.1, p.2.1, p.2.2]
theorem flD_len (ps : List (Int × Int × Int)) : (flD ps).length = 3 * ps.length := by
  induction ps with
  | nil => rfl
  | cons p q ih => simp only [flD, List.flatMap_cons, List.length_append, List.length_cons, List.length_nil] at ih ⊢; omega
theorem flD_snoc (ps : List (Int × Int × Int)) (p : Int × Int × Int) : flD (ps ++ [p]) = flD ps ++ [p.1, p.2.1, p.2.2] := by simp [flD]
theorem flD_at (ps : List (Int × Int × Int)) : ∀ j : Nat, j < ps.length → (flD ps)[3 * j]? = some (ps.getD j (0, 0, 0)).1 ∧ (flD ps)[3 * j + 1]? = some (ps.getD j (0, 0, 0)).2.1 ∧ (flD ps)[3 * j + 2]? = some (ps.getD j (0, 0, 0)).2.2 := by
  induction ps with
  | nil => intro j hj; simp at hj
  | cons p q ih =>
    intro j hj
    cases j with
    | zero => exact ⟨rfl, rfl, rfl⟩
    | succ j =>
      have := ih j (by simpa using hj)
      exact ⟨by simpa [flD, Nat.mul_add] using this.1, by simpa [flD, Nat.mul_add] using this.2.1, by simpa [flD, Nat.mul_add] using this.2.2⟩
/-- a row of directions of one's own between two marks of the memory -/
structure OwnD (w : World) (lo hi : Nat) (a : Option Addr) (c : Nat) (ps : List (Int × Int × Int)) : Prop where
  own : w.ownsRow lo 32 3 (.slice a ps.length c) ps.length ((flD ps).map iv4)
  lt : ∀ g, (Value.slice a ps.length c).ownBlock = some g → g < hi
  up : hi ≤ w.heap.size
theorem OwnD.none (W : World) (lo : Nat) (h : lo ≤ W.heap.size) : OwnD W lo W.heap.size .none 0 [] := ⟨World.ownsRow_nil _ _ _ _, fun g e => by simp [Value.ownBlock] at e, Nat.le_refl _⟩
theorem RowG.ownD {w1 W : World} {g c N lo : Nat} {ps : List (Int × Int × Int)} (h : RowG w1 32 3 g c N ((flD ps).map iv4) W) (hl : ps.length = N) (hlo : lo ≤ w1.heap.size) : OwnD W lo W.heap.size (some ⟨g, 0, .none⟩) c ps := by
  subst hl
  exact ⟨World.ownsRow.mono h.own hlo, fun g e => (h.own.lt g e).2, Nat.le_refl _⟩
theorem OwnD.on {w w' : World} {lo hi : Nat} {a : Option Addr} {c : Nat} {ps : List (Int × Int × Int)} (h : OwnD w lo hi a c ps) (hb : Below w.heap.size w w') : OwnD w' lo hi a c ps := ⟨own_bel h.own hb, h.lt, Nat.le_trans h.up hb.size⟩
theorem OwnD.less {w : World} {lo lo' hi : Nat} {a : Option Addr} {c : Nat} {ps : List (Int × Int × Int)} (h : OwnD w lo hi a c ps) (hl : lo' ≤ lo) : OwnD w lo' hi a c ps := ⟨World.ownsRow.mono h.own hl, h.lt, h.up⟩
theorem OwnD.grow {w : World} {lo hi hi' : Nat} {a : Option Addr} {c : Nat} {ps : List (Int × Int × Int)} (h : OwnD w lo hi a c ps) (h1 : hi ≤ hi') (h2 : hi' ≤ w.heap.size) : OwnD w lo hi' a c ps := ⟨h.own, fun g e => Nat.lt_of_lt_of_le (h.lt g e) h1, h2⟩
theorem OwnD.kept {w w' : World} {lo hi l i : Nat} {a : Option Addr} {c : Nat} {ps : List (Int × Int × Int)} (h : OwnD w lo hi a c ps) (hk : Kept l i w w') (hd : hi ≤ l ∨ i ≤ lo) : OwnD w' lo hi a c ps :=
  ⟨own_atG h.own (fun g e => hk.block g (h.own.lt g e).2 (by have := (h.own.lt g e).1; have := h.lt g e; omega)), h.lt, Nat.le_trans h.up hk.size⟩
theorem OwnD.drs {w : World} {lo hi : Nat} {a : Option Addr} {c : Nat} {ps : List (Int × Int × Int)} (h : OwnD w lo hi a c ps) : Drs w w.heap.size a ps := fun hp => by
  rcases h.own.2 with ⟨h', h0⟩ | ⟨g, cap, cur, h', hb, hg, hle, _⟩
  · omega
  · simp only [Value.slice.injEq] at h'
    obtain ⟨rfl, -, rfl⟩ := h'
    refine ⟨g, 0, rfl, (h.own.lt g (by simp [Value.ownBlock])).2, fun j hj => ?_⟩
    have hf := flD_at ps j hj
    rw [Nat.zero_add, h.own.cellAt (j * 3) (by omega), h.own.cellAt (j * 3 + 1) (by omega), h.own.cellAt (j * 3 + 2) (by omega), List.getElem?_map, List.getElem?_map, List.getElem?_map, show j * 3 = 3 * j from Nat.mul_comm _ _, hf.1, hf.2.1, hf.2.2]
    exact ⟨rfl, rfl, rfl⟩
/-- counting triples from k on -/
def rampD (k : Int) (n : Nat) : List (Int × Int × Int) := (List.range n).map (fun (i : Nat) => (k + 3 * (i : Int), k + 3 * (i : Int) + 1, k + 3 * (i : Int) + 2))
theorem rampD_len (k : Int) (n : Nat) : (rampD k n).length = n := by simp [rampD]
theorem rampD_at (k : Int) {n i : Nat} (h : i < n) : (rampD k n).getD i (0, 0, 0) = (k + 3 * (i : Int), k + 3 * (i : Int) + 1, k + 3 * (i : Int) + 2) := by
  unfold rampD
  rw [List.getD_eq_getElem?_getD, List.getElem?_map, List.getElem?_range h]
  rfl
theorem flD_ramp (k : Int) : ∀ n : Nat, flD (rampD k n) = ramp k (3 * n)
  | 0 => rfl
  | n + 1 => by
    have e : rampD k (n + 1) = rampD k n ++ [(k + 3 * (n : Int), k + 3 * (n : Int) + 1, k + 3 * (n : Int) + 2)] := by unfold rampD; rw [List.range_succ, List.map_append]; rfl
    have e2 : ramp k (3 * (n + 1)) = ramp k (3 * n) ++ [k + 3 * (n : Int), k + 3 * (n : Int) + 1, k + 3 * (n : Int) + 2] := by
      unfold ramp
      rw [show 3 * (n + 1) = 3 * n + 1 + 1 + 1 from by omega, List.range_succ, List.range_succ, List.range_succ, List.map_append, List.map_append, List.map_append, List.append_assoc, List.append_assoc]
      congr 1
      simp only [List.map_cons, List.map_nil, List.cons_append, List.nil_append, List.cons.injEq, and_true]
      refine ⟨?_, ?_, ?_⟩ <;> omega
    rw [e, e2, ← flD_ramp k n, flD_snoc]
theorem mkV_set3 (k : Int) {zs : List Int} {j : Nat} (h : 3 * j + 2 < zs.length) : (((mkV k zs (3 * j)).set (j * 3) (k + 3 * (j : Int))).set (j * 3 + 1) (k + 3 * (j : Int) + 1)).set (j * 3 + 2) (k + 3 * (j : Int) + 2) = mkV k zs (3 * (j + 1)) := by
  rw [show j * 3 = 3 * j from Nat.mul_comm _ _, show k + 3 * (j : Int) + 2 = k + ((3 * j + 2 : Nat) : Int) from by omega, show k + 3 * (j : Int) + 1 = k + ((3 * j + 1 : Nat) : Int) from by omega, show k + 3 * (j : Int) = k + ((3 * j : Nat) : Int) from by omega, mkV_set k (by omega), mkV_set k (by omega), mkV_set k h]; rfl
theorem own_set3 {w : World} {t : TypeId} {B g c n : Nat} {zs : List Int} (h : w.ownsRow B t 3 (.slice (some ⟨g, 0, none⟩) n c) n (zs.map iv4)) (j : Nat) (x : Int) :
    (w.setCell ⟨g, j, none⟩ (.int .i64 x)).ownsRow B t 3 (.slice (some ⟨g, 0, none⟩) n c) n ((zs.set j x).map iv4) := by
  have := (h.stored j (.int .i64 x)).1
  rwa [show (zs.set j x).map iv4 = (zs.map iv4).set j (.int .i64 x) by rw [List.map_set]; rfl]

set_option maxRecDepth 100000 in
set_option maxHeartbeats 2000000 in
theorem mkD_row (w : World) (B g c : Nat) (k : Int) (ps : List (Int × Int × Int)) (hr : w.ownsRow B 32 3 (.slice (some ⟨g, 0, none⟩) ps.length c) ps.length ((flD ps).map iv4)) (hn : ps.length ≤ 1048576) (k0 : 0 ≤ k) (k1 : k ≤ 4000000) :
    Calls Try.prog 22 #[.slice (some ⟨g, 0, none⟩) ps.length c, .int .i64 k] w fun e w' => e = .returned (.int .i64 (k + 3 * (ps.length : Int))) ∧ w'.ownsRow B 32 3 (.slice (some ⟨g, 0, none⟩) ps.length c) ps.length ((flD (rampD k ps.length)).map iv4) ∧ w.grownBy w' (some g) := by
  have hlen := flD_len ps
  obtain ⟨zs, hzs⟩ : ∃ zs, flD ps = zs := ⟨_, rfl⟩
  rw [hzs] at hr hlen
  have HR := Lib.hid hr
  clear hr hzs
  go_enter Try.func22, Try.ntmps22
  go_wp2
  go_loopw [1, 5] (fun s i wr => ∃ j : Nat, j ≤ ps.length ∧ i = .int .i64 j ∧ s = .int .i64 (k + 3 * (j : Int)) ∧ wr.ownsRow B 32 3 (.slice (some ⟨g, 0, none⟩) ps.length c) ps.length ((mkV k zs (3 * j)).map iv4) ∧ w.grownBy wr (some g)) (fun _ i _ => ps.length - (intOf i).toNat)
  case atStart => exact ⟨0, by omega, rfl, by simp, by rw [Nat.mul_zero, mkV_0]; exact HR.out, grown_id _ _⟩
  case round =>
    obtain ⟨j, hj, rfl, rfl, hrow, hg⟩ := hrel
    by_cases hlt : j < ps.length
    · obtain ⟨u, ho⟩ : ∃ u, wr.cell? ⟨g, j * 3, none⟩ = some u := by
        rw [hrow.cellAt (j * 3) (by omega), List.getElem?_map, List.getElem?_eq_getElem (by rw [mkV_len k (by omega)]; omega)]
        exact ⟨_, rfl⟩
      have hf := hrow.frozenAt (j * 3)
      obtain ⟨u2, ho2⟩ : ∃ u, wr.cell? ⟨g, j * 3 + 1, none⟩ = some u := by
        rw [hrow.cellAt (j * 3 + 1) (by omega), List.getElem?_map, List.getElem?_eq_getElem (by rw [mkV_len k (by omega)]; omega)]
        exact ⟨_, rfl⟩
      have hf2 := hrow.frozenAt (j * 3 + 1)
      obtain ⟨u3, ho3⟩ : ∃ u, wr.cell? ⟨g, j * 3 + 2, none⟩ = some u := by
        rw [hrow.cellAt (j * 3 + 2) (by omega), List.getElem?_map, List.getElem?_eq_getElem (by rw [mkV_len k (by omega)]; omega)]
        exact ⟨_, rfl⟩
      have hf3 := hrow.frozenAt (j * 3 + 2)
      have h1 : (((wr.setCell ⟨g, j * 3, none⟩ (.int .i64 (k + 3 * (j : Int)))).setCell ⟨g, j * 3 + 1, none⟩ (.int .i64 (k + 3 * (j : Int) + 1))).setCell ⟨g, j * 3 + 2, none⟩ (.int .i64 (k + 3 * (j : Int) + 2))).ownsRow B 32 3 (.slice (some ⟨g, 0, none⟩) ps.length c) ps.length ((mkV k zs (3 * (j + 1))).map iv4) := by
        rw [← mkV_set3 k (by omega)]
        exact own_set3 (own_set3 (own_set3 hrow _ _) _ _) _ _
      have HW := Lib.hid h1
      have HG := Lib.hid hg
      have ea : k + 3 * (j : Int) + 1 + 1 = k + 3 * (j : Int) + 2 := by omega
      clear hrow hg h1
      go_wp2
      go_roundw
      case rel => exact ⟨j + 1, by omega, by go_num, by go_num, by first | exact HW.out | (rw [ea]; exact HW.out), grown_cell (grown_cell (grown_cell HG.out _ _) _ _) _ _⟩
      case measure => simp [intOf]; omega
    · obtain rfl : j = ps.length := by omega
      have HW := Lib.hid hrow
      have HG := Lib.hid hg
      clear hrow hg
      go_wp2
      go_ret
      exact ⟨rfl, by rw [flD_ramp, ← hlen, ← mkV_end k zs, hlen]; exact HW.out, HG.out⟩
theorem mkD_nil (w : World) (c : Nat) (k : Int) :
    Calls Try.prog 22 #[.slice none 0 c, .int .i64 k] w fun e w' => e = .returned (.int .i64 k) ∧ w' = w := by
  go_enter Try.func22, Try.ntmps22
  go_wp2
  go_loopw [1, 5] (fun s i wr => i = .int .i64 0 ∧ s = .int .i64 k ∧ wr = w) (fun _ _ _ => 0)
  case atStart => exact ⟨rfl, rfl, rfl⟩
  case round =>
    obtain ⟨rfl, rfl, rfl⟩ := hrel
    go_wp2
    go_ret
    exact ⟨rfl, rfl⟩
theorem mkD_any (w : World) (lo hi : Nat) (a : Option Addr) (c : Nat) (ps : List (Int × Int × Int)) (k : Int) (h : OwnD w lo hi a c ps) (hn : ps.length ≤ 1048576) (k0 : 0 ≤ k) (k1 : k ≤ 4000000) :
    Calls Try.prog 22 #[.slice a ps.length c, .int .i64 k] w fun e w' => e = .returned (.int .i64 (k + 3 * (ps.length : Int))) ∧ OwnD w' lo hi a c (rampD k ps.length) ∧ Kept lo hi w w' := by
  rcases h.own.2 with ⟨hv, h0⟩ | ⟨g, cap, cur, hv, hb, hg, rest⟩
  · simp only [Value.slice.injEq] at hv
    obtain ⟨rfl, h1, rfl⟩ := hv
    obtain rfl : ps = [] := List.length_eq_zero_iff.1 h1
    refine (mkD_nil w 0 k).mono ?_
    rintro e w' ⟨rfl, rfl⟩
    exact ⟨by simp, ⟨by simpa [rampD, flD] using World.ownsRow_nil w' lo 32 3, fun g e => by simp [Value.ownBlock] at e, h.up⟩, Kept.of_below (Below.refl _ _)⟩
  · simp only [Value.slice.injEq] at hv
    obtain ⟨rfl, -, rfl⟩ := hv
    refine (mkD_row w lo g c k ps h.own hn k0 k1).mono ?_
    rintro e w' ⟨rfl, hr', hgr⟩
    exact ⟨rfl, ⟨by rw [rampD_len]; exact hr', fun x e => h.lt x (by simpa [Value.ownBlock] using e), Nat.le_trans h.up hgr.size⟩, Kept.of_grown hgr (fun x e => ⟨(h.own.lt x (by simpa [Value.ownBlock] using e)).1, h.lt x (by simpa [Value.ownBlock] using e)⟩)⟩

theorem hdD_any (w : World) (B : Nat) (a : Option Addr) (c n : Nat) (k : Int) (hz : Drs w B a (rampD k n)) (hn : n ≤ 1048576) (k0 : 0 ≤ k) (k1 : k ≤ 4000000) :
    Calls Try.prog 23 #[.slice a n c, .int .i64 k] w fun e w' => e = .returned (.int .i64 (k + 3 * (n : Int))) ∧ w = w' := by
  go_enter Try.func23, Try.ntmps23
  go_wp2
  go_loop [1, 5] (fun s i => ∃ j : Nat, j ≤ n ∧ i = .int .i64 j ∧ s = .int .i64 (k + 3 * (j : Int))) (fun _ i => n - (intOf i).toNat)
  case atStart => exact ⟨0, by omega, rfl, by simp⟩
  case round =>
    obtain ⟨j, hj, rfl, rfl⟩ := hrel
    by_cases hlt : j < n
    · obtain ⟨b, off, x, y, z, rfl, hB, hxy, hc1, hc2, hc3⟩ := hz.at_ (j := j) (by rw [rampD_len]; exact hlt)
      rw [rampD_at k hlt] at hxy
      simp only [Prod.mk.injEq] at hxy
      obtain ⟨rfl, rfl, rfl⟩ := hxy
      have ea : k + 3 * (j : Int) + 1 + 1 = k + 3 * (j : Int) + 2 := by omega
      clear hz
      go_wp2
      go_round
      case rel => exact ⟨j + 1, by omega, by go_num, by go_num⟩
      case measure => simp [intOf]; omega
    · obtain rfl : j = n := by omega
      go_wp2
      go_ret
      exact ⟨rfl, rfl⟩
theorem eqd1_any (a b g : Int) (w : World) :
    Calls Try.prog 76 #[.agg #[.int .i64 a, .int .i64 b, .int .i64 g], .agg #[.int .i64 a, .int .i64 b, .int .i64 g]] w fun e w' => e = .returned (.bool true) ∧ Below w.heap.size w w' := by
  go_enter Try.func76, Try.ntmps76
  go_wp2
  go_ret
  exact ⟨rfl, (by repeat (first | exact Below.refl _ _ | (refine Below.alloc ?_ (by simp <;> omega) _) | (refine Below.setCell ?_ (by simp <;> omega) _) | (refine Below.drew ?_) | (refine bel_drewN ?_ _)))⟩
set_option maxRecDepth 100000 in
set_option maxHeartbeats 1000000 in
theorem eqDs_any (w : World) (B : Nat) (a b : Option Addr) (c d : Nat) (ps : List (Int × Int × Int)) (hl : ps.length ≤ 1048576) (hB : B ≤ w.heap.size) (hx : Drs w B a ps) (hy : Drs w B b ps) :
    Calls Try.prog 21 #[.slice a ps.length c, .slice b ps.length d] w fun e w' => e = .returned (.bool true) ∧ Below w.heap.size w w' := by
  go_enter Try.func21, Try.ntmps21
  go_wp2
  go_loopw [5] (fun i wr => ∃ k : Nat, k ≤ ps.length ∧ i = .int .i64 k ∧ Below w.heap.size w wr) (fun i _ => ps.length - (intOf i).toNat)
  case atStart => exact ⟨0, by omega, rfl, Below.refl _ _⟩
  case round =>
    obtain ⟨k, hk, rfl, hb⟩ := hrel
    by_cases hlt : k < ps.length
    · obtain ⟨b1, o1, x, y, z, rfl, hB1, hxy, hc1, hc2, hc3⟩ := (hx.below (hb.mono hB)).at_ hlt
      obtain ⟨b2, o2, x', y', z', rfl, hB2, hxy2, hd1, hd2, hd3⟩ := (hy.below (hb.mono hB)).at_ hlt
      rw [hxy] at hxy2
      simp only [Prod.mk.injEq] at hxy2
      obtain ⟨e1, e2, e3⟩ := hxy2
      subst e1 e2 e3
      have HB := Lib.hid hb
      have HX := Lib.hid hx
      have HY := Lib.hid hy
      clear hb hxy hx hy
      go_wp2_with fail
      go_still_tail 8, (by kernel_rfl)
      go_wp2_with fail
      refine (eqd1_any _ _ _ _).mono ?_
      rintro e w2 ⟨rfl, hb⟩
      have HB2 := Lib.hid (HB.out.drew.trans (hb.mono HB.out.size))
      clear hb
      go_wp2
      go_roundw
      case rel => exact ⟨k + 1, by omega, by go_num, HB2.out⟩
      case measure => simp [intOf]; omega
    · go_wp2
      go_ret
      exact ⟨rfl, hb⟩
theorem lkD_any (w : World) (B : Nat) (a b : Option Addr) (c d : Nat) (ps : List (Int × Int × Int)) (hl : ps.length ≤ 1048576) (hx : Drs w B a ps) (hy : Drs w B b ps) :
    Calls Try.prog 30 #[.slice a ps.length c, .slice b ps.length d] w fun e w' => e = .returned (.bool true) ∧ ∃ n, w' = w.drewN n := by
  go_enter Try.func30, Try.ntmps30
  go_wp2
  go_loopw [5] (fun i wr => ∃ k : Nat, k ≤ ps.length ∧ i = .int .i64 k ∧ ∃ n, wr = w.drewN n) (fun i _ => ps.length - (intOf i).toNat)
  case atStart => exact ⟨0, by omega, rfl, 0, rfl⟩
  case round =>
    obtain ⟨k, hk, rfl, n, rfl⟩ := hrel
    by_cases hlt : k < ps.length
    · obtain ⟨b1, o1, x, y, z, rfl, hB1, hxy, hc1, hc2, hc3⟩ := hx.at_ hlt
      obtain ⟨b2, o2, x', y', z', rfl, hB2, hxy', hd1, hd2, hd3⟩ := hy.at_ hlt
      rw [hxy] at hxy'
      simp only [Prod.mk.injEq] at hxy'
      obtain ⟨e1, e2, e3⟩ := hxy'
      subst e1 e2 e3
      go_wp2_with fail
      first
      | (go_quiet (fail)
         go_wp2
         go_roundw
         (case rel => exact ⟨k + 1, by omega, by go_num, _, rfl⟩)
         (case measure => simp [intOf]; omega))
      | (go_wp2
         go_roundw
         (case rel => exact ⟨k + 1, by omega, by go_num, _, rfl⟩)
         (case measure => simp [intOf]; omega))
    · obtain rfl : k = ps.length := by omega
      go_wp2
      go_ret
      exact ⟨rfl, _, rfl⟩
end Go.Proofs.Ytaaklnabomhleaa
