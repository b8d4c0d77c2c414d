/- Rows of intervals of one's own: kept over calls, compared, marked, read again. -/
import Derived.Test.YtaaklnabomhleaaRyX
import Derived.Test.YtaaklnabomhleaaIvc
import Derived.Test.YtaaklnabomhleaaLys
namespace Go.Proofs.Ytaaklnabomhleaa
open Go.ChangeShapes Go.WideShapes Go.ChangeAt Go.RowKit Go.Shelf Num
set_option linter.unusedVariables false
/-- intervals below a mark -/
structure IvsL (w : World) (L : Nat) (a : Option Addr) (ps : List (Int × Int)) : Prop where
  at_ : Ivs w L a ps
  le : L ≤ w.heap.size
theorem IvsL.of {w : World} {a : Option Addr} {ps : List (Int × Int)} (h : Ivs w w.heap.size a ps) : IvsL w w.heap.size a ps := ⟨h, Nat.le_refl _⟩
theorem IvsL.on {w w' : World} {L : Nat} {a : Option Addr} {ps : List (Int × Int)} (h : IvsL w L a ps) (hb : Below w.heap.size w w') : IvsL w' L a ps := ⟨h.at_.below (hb.mono h.le), Nat.le_trans h.le hb.size⟩
theorem IvsL.ivs {w : World} {L : Nat} {a : Option Addr} {ps : List (Int × Int)} (h : IvsL w L a ps) : Ivs w w.heap.size a ps := h.at_.more h.le
theorem IvsL.kept {w w' : World} {L l i : Nat} {a : Option Addr} {ps : List (Int × Int)} (h : IvsL w L a ps) (hk : Kept l i w w') (hd : L ≤ l) (hl : l ≤ w.heap.size) : IvsL w' L a ps := ⟨h.at_.below ((hk.below hl).mono hd), Nat.le_trans h.le hk.size⟩
/-- the numbers of the pairs in their order -/
def flP (ps : List (Int × Int)) : List Int := ps.flatMap fun p => [p.1, p.2]
theorem flP_len (ps : List (Int × Int)) : (flP ps).length = 2 * ps.length := by
  induction ps with
  | nil => rfl
  | cons p q ih => simp only [flP, List.flatMap_cons, List.length_append, List.length_cons, List.length_nil] at ih ⊢; omega
theorem prC_flP (ps : List (Int × Int)) : prC ps = (flP ps).map iv4 := by
  induction ps with
  | nil => rfl
  | cons p q ih => simp only [prC, flP, List.flatMap_cons, List.map_append] at ih ⊢; rw [ih]; rfl
theorem flP_at (ps : List (Int × Int)) : ∀ j : Nat, j < ps.length → (flP ps)[2 * j]? = some (ps.getD j (0, 0)).1 ∧ (flP ps)[2 * j + 1]? = some (ps.getD j (0, 0)).2 := by
  induction ps with
  | nil => intro j hj; simp at hj
  | cons p q ih =>
    intro j hj
    cases j with
    | zero => exact ⟨rfl, rfl⟩
    | succ j =>
      have := ih j (by simpa using hj)
      exact ⟨by simpa [flP, Nat.mul_add] using this.1, by simpa [flP, Nat.mul_add] using this.2⟩
theorem OwnI.less {w : World} {lo lo' hi : Nat} {a : Option Addr} {c : Nat} {ps : List (Int × Int)} (h : OwnI w lo hi a c ps) (hl : lo' ≤ lo) : OwnI w lo' hi a c ps := ⟨World.ownsRow.mono h.own hl, h.lt, h.up⟩
theorem OwnI.grow {w : World} {lo hi hi' : Nat} {a : Option Addr} {c : Nat} {ps : List (Int × Int)} (h : OwnI w lo hi a c ps) (h1 : hi ≤ hi') (h2 : hi' ≤ w.heap.size) : OwnI w lo hi' a c ps := ⟨h.own, fun g e => Nat.lt_of_lt_of_le (h.lt g e) h1, h2⟩
theorem OwnI.kept {w w' : World} {lo hi l i : Nat} {a : Option Addr} {c : Nat} {ps : List (Int × Int)} (h : OwnI w lo hi a c ps) (hk : Kept l i w w') (hd : hi ≤ l ∨ i ≤ lo) : OwnI w' lo hi a c ps :=
  ⟨own_atG h.own (fun g e => hk.block g (h.own.lt g e).2 (by have := (h.own.lt g e).1; have := h.lt g e; omega)), h.lt, Nat.le_trans h.up hk.size⟩
theorem OwnI.ivs {w : World} {lo hi : Nat} {a : Option Addr} {c : Nat} {ps : List (Int × Int)} (h : OwnI w lo hi a c ps) : Ivs w w.heap.size a ps := fun hp => by
  rcases h.own.2 with ⟨h', h0⟩ | ⟨g, cap, cur, h', hb, hg, hle, _⟩
  · omega
  · simp only [Value.slice.injEq] at h'
    obtain ⟨rfl, -, rfl⟩ := h'
    refine ⟨g, 0, rfl, (h.own.lt g (by simp [Value.ownBlock])).2, fun j hj => ?_⟩
    have hf := flP_at ps j hj
    rw [Nat.zero_add, h.own.cellAt (j * 2) (by omega), h.own.cellAt (j * 2 + 1) (by omega), prC_flP, List.getElem?_map, List.getElem?_map, show j * 2 = 2 * j from Nat.mul_comm _ _, hf.1, hf.2]
    exact ⟨rfl, rfl⟩
/-- counting pairs from k on -/
def rampP (k : Int) (n : Nat) : List (Int × Int) := (List.range n).map (fun (i : Nat) => (k + 2 * (i : Int), k + 2 * (i : Int) + 1))
theorem rampP_len (k : Int) (n : Nat) : (rampP k n).length = n := by simp [rampP]
theorem rampP_at (k : Int) {n i : Nat} (h : i < n) : (rampP k n).getD i (0, 0) = (k + 2 * (i : Int), k + 2 * (i : Int) + 1) := by
  unfold rampP
  rw [List.getD_eq_getElem?_getD, List.getElem?_map, List.getElem?_range h]
  rfl
theorem flP_ramp (k : Int) : ∀ n : Nat, flP (rampP k n) = ramp k (2 * n)
  | 0 => rfl
  | n + 1 => by
    have e : rampP k (n + 1) = rampP k n ++ [(k + 2 * (n : Int), k + 2 * (n : Int) + 1)] := by unfold rampP; rw [List.range_succ, List.map_append]; rfl
    have e2 : ramp k (2 * (n + 1)) = ramp k (2 * n) ++ [k + 2 * (n : Int), k + 2 * (n : Int) + 1] := by
      unfold ramp
      rw [show 2 * (n + 1) = 2 * n + 1 + 1 from by omega, List.range_succ, List.range_succ, List.map_append, List.map_append, List.append_assoc]
      congr 1
      simp only [List.map_cons, List.map_nil, List.cons_append, List.nil_append, List.cons.injEq, and_true]
      constructor <;> omega
    rw [e, e2, ← flP_ramp k n]
    simp [flP]
theorem mkV_set2 (k : Int) {zs : List Int} {j : Nat} (h : 2 * j + 1 < zs.length) : ((mkV k zs (2 * j)).set (j * 2) (k + 2 * (j : Int))).set (j * 2 + 1) (k + 2 * (j : Int) + 1) = mkV k zs (2 * (j + 1)) := by
  rw [show j * 2 = 2 * j from Nat.mul_comm _ _, show k + 2 * (j : Int) + 1 = k + ((2 * j + 1 : Nat) : Int) from by omega, show k + 2 * (j : Int) = k + ((2 * j : Nat) : Int) from by omega, mkV_set k (by omega), mkV_set k h]; rfl
theorem own_set2 {w : World} {t : TypeId} {B g c n : Nat} {zs : List Int} (h : w.ownsRow B t 2 (.slice (some ⟨g, 0, none⟩) n c) n (zs.map iv4)) (j : Nat) (x : Int) :
    (w.setCell ⟨g, j, none⟩ (.int .i64 x)).ownsRow B t 2 (.slice (some ⟨g, 0, none⟩) n c) n ((zs.set j x).map iv4) := by
  have := (h.stored j (.int .i64 x)).1
  rwa [show (zs.set j x).map iv4 = (zs.map iv4).set j (.int .i64 x) by rw [List.map_set]; rfl]

set_option maxRecDepth 100000 in
set_option maxHeartbeats 2000000 in
theorem mkI_row (w : World) (B g c : Nat) (k : Int) (ps : List (Int × Int)) (hr : w.ownsRow B 48 2 (.slice (some ⟨g, 0, none⟩) ps.length c) ps.length ((flP ps).map iv4)) (hn : ps.length ≤ 1048576) (k0 : 0 ≤ k) (k1 : k ≤ 4000000) :
    Calls Try.prog 65 #[.slice (some ⟨g, 0, none⟩) ps.length c, .int .i64 k] w fun e w' => e = .returned (.int .i64 (k + 2 * (ps.length : Int))) ∧ w'.ownsRow B 48 2 (.slice (some ⟨g, 0, none⟩) ps.length c) ps.length ((flP (rampP k ps.length)).map iv4) ∧ w.grownBy w' (some g) := by
  have hlen := flP_len ps
  obtain ⟨zs, hzs⟩ : ∃ zs, flP ps = zs := ⟨_, rfl⟩
  rw [hzs] at hr hlen
  have HR := Lib.hid hr
  clear hr hzs
  go_enter Try.func65, Try.ntmps65
  go_wp2
  go_loopw [1, 5] (fun s i wr => ∃ j : Nat, j ≤ ps.length ∧ i = .int .i64 j ∧ s = .int .i64 (k + 2 * (j : Int)) ∧ wr.ownsRow B 48 2 (.slice (some ⟨g, 0, none⟩) ps.length c) ps.length ((mkV k zs (2 * j)).map iv4) ∧ w.grownBy wr (some g)) (fun _ i _ => ps.length - (intOf i).toNat)
  case atStart => exact ⟨0, by omega, rfl, by simp, by rw [Nat.mul_zero, mkV_0]; exact HR.out, grown_id _ _⟩
  case round =>
    obtain ⟨j, hj, rfl, rfl, hrow, hg⟩ := hrel
    by_cases hlt : j < ps.length
    · obtain ⟨u, ho⟩ : ∃ u, wr.cell? ⟨g, j * 2, none⟩ = some u := by
        rw [hrow.cellAt (j * 2) (by omega), List.getElem?_map, List.getElem?_eq_getElem (by rw [mkV_len k (by omega)]; omega)]
        exact ⟨_, rfl⟩
      have hf := hrow.frozenAt (j * 2)
      obtain ⟨u2, ho2⟩ : ∃ u, wr.cell? ⟨g, j * 2 + 1, none⟩ = some u := by
        rw [hrow.cellAt (j * 2 + 1) (by omega), List.getElem?_map, List.getElem?_eq_getElem (by rw [mkV_len k (by omega)]; omega)]
        exact ⟨_, rfl⟩
      have hf2 := hrow.frozenAt (j * 2 + 1)
      have h1 : ((wr.setCell ⟨g, j * 2, none⟩ (.int .i64 (k + 2 * (j : Int)))).setCell ⟨g, j * 2 + 1, none⟩ (.int .i64 (k + 2 * (j : Int) + 1))).ownsRow B 48 2 (.slice (some ⟨g, 0, none⟩) ps.length c) ps.length ((mkV k zs (2 * (j + 1))).map iv4) := by
        rw [← mkV_set2 k (by omega)]
        exact own_set2 (own_set2 hrow _ _) _ _
      have HW := Lib.hid h1
      have HG := Lib.hid hg
      clear hrow hg h1
      go_wp2
      go_roundw
      case rel => exact ⟨j + 1, by omega, by go_num, by go_num, HW.out, grown_cell (grown_cell HG.out _ _) _ _⟩
      case measure => simp [intOf]; omega
    · obtain rfl : j = ps.length := by omega
      have HW := Lib.hid hrow
      have HG := Lib.hid hg
      clear hrow hg
      go_wp2
      go_ret
      exact ⟨rfl, by rw [flP_ramp, ← hlen, ← mkV_end k zs, hlen]; exact HW.out, HG.out⟩
theorem mkI_nil (w : World) (c : Nat) (k : Int) :
    Calls Try.prog 65 #[.slice none 0 c, .int .i64 k] w fun e w' => e = .returned (.int .i64 k) ∧ w' = w := by
  go_enter Try.func65, Try.ntmps65
  go_wp2
  go_loopw [1, 5] (fun s i wr => i = .int .i64 0 ∧ s = .int .i64 k ∧ wr = w) (fun _ _ _ => 0)
  case atStart => exact ⟨rfl, rfl, rfl⟩
  case round =>
    obtain ⟨rfl, rfl, rfl⟩ := hrel
    go_wp2
    go_ret
    exact ⟨rfl, rfl⟩
theorem mkI_any (w : World) (lo hi : Nat) (a : Option Addr) (c : Nat) (ps : List (Int × Int)) (k : Int) (h : OwnI w lo hi a c ps) (hn : ps.length ≤ 1048576) (k0 : 0 ≤ k) (k1 : k ≤ 4000000) :
    Calls Try.prog 65 #[.slice a ps.length c, .int .i64 k] w fun e w' => e = .returned (.int .i64 (k + 2 * (ps.length : Int))) ∧ OwnI w' lo hi a c (rampP k ps.length) ∧ Kept lo hi w w' := by
  rcases h.own.2 with ⟨hv, h0⟩ | ⟨g, cap, cur, hv, hb, hg, rest⟩
  · simp only [Value.slice.injEq] at hv
    obtain ⟨rfl, h1, rfl⟩ := hv
    obtain rfl : ps = [] := List.length_eq_zero_iff.1 h1
    refine (mkI_nil w 0 k).mono ?_
    rintro e w' ⟨rfl, rfl⟩
    exact ⟨by simp, ⟨by simpa [rampP, prC] using World.ownsRow_nil w' lo 48 2, fun g e => by simp [Value.ownBlock] at e, h.up⟩, Kept.of_below (Below.refl _ _)⟩
  · simp only [Value.slice.injEq] at hv
    obtain ⟨rfl, -, rfl⟩ := hv
    refine (mkI_row w lo g c k ps (by rw [← prC_flP]; exact h.own) hn k0 k1).mono ?_
    rintro e w' ⟨rfl, hr', hgr⟩
    exact ⟨rfl, ⟨by rw [rampP_len, prC_flP]; exact hr', fun x e => h.lt x (by simpa [Value.ownBlock] using e), Nat.le_trans h.up hgr.size⟩, Kept.of_grown hgr (fun x e => ⟨(h.own.lt x (by simpa [Value.ownBlock] using e)).1, h.lt x (by simpa [Value.ownBlock] using e)⟩)⟩

theorem hdI_any (w : World) (B : Nat) (a : Option Addr) (c n : Nat) (k : Int) (hz : Ivs w B a (rampP k n)) (hn : n ≤ 1048576) (k0 : 0 ≤ k) (k1 : k ≤ 4000000) :
    Calls Try.prog 66 #[.slice a n c, .int .i64 k] w fun e w' => e = .returned (.int .i64 (k + 2 * (n : Int))) ∧ w = w' := by
  go_enter Try.func66, Try.ntmps66
  go_wp2
  go_loop [1, 5] (fun s i => ∃ j : Nat, j ≤ n ∧ i = .int .i64 j ∧ s = .int .i64 (k + 2 * (j : Int))) (fun _ i => n - (intOf i).toNat)
  case atStart => exact ⟨0, by omega, rfl, by simp⟩
  case round =>
    obtain ⟨j, hj, rfl, rfl⟩ := hrel
    by_cases hlt : j < n
    · obtain ⟨b, off, x, y, rfl, hB, hxy, hc1, hc2⟩ := hz.at_ (j := j) (by rw [rampP_len]; exact hlt)
      rw [rampP_at k hlt] at hxy
      simp only [Prod.mk.injEq] at hxy
      obtain ⟨rfl, rfl⟩ := hxy
      clear hz
      go_wp2
      go_round
      case rel => exact ⟨j + 1, by omega, by go_num, by go_num⟩
      case measure => simp [intOf]; omega
    · obtain rfl : j = n := by omega
      go_wp2
      go_ret
      exact ⟨rfl, rfl⟩
end Go.Proofs.Ytaaklnabomhleaa
