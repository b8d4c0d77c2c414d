/- Slices of intervals as lists of pairs: contracts of the checks over them, of their sum and of their hull. -/
import Derived.Test.YtgecbfbmmbfnmaaBas
import Derived.LoopTactic
import Derived.StillTailTactics
import Derived.Outline
import Derived.Laws.Rows
namespace Go.Proofs.Ytgecbfbmmbfnmaa
open Go.ChangeShapes Go.WideShapes Go.ChangeAt Go.RowKit Num
set_option linter.unusedVariables false
/-- the slice at 'a' reads as the pairs 'ps'; its memory lies below block B -/
def Ivs (w : World) (B : Nat) (a : Option Addr) (ps : List (Int × Int)) : Prop :=
  0 < ps.length → ∃ b off, a = some ⟨b, off, none⟩ ∧ b < B ∧ ∀ j, j < ps.length → w.cell? ⟨b, off + j * 2, none⟩ = some (.int .i64 (ps.getD j (0, 0)).1) ∧ w.cell? ⟨b, off + j * 2 + 1, none⟩ = some (.int .i64 (ps.getD j (0, 0)).2)
theorem Ivs.below {w w' : World} {B : Nat} {a : Option Addr} {ps : List (Int × Int)} (h : Ivs w B a ps) (hb : Below B w w') : Ivs w' B a ps := fun hp => by
  obtain ⟨b, off, e, hB, hc⟩ := h hp
  exact ⟨b, off, e, hB, fun j hj => ⟨(hb.cell (p := ⟨b, off + j * 2, none⟩) hB).trans (hc j hj).1, (hb.cell (p := ⟨b, off + j * 2 + 1, none⟩) hB).trans (hc j hj).2⟩⟩
theorem Ivs.more {w : World} {B B' : Nat} {a : Option Addr} {ps : List (Int × Int)} (h : Ivs w B a ps) (hb : B ≤ B') : Ivs w B' a ps := fun hp => by
  obtain ⟨b, off, e, hB, hc⟩ := h hp
  exact ⟨b, off, e, by omega, hc⟩
theorem Ivs.at_ {w : World} {B : Nat} {a : Option Addr} {ps : List (Int × Int)} (h : Ivs w B a ps) {j : Nat} (hj : j < ps.length) :
    ∃ b off x y, a = some ⟨b, off, none⟩ ∧ b < B ∧ ps.getD j (0, 0) = (x, y) ∧ w.cell? ⟨b, off + j * 2, none⟩ = some (.int .i64 x) ∧ w.cell? ⟨b, off + j * 2 + 1, none⟩ = some (.int .i64 y) := by
  obtain ⟨b, off, e, hB, hc⟩ := h (by omega)
  exact ⟨b, off, _, _, e, hB, rfl, (hc j hj).1, (hc j hj).2⟩

/-- all intervals of the list are valid -/
def allV (ps : List (Int × Int)) : Bool := decide (∀ j, j < ps.length → vldB (ps.getD j (0, 0)).1 (ps.getD j (0, 0)).2 = true)
theorem allV_t {ps : List (Int × Int)} (h : ∀ j, j < ps.length → vldB (ps.getD j (0, 0)).1 (ps.getD j (0, 0)).2 = true) : allV ps = true := by unfold allV; exact decide_eq_true h
theorem allV_f {ps : List (Int × Int)} {k : Nat} (hk : k < ps.length) (h : vldB (ps.getD k (0, 0)).1 (ps.getD k (0, 0)).2 = false) : allV ps = false := by
  unfold allV; exact decide_eq_false (fun g => by rw [g k hk] at h; cases h)
theorem allV_at {ps : List (Int × Int)} (h : allV ps = true) {j : Nat} (hj : j < ps.length) : vldB (ps.getD j (0, 0)).1 (ps.getD j (0, 0)).2 = true := by
  unfold allV at h; exact of_decide_eq_true h j hj

/-- the code of a list of intervals -/
def ierr (ps : List (Int × Int)) : Int := if 200 < ps.length then 3 else if allV ps then 0 else 1
theorem ierr_long {ps : List (Int × Int)} (h : 200 < ps.length) : ierr ps = 3 := by unfold ierr; rw [if_pos h]
theorem ierr_ok {ps : List (Int × Int)} (h : ¬ 200 < ps.length) (g : allV ps = true) : ierr ps = 0 := by unfold ierr; rw [if_neg h, if_pos g]
theorem ierr_bad {ps : List (Int × Int)} (h : ¬ 200 < ps.length) (g : allV ps = false) : ierr ps = 1 := by unfold ierr; rw [if_neg h, g]; rfl

theorem blk_set2 {w : World} {g : Nat} {l h a b : Value} {t : TypeId} (hb : w.heap[g]? = some (.cells #[l, h] t (0, 0))) :
    ((w.setCell ⟨g, 0, none⟩ a).setCell ⟨g, 1, none⟩ b).heap[g]? = some (.cells #[a, b] t (0, 0)) := by
  have h1 : (w.setCell ⟨g, 0, none⟩ a).heap[g]? = some (.cells #[a, h] t (0, 0)) := heap_setCell_same w g 0 _ _ _ hb
  exact heap_setCell_same (w.setCell ⟨g, 0, none⟩ a) g 1 _ _ _ h1

def sumL (ps : List (Int × Int)) : Nat → Int | 0 => 0 | k + 1 => sumL ps k + (ps.getD k (0, 0)).1
def sumH (ps : List (Int × Int)) : Nat → Int | 0 => 0 | k + 1 => sumH ps k + (ps.getD k (0, 0)).2
theorem sums_bd {ps : List (Int × Int)} (hv : allV ps = true) : ∀ k : Nat, k ≤ ps.length → -(1000000000000 * k) ≤ sumL ps k ∧ sumL ps k ≤ 1000000000000 * k ∧ -(1000000000000 * k) ≤ sumH ps k ∧ sumH ps k ≤ 1000000000000 * k := by
  intro k
  induction k with
  | zero => intro _; simp [sumL, sumH]
  | succ k ih =>
    intro hk
    have h1 := ih (by omega)
    have h2 := vldB_t (allV_at hv (j := k) (by omega))
    simp only [sumL, sumH]
    omega
/-- the sum -/
def sumT (ps : List (Int × Int)) : Int × Int × Int := if ierr ps = 0 then within (sumL ps ps.length) (sumH ps ps.length) else (0, 0, ierr ps)
theorem sumT_ok {ps : List (Int × Int)} (h : ierr ps = 0) : sumT ps = within (sumL ps ps.length) (sumH ps ps.length) := by unfold sumT; rw [if_pos h]
theorem sumT_bad {ps : List (Int × Int)} (h : ¬ ierr ps = 0) : sumT ps = (0, 0, ierr ps) := by unfold sumT; rw [if_neg h]
theorem ierr_0 {ps : List (Int × Int)} (h : ierr ps = 0) : ps.length ≤ 200 ∧ allV ps = true := by
  unfold ierr at h
  split at h
  · cases h
  · split at h
    · exact ⟨by omega, by assumption⟩
    · cases h

theorem bel_alloc2 {W w1 : World} (h : Below W.heap.size W w1) (o : Obj) : Below W.heap.size W (w1.alloc o) := h.alloc h.size o
theorem kpI {W w2 : World} {B m o : Nat} {v0 : Value} (c0 : W.cell? ⟨m, o, none⟩ = some v0) (h : Below B W w2) (hm : m < B) : w2.cell? ⟨m, o, none⟩ = some v0 := (h.cell (p := ⟨m, o, none⟩) hm).trans c0
theorem fz1 {W w2 : World} {B m o : Nat} (c0 : W.frozen? ⟨m, o, none⟩ = false) (h : Below B W w2) (hm : m < B) : w2.frozen? ⟨m, o, none⟩ = false := (h.frozen (p := ⟨m, o, none⟩) hm).trans c0
/-- the result's block, two zeros that may be written -/
def Rz (w : World) (g : Nat) : Prop := (w.cell? ⟨g, 0, none⟩ = some (.int .i64 0) ∧ w.cell? ⟨g, 1, none⟩ = some (.int .i64 0)) ∧ w.frozen? ⟨g, 0, none⟩ = false ∧ w.frozen? ⟨g, 1, none⟩ = false
theorem Rz.keep {w w2 : World} {g B : Nat} (h : Rz w g) (hb : Below B w w2) (hg : g < B) : Rz w2 g := ⟨⟨kpI h.1.1 hb hg, kpI h.1.2 hb hg⟩, fz1 h.2.1 hb hg, fz1 h.2.2 hb hg⟩
theorem Rz.new (w : World) (t : TypeId) : Rz (w.alloc (.cells #[.int .i64 0, .int .i64 0] t)) w.heap.size := ⟨⟨by simp [go_sem], by simp [go_sem]⟩, by simp [go_sem], by simp [go_sem]⟩

theorem pla_any (a b c d : Int) (h1 : -1000000000000000 ≤ a) (h2 : a ≤ 1000000000000000) (h3 : -1000000000000000 ≤ b) (h4 : b ≤ 1000000000000000) (h5 : -1000000000000000 ≤ c) (h6 : c ≤ 1000000000000000) (h7 : -1000000000000000 ≤ d) (h8 : d ≤ 1000000000000000) (w : World) :
    Calls Try.prog 44 #[.agg #[.int .i64 a, .int .i64 b], .agg #[.int .i64 c, .int .i64 d]] w fun e w' => e = .returned (.agg #[.int .i64 (a + c), .int .i64 (b + d)]) ∧ Below w.heap.size w w' := by
  go_enter Try.func44, Try.ntmps44
  go_wp2
  exact bodyPost_ret (v := .agg #[.int .i64 (a + c), .int .i64 (b + d)]) (by simp [results, Try.results44, go_sem]) rfl ⟨rfl, (by repeat (first | exact Below.refl _ _ | (refine Below.alloc ?_ (by simp <;> omega) _) | (refine Below.setCell ?_ (by simp <;> omega) _) | (refine Below.drew ?_) | (refine bel_drewN ?_ _)))⟩

end Go.Proofs.Ytgecbfbmmbfnmaa
