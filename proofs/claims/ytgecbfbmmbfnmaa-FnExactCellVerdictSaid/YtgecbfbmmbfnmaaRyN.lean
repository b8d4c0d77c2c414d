/- Rays: the codes and the results of steps. -/
import Derived.Test.YtgecbfbmmbfnmaaRyM
namespace Go.Proofs.Ytgecbfbmmbfnmaa
open Go.ChangeShapes Go.WideShapes Go.ChangeAt Go.RowKit Go.Shelf Num
set_option linter.unusedVariables false
set_option linter.unusedSimpArgs false
/-- the code of a state -/
def eosT (zs ys : List Int) (src c s h K lo hi : Int) : Int :=
  if rcod zs ys src c s h K = 0 then (if crB ys src c h K && vldB lo hi && decide (0 ≤ lo) then 0 else 2) else rcod zs ys src c s h K
theorem rc_parts {zs ys : List Int} {src c s h K : Int} (e : rcod zs ys src c s h K = 0) : ∃ i k : Nat, src = (i : Int) ∧ K = (k : Int) ∧ k < zs.length ∧ RyOk zs ys i c s h := by
  obtain ⟨h1, h2, h3, h4⟩ := rcT_0 e
  have g := hkB_t h3
  have g2 := hkB_t h4
  exact ⟨src.toNat, K.toNat, by omega, by omega, by omega, Okp.of h1, dirB_t h2, by omega⟩
theorem eos_0 {zs ys : List Int} {src c s h K lo hi : Int} {dn : Bool} (e : eosT zs ys src c s h K lo hi = 0) : ∃ i k : Nat, src = (i : Int) ∧ K = (k : Int) ∧ RyOk zs ys i c s h ∧ SOk zs ys i c h ⟨k, dn, lo, hi⟩ ∧ fcod zs ys src c s h = 0 := by
  unfold eosT at e
  by_cases hq : rcod zs ys src c s h K = 0
  · rw [if_pos hq] at e
    obtain ⟨h1, h2, h3, h4⟩ := rcT_0 hq
    obtain ⟨i, k, rfl, rfl, hk, r⟩ := rc_parts hq
    cases g1 : crB ys (i : Int) c h (k : Int) <;> cases g2 : vldB lo hi <;> cases g3 : decide (0 ≤ lo) <;> rw [g1, g2, g3] at e <;> simp at e
    have g4 := g2
    unfold vldB at g4
    rw [Bool.and_eq_true, Bool.and_eq_true] at g4
    refine ⟨i, k, rfl, rfl, r, ⟨hk, g1, of_decide_eq_true g3, ?_, (valB_t ?_).2⟩, ?_⟩
    · simp only [Bool.and_eq_true, decide_eq_true_eq] at g4; exact g4.2
    · exact g4.1.2
    · unfold fcod rcod rcT; rw [h1, h2, h3]; rfl
  · rw [if_neg hq] at e
    exact absurd e hq
/-- the code, as the model finds it -/
theorem eos_model (zs ys : List Int) (src c s h K lo hi : Int) : eosT zs ys src c s h K lo hi = if fcod zs ys src c s h = 0 then (if eosT zs ys src c s h K lo hi = 0 then 0 else 2) else fcod zs ys src c s h := by
  unfold eosT fcod rcod rcT
  cases prfB zs ys <;> cases dirB c s h <;> cases hkB zs src <;> cases hkB zs K <;> simp <;> split <;> simp_all
/-- the step: knot, down, the bounds of the range; the event; the code -/
def sryT (zs ys : List Int) (src c s h K : Int) (dn : Bool) (lo hi : Int) : Int × Bool × Int × Int × Int × Int :=
  if eosT zs ys src c s h K lo hi = 0 then
    (if nxB zs ys src.toNat c h ⟨K.toNat, dn, lo, hi⟩ then
      (((nxt zs ys src.toNat c h ⟨K.toNat, dn, lo, hi⟩).k : Int), (nxt zs ys src.toNat c h ⟨K.toNat, dn, lo, hi⟩).dn, (nxt zs ys src.toNat c h ⟨K.toNat, dn, lo, hi⟩).lo, (nxt zs ys src.toNat c h ⟨K.toNat, dn, lo, hi⟩).hi, evV zs ys src.toNat c h K.toNat dn, 0)
     else (0, false, 0, 0, 0, 3))
  else (0, false, 0, 0, 0, eosT zs ys src c s h K lo hi)
/-- the first state and its code -/
def fsT (zs ys : List Int) (src c s h : Int) : Int × Bool × Int × Int × Int :=
  if fcod zs ys src c s h = 0 then (src, decide (0 < s), 0, 0, 0) else (0, false, 0, 0, fcod zs ys src c s h)
/-- results of a call -/
theorem resR {t : Int × Bool × Int × Int × Int × Int} {k : Int} {d : Bool} {l u e q : Int} (h : t = (k, d, l, u, e, q)) :
    Ending.returned (.tuple #[.agg #[.int .i64 k, .bool d, .int .i64 l, .int .i64 u], .int .i64 e, .int .i64 q]) = .returned (.tuple #[.agg #[.int .i64 t.1, .bool t.2.1, .int .i64 t.2.2.1, .int .i64 t.2.2.2.1], .int .i64 t.2.2.2.2.1, .int .i64 t.2.2.2.2.2]) := by subst h; rfl
theorem resF {t : Int × Bool × Int × Int × Int} {k : Int} {d : Bool} {l u q : Int} (h : t = (k, d, l, u, q)) :
    Ending.returned (.tuple #[.agg #[.int .i64 k, .bool d, .int .i64 l, .int .i64 u], .int .i64 q]) = .returned (.tuple #[.agg #[.int .i64 t.1, .bool t.2.1, .int .i64 t.2.2.1, .int .i64 t.2.2.2.1], .int .i64 t.2.2.2.2]) := by subst h; rfl
theorem resP {t : Int × Int × Int × Int} {l u e q : Int} (h : t = (l, u, e, q)) :
    Ending.returned (.tuple #[.agg #[.int .i64 l, .int .i64 u], .int .i64 e, .int .i64 q]) = .returned (.tuple #[.agg #[.int .i64 t.1, .int .i64 t.2.1], .int .i64 t.2.2.1, .int .i64 t.2.2.2]) := by subst h; rfl
/-- the range in a layer that is not shut, the verdict, the code -/
def pasT (zs ys : List Int) (i : Nat) (c h : Int) (l : Nat) (ab : Bool) : Int × Int × Int × Int :=
  if crB ys (i : Int) c h (afr l ab : Nat) then
    (if (lim (crLo zs ys i c h l) (crHi zs ys i c h l)).2.2 = 0 then ((lim (crLo zs ys i c h l) (crHi zs ys i c h l)).1, (lim (crLo zs ys i c h l) (crHi zs ys i c h l)).2.1, 1, 0) else (0, 0, 0, (lim (crLo zs ys i c h l) (crHi zs ys i c h l)).2.2))
  else
    (if (lim (tnLo zs ys i c h l ab) (tnHi zs ys i c h l ab)).2.2 = 0 then ((lim (tnLo zs ys i c h l ab) (tnHi zs ys i c h l ab)).1, (lim (tnLo zs ys i c h l ab) (tnHi zs ys i c h l ab)).2.1, 2, 0) else (0, 0, 0, (lim (tnLo zs ys i c h l ab) (tnHi zs ys i c h l ab)).2.2))
theorem lim_code (a b : Int) : (lim a b).2.2 = 0 ∨ (lim a b).2.2 = 3 := by unfold lim; split <;> simp
theorem lim_ok {a b : Int} (h : (lim a b).2.2 = 0) : lim a b = (a, b, 0) ∧ valB a = true ∧ valB b = true := by
  unfold lim at h ⊢
  cases ha : valB a <;> cases hb : valB b <;> rw [ha, hb] at h <;> simp at h
  exact ⟨rfl, rfl, rfl⟩
/-- the passage of a layer that lies ahead -/
theorem pas_step {zs ys : List Int} {i : Nat} {c s h : Int} {x : RSt} (r : RyOk zs ys i c s h) (o : SOk zs ys i c h x) (hin : inP zs.length x.k x.dn = true) :
    pasT zs ys i c h (lk x.k x.dn) x.dn = (if valB (adLo zs ys i c h x.k x.dn) && valB (adHi zs ys i c h x.k x.dn) then (adLo zs ys i c h x.k x.dn, adHi zs ys i c h x.k x.dn, evV zs ys i c h x.k x.dn, 0) else (0, 0, 0, 3)) := by
  obtain ⟨hl, hn, hf, hfl⟩ := inP_l o.kl hin
  unfold pasT adLo adHi evV
  rw [hin, hf]
  cases hc : crB ys (i : Int) c h (fk x.k x.dn : Nat)
  all_goals
    simp only [if_true, if_false, Bool.false_eq_true]
    unfold lim
    split
    · rfl
    · rfl
/-- what is added is no value: the sum is none -/
theorem nx_of_ad {zs ys : List Int} {i : Nat} {c s h : Int} {x : RSt} (r : RyOk zs ys i c s h) (o : SOk zs ys i c h x) (hv : (valB (adLo zs ys i c h x.k x.dn) && valB (adHi zs ys i c h x.k x.dn)) = false) : nxB zs ys i c h x = false := by
  obtain ⟨a1, a2, a3⟩ := o.ad r
  have l0 := o.l0
  have lh := o.lh
  cases e : nxB zs ys i c h x
  · rfl
  · unfold nxB at e
    rw [Bool.and_eq_true] at e
    have v2 := (valB_t e.2).2
    have e2 : (nxt zs ys i c h x).hi = x.hi + adHi zs ys i c h x.k x.dn := rfl
    rw [e2] at v2
    rw [valB_mk (by omega) (by omega), valB_mk (by omega) (by omega)] at hv
    simp at hv
theorem nx_lim {zs ys : List Int} {i : Nat} {c h : Int} {x : RSt} : lim (x.lo + adLo zs ys i c h x.k x.dn) (x.hi + adHi zs ys i c h x.k x.dn) = if nxB zs ys i c h x then ((nxt zs ys i c h x).lo, (nxt zs ys i c h x).hi, 0) else (0, 0, 3) := rfl
/-- a reflection -/
theorem nx_out {zs ys : List Int} {i : Nat} {c h : Int} {x : RSt} (o : SOk zs ys i c h x) (hin : inP zs.length x.k x.dn = false) : nxB zs ys i c h x = true ∧ nxt zs ys i c h x = ⟨x.k, !x.dn, x.lo, x.hi⟩ ∧ evV zs ys i c h x.k x.dn = if x.dn then 4 else 3 := by
  have e1 : adLo zs ys i c h x.k x.dn = 0 := by unfold adLo; rw [hin]; rfl
  have e2 : adHi zs ys i c h x.k x.dn = 0 := by unfold adHi; rw [hin]; rfl
  have e3 : evV zs ys i c h x.k x.dn = if x.dn then 4 else 3 := by unfold evV; rw [hin]; rfl
  have e4 : nxt zs ys i c h x = ⟨x.k, !x.dn, x.lo, x.hi⟩ := by
    unfold nxt
    rw [e1, e2, e3, Int.add_zero, Int.add_zero]
    cases x.dn <;> rfl
  have l0 := o.l0
  have lh := o.lh
  have h1 := o.h1
  refine ⟨?_, e4, e3⟩
  unfold nxB
  rw [e4]
  show (valB x.lo && valB x.hi) = true
  rw [valB_mk (by omega) (by omega), valB_mk (by omega) (by omega)]
  rfl
/-- a layer ahead: the state behind -/
theorem nx_in {zs ys : List Int} {i : Nat} {c h : Int} {x : RSt} (hin : inP zs.length x.k x.dn = true) : (evV zs ys i c h x.k x.dn = 1 ∧ (nxt zs ys i c h x).k = fk x.k x.dn ∧ (nxt zs ys i c h x).dn = x.dn) ∨ (evV zs ys i c h x.k x.dn = 2 ∧ (nxt zs ys i c h x).k = x.k ∧ (nxt zs ys i c h x).dn = !x.dn) := by
  unfold nxt
  unfold evV
  rw [hin]
  cases crB ys (i : Int) c h (fk x.k x.dn : Nat)
  · right; exact ⟨rfl, rfl, rfl⟩
  · left; exact ⟨rfl, rfl, rfl⟩
end Go.Proofs.Ytgecbfbmmbfnmaa
