/- A ray that is turned around behind an event: the facts behind its law. -/
import Derived.Test.YtaaklnabomhleaaRyN
namespace Go.Proofs.Ytaaklnabomhleaa
open Go.ChangeShapes Go.WideShapes Go.ChangeAt Go.RowKit Go.Shelf Num
set_option linter.unusedVariables false
set_option linter.unusedSimpArgs false
/-- the layer behind, seen from its other knot -/
theorem inP_back {n k : Nat} {dn : Bool} (hk : k < n) (h : inP n k dn = true) : inP n (fk k dn) (!dn) = true ∧ fk (fk k dn) (!dn) = k ∧ lk (fk k dn) (!dn) = lk k dn := by
  cases dn
  · have h' : 0 < k := by simpa [inP] using h
    have e1 : fk k false = k - 1 := rfl
    have e2 : lk k false = k - 1 := rfl
    rw [e1, e2]
    refine ⟨?_, ?_, rfl⟩
    · show decide (k - 1 + 1 < n) = true
      exact decide_eq_true (by omega)
    · show k - 1 + 1 = k
      omega
  · have h' : k + 1 < n := by simpa [inP] using h
    have e1 : fk k true = k + 1 := rfl
    have e2 : lk k true = k := rfl
    rw [e1, e2]
    refine ⟨?_, ?_, ?_⟩
    · show decide (0 < k + 1) = true
      exact decide_eq_true (by omega)
    · show k + 1 - 1 = k
      omega
    · show k + 1 - 1 = k
      omega
/-- a crossing seen from behind -/
theorem cross_back {zs ys : List Int} {i : Nat} {c s h : Int} {x : RSt} (r : RyOk zs ys i c s h) (o : SOk zs ys i c h x) (he : evV zs ys i c h x.k x.dn = 1) :
    crB ys (i : Int) c h (fk x.k x.dn : Nat) = true ∧ fk x.k x.dn < zs.length ∧ evV zs ys i c h (fk x.k x.dn) (!x.dn) = 1 ∧ adLo zs ys i c h (fk x.k x.dn) (!x.dn) = adLo zs ys i c h x.k x.dn ∧ adHi zs ys i c h (fk x.k x.dn) (!x.dn) = adHi zs ys i c h x.k x.dn ∧ fk (fk x.k x.dn) (!x.dn) = x.k := by
  have he0 := he
  unfold evV at he
  cases hin : inP zs.length x.k x.dn
  · rw [hin] at he; cases hd : x.dn <;> simp [hd] at he
  · rw [hin, if_pos rfl] at he
    obtain ⟨hl, hn, hf, hfl⟩ := inP_l o.kl hin
    obtain ⟨b1, b2, b3⟩ := inP_back o.kl hin
    cases hc : crB ys (i : Int) c h (fk x.k x.dn : Nat)
    · rw [hc] at he; simp at he
    · refine ⟨rfl, hfl, ?_, ?_, ?_, b2⟩
      · unfold evV; rw [b1, b2, o.cr]; rfl
      · unfold adLo; rw [b1, b2, b3, o.cr, hin, hc]; rfl
      · unfold adHi; rw [b1, b2, b3, o.cr, hin, hc]; rfl
/-- what the law of steps asks -/
theorem rs_fact {zs ys : List Int} {src c s h K lo hi : Int} {dn : Bool} {K2 l2 h2 ev : Int} {d2 : Bool} (e : sryT zs ys src c s h K dn lo hi = (K2, d2, l2, h2, ev, 0)) :
    ((ev = 3 ∨ ev = 4) → K2 = K ∧ d2 = !dn ∧ l2 = lo ∧ h2 = hi) ∧ (ev = 1 ∨ ev = 2 ∨ ev = 3 ∨ ev = 4) ∧ ((ev = 1 ∨ ev = 2) → sryT zs ys src c s h K2 (!d2) lo hi = (K, !dn, l2, h2, ev, 0)) := by
  have hz : eosT zs ys src c s h K lo hi = 0 := by
    unfold sryT at e
    by_cases q : eosT zs ys src c s h K lo hi = 0
    · exact q
    · rw [if_neg q] at e
      simp only [Prod.mk.injEq] at e
      exact absurd e.2.2.2.2.2 q
  have hz0 := hz
  obtain ⟨i, k, rfl, rfl, r, o, hf0⟩ := eos_0 (dn := dn) hz
  have e0 := e
  unfold sryT at e
  rw [if_pos hz, Int.toNat_natCast, Int.toNat_natCast] at e
  cases hb : nxB zs ys i c h ⟨k, dn, lo, hi⟩
  · rw [hb] at e; simp at e
  · rw [hb, if_pos rfl] at e
    simp only [Prod.mk.injEq] at e
    obtain ⟨f1, f2, f3, f4, f5, -⟩ := e
    have ek : (nxt zs ys i c h ⟨k, dn, lo, hi⟩).k = if evV zs ys i c h k dn = 1 then fk k dn else k := rfl
    have ed : (nxt zs ys i c h ⟨k, dn, lo, hi⟩).dn = if evV zs ys i c h k dn = 1 then dn else !dn := rfl
    have el : (nxt zs ys i c h ⟨k, dn, lo, hi⟩).lo = lo + adLo zs ys i c h k dn := rfl
    have eh : (nxt zs ys i c h ⟨k, dn, lo, hi⟩).hi = hi + adHi zs ys i c h k dn := rfl
    have hev : ev = 1 ∨ ev = 2 ∨ ev = 3 ∨ ev = 4 := by
      rw [← f5]; unfold evV
      split
      · split <;> simp
      · split <;> simp
    refine ⟨fun h34 => ?_, hev, fun h12 => ?_⟩
    · have hn1 : ¬ evV zs ys i c h k dn = 1 := by omega
      rw [if_neg hn1] at ek ed
      have hin : inP zs.length k dn = false := by
        cases q : inP zs.length k dn
        · rfl
        · unfold evV at f5
          rw [q, if_pos rfl] at f5
          split at f5 <;> omega
      have a1 : adLo zs ys i c h k dn = 0 := by unfold adLo; rw [hin]; rfl
      have a2 : adHi zs ys i c h k dn = 0 := by unfold adHi; rw [hin]; rfl
      exact ⟨by omega, by rw [← f2, ed], by omega, by omega⟩
    · by_cases h1 : evV zs ys i c h k dn = 1
      · rw [if_pos h1] at ek ed
        obtain ⟨c1, c2, c3, c4, c5, c6⟩ := cross_back r o h1
        dsimp only at c1 c2 c3 c4 c5 c6
        rw [ek] at f1
        rw [ed] at f2
        rw [el] at f3
        rw [eh] at f4
        subst f1 f2 f3 f4
        have o2 : SOk zs ys i c h ⟨fk k dn, !dn, lo, hi⟩ := ⟨c2, c1, o.l0, o.lh, o.h1⟩
        have hz2 : eosT zs ys (i : Int) c s h ((fk k dn : Nat) : Int) lo hi = 0 := by
          have hfc := hz0
          unfold eosT at hfc ⊢
          by_cases q : rcod zs ys (i : Int) c s h (k : Int) = 0
          · rw [if_pos q] at hfc
            obtain ⟨p1, p2, p3, p4⟩ := rcT_0 q
            have q2 : rcod zs ys (i : Int) c s h ((fk k dn : Nat) : Int) = 0 := by
              have hk : hkB zs ((fk k dn : Nat) : Int) = true := by unfold hkB; simp; omega
              unfold rcod rcT; rw [p1, p2, p3, hk]; rfl
            rw [if_pos q2, c1]
            have o1 := o.cr
            dsimp only at o1
            rw [o1] at hfc
            exact hfc
          · rw [if_neg q] at hfc; exact absurd hfc q
        have hb2 : nxB zs ys i c h ⟨fk k dn, !dn, lo, hi⟩ = true := by
          have hbb := hb
          unfold nxB at hbb ⊢
          show (valB (lo + adLo zs ys i c h (fk k dn) (!dn)) && valB (hi + adHi zs ys i c h (fk k dn) (!dn))) = true
          rw [c4, c5]; exact hbb
        unfold sryT
        rw [if_pos hz2, Int.toNat_natCast, Int.toNat_natCast, if_pos hb2]
        have g1 : (nxt zs ys i c h ⟨fk k dn, !dn, lo, hi⟩).k = k := by
          show (if evV zs ys i c h (fk k dn) (!dn) = 1 then fk (fk k dn) (!dn) else fk k dn) = k
          rw [if_pos c3, c6]
        have g2 : (nxt zs ys i c h ⟨fk k dn, !dn, lo, hi⟩).dn = !dn := by
          show (if evV zs ys i c h (fk k dn) (!dn) = 1 then !dn else !(!dn)) = !dn
          rw [if_pos c3]
        have g3 : (nxt zs ys i c h ⟨fk k dn, !dn, lo, hi⟩).lo = lo + adLo zs ys i c h k dn := by rw [← c4]; rfl
        have g4 : (nxt zs ys i c h ⟨fk k dn, !dn, lo, hi⟩).hi = hi + adHi zs ys i c h k dn := by rw [← c5]; rfl
        rw [g1, g2, g3, g4, c3, ← f5, h1]
      · rw [if_neg h1] at ek ed
        have k2 : K2 = (k : Int) := by omega
        have d2' : (!d2) = dn := by rw [← f2, ed]; cases dn <;> rfl
        rw [k2, d2', e0, k2, ← d2']
        cases d2 <;> rfl
end Go.Proofs.Ytaaklnabomhleaa
