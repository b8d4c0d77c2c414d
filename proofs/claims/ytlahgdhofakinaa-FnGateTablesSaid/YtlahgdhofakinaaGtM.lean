/- What the functions of motions, contacts and gates compute, and what the laws on them say of these numbers. -/
import Derived.Test.YtlahgdhofakinaaBrM
namespace Go.Proofs.Ytlahgdhofakinaa
open Num
set_option linter.unusedVariables false
set_option linter.unusedSimpArgs false
/-- a valid contact; a valid motion -/
def ctB (x y : Int) : Bool := inB x (-100000) 100000 && inB y (-100000) 100000
def mtB (x y u v s : Int) : Bool := ctB x y && inB u (-1000) 1000 && inB v (-1000) 1000 && inB s 0 10000
theorem ctB_t {x y : Int} (h : ctB x y = true) : -100000 ≤ x ∧ x ≤ 100000 ∧ -100000 ≤ y ∧ y ≤ 100000 := by
  unfold ctB at h
  rw [Bool.and_eq_true] at h
  have a := inB_t h.1
  have b := inB_t h.2
  omega
theorem ctB_mk {x y : Int} (h : -100000 ≤ x) (g : x ≤ 100000) (h2 : -100000 ≤ y) (g2 : y ≤ 100000) : ctB x y = true := by
  unfold ctB; rw [inB_mk h g, inB_mk h2 g2]; rfl
theorem mtB_t {x y u v s : Int} (h : mtB x y u v s = true) : ctB x y = true ∧ (-1000 ≤ u ∧ u ≤ 1000) ∧ (-1000 ≤ v ∧ v ≤ 1000) ∧ 0 ≤ s ∧ s ≤ 10000 := by
  unfold mtB at h
  rw [Bool.and_eq_true, Bool.and_eq_true, Bool.and_eq_true] at h
  exact ⟨h.1.1.1, inB_t h.1.1.2, inB_t h.1.2, inB_t h.2⟩
theorem mtB_mk {x y u v s : Int} (h : ctB x y = true) (u0 : -1000 ≤ u) (u1 : u ≤ 1000) (v0 : -1000 ≤ v) (v1 : v ≤ 1000) (s0 : 0 ≤ s) (s1 : s ≤ 10000) : mtB x y u v s = true := by
  unfold mtB; rw [h, inB_mk u0 u1, inB_mk v0 v1, inB_mk s0 s1]; rfl
/-- all contacts of a list are valid; the code of a list -/
def allC (ps : List (Int × Int)) : Bool := decide (∀ j, j < ps.length → ctB (ps.getD j (0, 0)).1 (ps.getD j (0, 0)).2 = true)
theorem allC_t {ps : List (Int × Int)} (h : ∀ j, j < ps.length → ctB (ps.getD j (0, 0)).1 (ps.getD j (0, 0)).2 = true) : allC ps = true := by unfold allC; exact decide_eq_true h
theorem allC_f {ps : List (Int × Int)} {k : Nat} (hk : k < ps.length) (h : ctB (ps.getD k (0, 0)).1 (ps.getD k (0, 0)).2 = false) : allC ps = false := by
  unfold allC; exact decide_eq_false (fun g => by rw [g k hk] at h; cases h)
theorem allC_at {ps : List (Int × Int)} (h : allC ps = true) {j : Nat} (hj : j < ps.length) : ctB (ps.getD j (0, 0)).1 (ps.getD j (0, 0)).2 = true := by
  unfold allC at h; exact of_decide_eq_true h j hj
def csC (ps : List (Int × Int)) : Int := if allC ps then if 6 < ps.length then 3 else 0 else 1
theorem csC_bad {ps : List (Int × Int)} (h : allC ps = false) : csC ps = 1 := by unfold csC; rw [h]; rfl
theorem csC_long {ps : List (Int × Int)} (h : allC ps = true) (g : 6 < ps.length) : csC ps = 3 := by unfold csC; rw [h, if_pos rfl, if_pos g]
theorem csC_ok {ps : List (Int × Int)} (h : allC ps = true) (g : ¬ 6 < ps.length) : csC ps = 0 := by unfold csC; rw [h, if_pos rfl, if_neg g]
theorem csC_0 {ps : List (Int × Int)} (h : csC ps = 0) : allC ps = true ∧ ps.length ≤ 6 := by
  unfold csC at h
  split at h
  · split at h
    · omega
    · exact ⟨by assumption, by omega⟩
  · omega
/-- moving on -/
def mvS (s n : Int) : Int := if s + n * 50 ≤ 10000 then s + n * 50 else 10000
def mvT (x y u v s n : Int) : (Int × Int × Int × Int × Int) × Int :=
  if mtB x y u v s then if inB n 0 100 then if ctB (x + n * u) (y + n * v) then ((x + n * u, y + n * v, u, v, mvS s n), 0) else ((0, 0, 0, 0, 0), 5) else ((0, 0, 0, 0, 0), 2) else ((0, 0, 0, 0, 0), 1)
theorem mvS_bd {s n : Int} (h0 : 0 ≤ s) (h1 : s ≤ 10000) (n0 : 0 ≤ n) : s ≤ mvS s n ∧ mvS s n ≤ 10000 := by unfold mvS; split <;> omega
theorem mtB_mv {x y u v s n : Int} (h : mtB x y u v s = true) (hn : inB n 0 100 = true) : mtB (x + n * u) (y + n * v) u v (mvS s n) = ctB (x + n * u) (y + n * v) := by
  obtain ⟨-, ⟨u0, u1⟩, ⟨v0, v1⟩, s0, s1⟩ := mtB_t h
  obtain ⟨n0, n1⟩ := inB_t hn
  obtain ⟨a, b⟩ := mvS_bd s0 s1 n0
  cases hc : ctB (x + n * u) (y + n * v)
  · unfold mtB; rw [hc]; rfl
  · exact mtB_mk hc u0 u1 v0 v1 (by omega) b
theorem mvT_0 {x y u v s n : Int} (h : (mvT x y u v s n).2 = 0) : mtB x y u v s = true ∧ inB n 0 100 = true ∧ ctB (x + n * u) (y + n * v) = true ∧ mvT x y u v s n = ((x + n * u, y + n * v, u, v, mvS s n), 0) := by
  cases h1 : mtB x y u v s
  · unfold mvT at h; rw [h1] at h; simp at h
  cases h2 : inB n 0 100
  · unfold mvT at h; rw [h1, h2] at h; simp at h
  cases h3 : ctB (x + n * u) (y + n * v)
  · unfold mvT at h; rw [h1, h2, h3] at h; simp at h
  · exact ⟨rfl, rfl, rfl, by unfold mvT; rw [h1, h2, h3]; rfl⟩
theorem mul_bd {n u : Int} {N U : Nat} (hn : n.natAbs ≤ N) (hu : u.natAbs ≤ U) : (n * u).natAbs ≤ N * U := by rw [Int.natAbs_mul]; exact Nat.mul_le_mul hn hu
theorem between {x u k n : Int} (k0 : 0 ≤ k) (kn : k ≤ n) {B : Int} (h0 : -B ≤ x) (h1 : x ≤ B) (g0 : -B ≤ x + n * u) (g1 : x + n * u ≤ B) : -B ≤ x + k * u ∧ x + k * u ≤ B := by
  rcases Int.le_total 0 u with hu | hu
  · have a := Int.mul_nonneg k0 hu
    have b := Int.mul_le_mul_of_nonneg_right kn hu
    omega
  · have a := Int.mul_nonneg k0 (show 0 ≤ -u by omega)
    have b := Int.mul_le_mul_of_nonneg_right kn (show 0 ≤ -u by omega)
    rw [Int.mul_neg] at a b
    rw [Int.mul_neg] at b
    omega
/-- moving on in two parts is moving on at once -/
theorem mv_two {x y u v s n k : Int} (h : (mvT x y u v s n).2 = 0) (k0 : 0 ≤ k) (kn : k ≤ n) :
    mvT x y u v s k = ((x + k * u, y + k * v, u, v, mvS s k), 0) ∧ mvT (x + k * u) (y + k * v) u v (mvS s k) (n - k) = ((x + n * u, y + n * v, u, v, mvS s n), 0) ∧ s ≤ mvS s n ∧ mtB (x + n * u) (y + n * v) u v (mvS s n) = true := by
  obtain ⟨h1, h2, h3, -⟩ := mvT_0 h
  obtain ⟨c0, ⟨u0, u1⟩, ⟨v0, v1⟩, s0, s1⟩ := mtB_t h1
  obtain ⟨n0, n1⟩ := inB_t h2
  obtain ⟨a1, a2, a3, a4⟩ := ctB_t c0
  obtain ⟨b1, b2, b3, b4⟩ := ctB_t h3
  have p := between k0 kn a1 a2 b1 b2
  have q := between k0 kn a3 a4 b3 b4
  have hk : inB k 0 100 = true := inB_mk k0 (by omega)
  have hc := ctB_mk p.1 p.2 q.1 q.2
  have hnk : inB (n - k) 0 100 = true := inB_mk (by omega) (by omega)
  have hm := mtB_mv h1 hk
  rw [hc] at hm
  have e1 : x + k * u + (n - k) * u = x + n * u := by rw [Int.sub_mul]; omega
  have e2 : y + k * v + (n - k) * v = y + n * v := by rw [Int.sub_mul]; omega
  have e3 : mvS (mvS s k) (n - k) = mvS s n := by unfold mvS; split <;> split <;> (try split) <;> omega
  refine ⟨?_, ?_, (mvS_bd s0 s1 n0).1, ?_⟩
  · unfold mvT; rw [h1, hk, hc]; rfl
  · unfold mvT; rw [hm, hnk, e1, e2, h3, e3]; rfl
  · rw [mtB_mv h1 h2, h3]
/-- costs and gates -/
def gc (x y p q : Int) : Int := (x - p) * (x - p) + (y - q) * (y - q)
def gin (x y s p q : Int) : Bool := decide (gc x y p q ≤ s * s)
def gcT (x y u v s p q : Int) : Int × Int := if mtB x y u v s && ctB p q then (gc x y p q, 0) else (0, 1)
def igB (x y u v s p q : Int) : Bool := mtB x y u v s && ctB p q && gin x y s p q
def igC (x y u v s p q : Int) : Int := if mtB x y u v s && ctB p q then 0 else 1
def gmB (x y u v s p q a b t : Int) : Bool := mtB x y u v s && mtB p q a b t && decide (gc x y p q ≤ (s + t) * (s + t))
def gmC (x y u v s p q a b t : Int) : Int := if mtB x y u v s && mtB p q a b t then 0 else 1
theorem sq_bd {a : Int} {A : Nat} (h : a.natAbs ≤ A) : 0 ≤ a * a ∧ a * a ≤ (A * A : Nat) := by
  have m := mul_bd h h
  have n := sqr_nn a
  omega
theorem gc_swap (x y p q : Int) : dt2 (p - x) (q - y) (p - x) (q - y) = gc x y p q := by
  unfold dt2 gc
  rw [show p - x = -(x - p) by omega, show q - y = -(y - q) by omega, Int.neg_mul_neg, Int.neg_mul_neg]
structure GcOk (x y p q : Int) : Prop where
  dx : -200000 ≤ x - p ∧ x - p ≤ 200000
  dy : -200000 ≤ y - q ∧ y - q ≤ 200000
  sx : 0 ≤ (x - p) * (x - p) ∧ (x - p) * (x - p) ≤ 40000000000
  sy : 0 ≤ (y - q) * (y - q) ∧ (y - q) * (y - q) ≤ 40000000000
theorem gc_ok {x y p q : Int} (h : ctB x y = true) (g : ctB p q = true) : GcOk x y p q := by
  obtain ⟨a1, a2, a3, a4⟩ := ctB_t h
  obtain ⟨b1, b2, b3, b4⟩ := ctB_t g
  have s1 := sq_bd (a := x - p) (A := 200000) (by omega)
  have s2 := sq_bd (a := y - q) (A := 200000) (by omega)
  exact ⟨by omega, by omega, by omega, by omega⟩
/-- the contacts in a gate, the nearest of them, their costs -/
def pX (ps : List (Int × Int)) (k : Nat) : Int := (ps.getD k (0, 0)).1
def pY (ps : List (Int × Int)) (k : Nat) : Int := (ps.getD k (0, 0)).2
def gK (x y : Int) (ps : List (Int × Int)) (k : Nat) : Int := gc x y (pX ps k) (pY ps k)
def iK (x y s : Int) (ps : List (Int × Int)) (k : Nat) : Bool := gin x y s (pX ps k) (pY ps k)
def cinL (x y s : Int) (ps : List (Int × Int)) : Nat → List Int
  | 0 => []
  | k + 1 => if iK x y s ps k then cinL x y s ps k ++ [(k : Int)] else cinL x y s ps k
theorem cinL_len (x y s : Int) (ps : List (Int × Int)) : ∀ k, (cinL x y s ps k).length ≤ k
  | 0 => Nat.le_refl _
  | k + 1 => by
    have ih := cinL_len x y s ps k
    unfold cinL
    split
    · rw [List.length_append]; simpa using ih
    · omega
theorem cinL_mem {x y s : Int} {ps : List (Int × Int)} : ∀ {k : Nat} {z : Int}, z ∈ cinL x y s ps k → ∃ j : Nat, z = (j : Int) ∧ j < k ∧ iK x y s ps j = true
  | 0, z, h => by simp [cinL] at h
  | k + 1, z, h => by
    unfold cinL at h
    split at h
    · rcases List.mem_append.1 h with h | h
      · obtain ⟨j, e, hj, hi⟩ := cinL_mem h
        exact ⟨j, e, by omega, hi⟩
      · exact ⟨k, by simpa using h, by omega, by assumption⟩
    · obtain ⟨j, e, hj, hi⟩ := cinL_mem h
      exact ⟨j, e, by omega, hi⟩
def nrB (x y s : Int) (ps : List (Int × Int)) : Nat → Int
  | 0 => -1
  | k + 1 => if iK x y s ps k = true ∧ (nrB x y s ps k < 0 ∨ gK x y ps k < gK x y ps (nrB x y s ps k).toNat) then (k : Int) else nrB x y s ps k
/-- the first of the least by a cost -/
def mnS (f : Nat → Int) (m z : Int) : Int := if m < 0 ∨ f z.toNat < f m.toNat then z else m
def mnL (f : Nat → Int) (L : List Int) : Int := L.foldl (mnS f) (-1)
theorem mnL_snoc (f : Nat → Int) (L : List Int) (z : Int) : mnL f (L ++ [z]) = mnS f (mnL f L) z := by unfold mnL; rw [List.foldl_append]; rfl
theorem nrB_mn (x y s : Int) (ps : List (Int × Int)) : ∀ k, nrB x y s ps k = mnL (gK x y ps) (cinL x y s ps k)
  | 0 => rfl
  | k + 1 => by
    have ih := nrB_mn x y s ps k
    unfold nrB cinL
    cases hi : iK x y s ps k
    · rw [if_neg (by simp), if_neg (by simp)]; exact ih
    · rw [if_pos rfl, mnL_snoc, ← ih]
      unfold mnS
      simp only [true_and, Int.toNat_natCast]
/-- the nearest one lies in the gate, and none of the gate is nearer -/
theorem nr_facts {x y s : Int} {ps : List (Int × Int)} : ∀ {k : Nat}, (nrB x y s ps k = -1 ∧ cinL x y s ps k = []) ∨ (∃ m : Nat, m < k ∧ nrB x y s ps k = (m : Int) ∧ (m : Int) ∈ cinL x y s ps k ∧ ∀ j : Nat, (j : Int) ∈ cinL x y s ps k → gK x y ps m ≤ gK x y ps j)
  | 0 => Or.inl ⟨rfl, rfl⟩
  | k + 1 => by
    have ih := nr_facts (x := x) (y := y) (s := s) (ps := ps) (k := k)
    cases hi : iK x y s ps k
    · rcases ih with ⟨h1, h2⟩ | ⟨m, hm, h1, h2, h3⟩
      · exact Or.inl ⟨by unfold nrB; rw [hi, if_neg (by simp)]; exact h1, by unfold cinL; rw [hi, if_neg (by simp)]; exact h2⟩
      · exact Or.inr ⟨m, by omega, by unfold nrB; rw [hi, if_neg (by simp)]; exact h1, by unfold cinL; rw [hi, if_neg (by simp)]; exact h2, fun j hj => h3 j (by unfold cinL at hj; rw [hi, if_neg (by simp)] at hj; exact hj)⟩
    · have hc : cinL x y s ps (k + 1) = cinL x y s ps k ++ [(k : Int)] := by rw [cinL, hi, if_pos rfl]
      rcases ih with ⟨h1, h2⟩ | ⟨m, hm, h1, h2, h3⟩
      · refine Or.inr ⟨k, by omega, by unfold nrB; rw [h1, if_pos ⟨hi, Or.inl (by decide)⟩], by rw [hc]; simp, fun j hj => ?_⟩
        rw [hc, h2, List.nil_append] at hj
        have : j = k := Int.ofNat_inj.1 (List.mem_singleton.1 hj)
        rw [this]; exact Int.le_refl _
      · by_cases hl : gK x y ps k < gK x y ps m
        · refine Or.inr ⟨k, by omega, by unfold nrB; rw [h1, Int.toNat_natCast, if_pos ⟨hi, Or.inr hl⟩], by rw [hc]; simp, fun j hj => ?_⟩
          rw [hc] at hj
          rcases List.mem_append.1 hj with h | h
          · have := h3 j h; omega
          · have : j = k := Int.ofNat_inj.1 (List.mem_singleton.1 h)
            rw [this]; exact Int.le_refl _
        · refine Or.inr ⟨m, by omega, by unfold nrB; rw [h1, Int.toNat_natCast, if_neg (by rintro ⟨-, h | h⟩ <;> omega)], by rw [hc]; exact List.mem_append_left _ h2, fun j hj => ?_⟩
          rw [hc] at hj
          rcases List.mem_append.1 hj with h | h
          · exact h3 j h
          · have : j = k := Int.ofNat_inj.1 (List.mem_singleton.1 h)
            rw [this]; omega
/-- the code of a motion and contacts; the answers of the lists -/
def mcC (x y u v s : Int) (ps : List (Int × Int)) : Int := if mtB x y u v s then csC ps else 1
def ciT (x y u v s : Int) (ps : List (Int × Int)) : List Int := if mcC x y u v s ps = 0 then cinL x y s ps ps.length else []
def nrV (x y u v s : Int) (ps : List (Int × Int)) : Int := if mcC x y u v s ps = 0 then if nrB x y s ps ps.length < 0 then 0 else nrB x y s ps ps.length else 0
def nrC (x y u v s : Int) (ps : List (Int × Int)) : Int := if mcC x y u v s ps = 0 then if nrB x y s ps ps.length < 0 then 4 else 0 else mcC x y u v s ps
theorem mcC_0 {x y u v s : Int} {ps : List (Int × Int)} (h : mcC x y u v s ps = 0) : mtB x y u v s = true ∧ allC ps = true ∧ ps.length ≤ 6 := by
  unfold mcC at h
  cases hm : mtB x y u v s
  · rw [hm] at h; simp at h
  · rw [hm, if_pos rfl] at h
    exact ⟨rfl, csC_0 h⟩
theorem ciT_len (x y u v s : Int) (ps : List (Int × Int)) : (ciT x y u v s ps).length ≤ 6 := by
  unfold ciT
  split
  · rename_i h
    have a := cinL_len x y s ps ps.length
    have b := (mcC_0 h).2.2
    omega
  · simp
/-- the costs of all contacts for a motion -/
def cK (x y s : Int) (ps : List (Int × Int)) (k : Nat) : Int := if iK x y s ps k then gK x y ps k else -1
def cstL (x y s : Int) (ps : List (Int × Int)) (k : Nat) : List Int := (List.range k).map (cK x y s ps)
theorem cstL_len (x y s : Int) (ps : List (Int × Int)) (k : Nat) : (cstL x y s ps k).length = k := by simp [cstL]
theorem cstL_succ (x y s : Int) (ps : List (Int × Int)) (k : Nat) : cstL x y s ps (k + 1) = cstL x y s ps k ++ [cK x y s ps k] := by unfold cstL; rw [List.range_succ, List.map_append]; rfl
theorem nrC_0 {x y u v s : Int} {ps : List (Int × Int)} (h : nrC x y u v s ps = 0) : mcC x y u v s ps = 0 ∧ ∃ m : Nat, m < ps.length ∧ nrV x y u v s ps = (m : Int) ∧ (m : Int) ∈ ciT x y u v s ps ∧ ∀ j : Nat, (j : Int) ∈ ciT x y u v s ps → gK x y ps m ≤ gK x y ps j := by
  unfold nrC at h
  split at h
  · rename_i h0
    refine ⟨h0, ?_⟩
    unfold nrV ciT
    rw [if_pos h0, if_pos h0]
    rcases nr_facts (x := x) (y := y) (s := s) (ps := ps) (k := ps.length) with ⟨h1, h2⟩ | ⟨m, hm, h1, h2, h3⟩
    · rw [h1] at h; simp at h
    · exact ⟨m, hm, by rw [h1, if_neg (by omega)], h2, h3⟩
  · exact absurd h (by assumption)
theorem nrC_no {x y u v s : Int} {ps : List (Int × Int)} (h : ¬ nrC x y u v s ps = 0) (h0 : mcC x y u v s ps = 0) : ciT x y u v s ps = [] := by
  unfold nrC at h
  rw [if_pos h0] at h
  unfold ciT
  rw [if_pos h0]
  rcases nr_facts (x := x) (y := y) (s := s) (ps := ps) (k := ps.length) with ⟨h1, h2⟩ | ⟨m, hm, h1, h2, h3⟩
  · exact h2
  · rw [h1, if_neg (by omega)] at h; exact absurd rfl h
end Go.Proofs.Ytlahgdhofakinaa
