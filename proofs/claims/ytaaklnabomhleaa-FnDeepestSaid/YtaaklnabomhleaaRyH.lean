/- The greatest depth of a ray: the facts behind its law. -/
import Derived.Test.YtaaklnabomhleaaRyD
import Derived.Test.YtaaklnabomhleaaArcF
namespace Go.Proofs.Ytaaklnabomhleaa
open Go.ChangeShapes Go.WideShapes Go.ChangeAt Go.RowKit Go.Shelf Num
set_option linter.unusedVariables false
theorem td_le {zs ys : List Int} {i : Nat} {c h : Int} {l : Nat} {ab : Bool} (hpos : 0 < riS ys c (anr l ab) (afr l ab)) : tdLo zs ys i c h l ab ≤ tdHi zs ys i c h l ab := by
  have f3 := fdiv_le_cdiv (a := tdN zs ys i c h l ab) hpos
  unfold tdLo tdHi
  cases ab
  · rw [if_neg (by simp), if_neg (by simp)]; omega
  · rw [if_pos rfl, if_pos rfl]; omega
theorem z_last {zs ys : List Int} (o : Okp zs ys) {j : Nat} (hj : j < zs.length) : zs.getD j 0 ≤ zs.getD (zs.length - 1) 0 := by
  by_cases e : j = zs.length - 1
  · rw [e]; exact Int.le_refl _
  · exact Int.le_of_lt (o.mono (zs.length - 1) (by omega) (by omega))
theorem mx_mono {a b a' b' : Int} (h : a ≤ a') (g : b ≤ b') : mx a b ≤ mx a' b' := by unfold mx; repeat' split <;> omega
theorem mx_le {a b m : Int} (h : a ≤ m) (g : b ≤ m) : mx a b ≤ m := by unfold mx; split <;> omega
theorem dp_ab {zs ys : List Int} {i : Nat} {c s h n : Int} {x : RSt} (e : tcod zs ys (i : Int) c s h n = 0) (r : RyOk zs ys i c s h) (o : SOk zs ys i c h x) (o2 : SOk zs ys i c h (nxt zs ys i c h x)) :
    dpA zs ys i c h x ≤ dpB zs ys i c h x ∧ dpB zs ys i c h x ≤ zs.getD (zs.length - 1) 0 := by
  unfold dpA dpB
  by_cases hv : evV zs ys i c h x.k x.dn = 2
  · rw [if_pos hv, if_pos hv]
    obtain ⟨hin, hc⟩ := evV_2 hv
    obtain ⟨hl, hn, hf, hfl⟩ := inP_l o.kl hin
    have hpos : 0 < riS ys c (anr (lk x.k x.dn) x.dn) (afr (lk x.k x.dn) x.dn) := by
      rw [hn, hf]
      have g := r.turn o.cr hc
      omega
    refine ⟨td_le hpos, ?_⟩
    obtain ⟨j, -, hj, -, h2⟩ := turn_depth (tdF_ok e o.kl o.cr hv)
    exact Int.le_trans h2 (z_last r.ok hj)
  · rw [if_neg hv, if_neg hv]
    exact ⟨Int.le_refl _, z_last r.ok o2.kl⟩
theorem dp_mono (zs ys : List Int) (i : Nat) (c h : Int) (x : RSt) {m : Nat} : ∀ {n : Nat}, m ≤ n → (dpF zs ys i c h x m).1 ≤ (dpF zs ys i c h x n).1 ∧ (dpF zs ys i c h x m).2 ≤ (dpF zs ys i c h x n).2
  | 0, hm => by obtain rfl : m = 0 := by omega
                exact ⟨Int.le_refl _, Int.le_refl _⟩
  | n + 1, hm => by
    by_cases e : m = n + 1
    · subst e; exact ⟨Int.le_refl _, Int.le_refl _⟩
    · have ih := dp_mono zs ys i c h x (m := m) (n := n) (by omega)
      exact ⟨Int.le_trans ih.1 (mx_l _ _), Int.le_trans ih.2 (mx_l _ _)⟩
theorem dp_fact {zs ys : List Int} {src c s h n : Int} (e : tcod zs ys src c s h n = 0) :
    ∃ i : Nat, src = (i : Int) ∧ i < zs.length ∧ 0 ≤ n ∧ n ≤ 100 ∧ (dpT zs ys src c s h n).1 ≤ (dpT zs ys src c s h n).2 ∧ zs.getD i 0 ≤ (dpT zs ys src c s h n).1 ∧ (dpT zs ys src c s h n).2 ≤ zs.getD (zs.length - 1) 0 ∧
      ∀ m : Int, 0 ≤ m → m ≤ n → tcod zs ys src c s h m = 0 ∧ (dpT zs ys src c s h m).1 ≤ (dpT zs ys src c s h n).1 ∧ (dpT zs ys src c s h m).2 ≤ (dpT zs ys src c s h n).2 := by
  have ef : fcod zs ys src c s h = 0 := by
    by_cases q : fcod zs ys src c s h = 0
    · exact q
    · unfold tcod at e; rw [if_neg q] at e; exact e
  obtain ⟨i, N, rfl, rfl, hN, r, hok⟩ := tcod_0 e
  have hT : ∀ M : Nat, M ≤ N → tcod zs ys (i : Int) c s h (M : Int) = 0 := by
    intro M hM
    unfold tcod
    rw [if_pos ef, show inB (M : Int) 0 100 = true from by unfold inB; simp; omega, if_pos rfl, Int.toNat_natCast, Int.toNat_natCast, okN_less hok hM]
    rfl
  have hD : ∀ M : Nat, M ≤ N → dpT zs ys (i : Int) c s h (M : Int) = dpF zs ys i c h (fst0 i s) M := by
    intro M hM
    unfold dpT
    rw [if_pos (hT M hM)]; rfl
  have hS : ∀ k, k ≤ N → SOk zs ys i c h (runS zs ys i c h (fst0 i s) k) := fun k hk => SOk.run r (SOk.first r) (okN_less hok hk)
  have hAB : ∀ M : Nat, M ≤ N → (dpF zs ys i c h (fst0 i s) M).1 ≤ (dpF zs ys i c h (fst0 i s) M).2 ∧ (dpF zs ys i c h (fst0 i s) M).2 ≤ zs.getD (zs.length - 1) 0 := by
    intro M
    induction M with
    | zero => intro _; exact ⟨Int.le_refl _, z_last r.ok r.hi⟩
    | succ M ih =>
      intro hM
      have g := ih (by omega)
      have g2 := dp_ab e r (hS M (by omega)) (hS (M + 1) hM)
      exact ⟨mx_mono g.1 g2.1, mx_le g.2 g2.2⟩
  have hm0 := dp_mono zs ys i c h (fst0 i s) (m := 0) (n := N) (Nat.zero_le _)
  refine ⟨i, rfl, r.hi, by omega, by omega, ?_, ?_, ?_, ?_⟩
  · rw [hD N (Nat.le_refl _)]; exact (hAB N (Nat.le_refl _)).1
  · rw [hD N (Nat.le_refl _)]; exact hm0.1
  · rw [hD N (Nat.le_refl _)]; exact (hAB N (Nat.le_refl _)).2
  · intro m h0 h1
    obtain ⟨M, rfl⟩ : ∃ M : Nat, m = (M : Int) := ⟨m.toNat, by omega⟩
    rw [hD N (Nat.le_refl _), hD M (by omega)]
    exact ⟨hT M (by omega), dp_mono zs ys i c h (fst0 i s) (by omega)⟩
end Go.Proofs.Ytaaklnabomhleaa
