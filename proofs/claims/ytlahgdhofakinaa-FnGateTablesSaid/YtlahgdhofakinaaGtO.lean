/- What the law of the tables of costs says of its numbers; its comparison of two tables. -/
import Derived.Test.YtlahgdhofakinaaGtI
import Derived.Test.YtlahgdhofakinaaPrA
import Derived.Test.YtlahgdhofakinaaLys
namespace Go.Proofs.Ytlahgdhofakinaa
open Go.ChangeShapes Go.WideShapes Go.ChangeAt Go.RowKit Go.Shelf Num
set_option linter.unusedVariables false
set_option linter.unusedSimpArgs false
theorem gc_sym (x y p q : Int) : gc x y p q = gc p q x y := by
  unfold gc
  rw [show x - p = -(p - x) by omega, show y - q = -(q - y) by omega, Int.neg_mul_neg, Int.neg_mul_neg]
theorem gmB_sym (x y u v s p q a b t : Int) : gmB p q a b t x y u v s = gmB x y u v s p q a b t := by
  unfold gmB
  rw [gc_sym p q x y, Int.add_comm t s, Bool.and_comm (mtB p q a b t)]
theorem gmC_sym (x y u v s p q a b t : Int) : gmC p q a b t x y u v s = gmC x y u v s p q a b t := by
  unfold gmC
  rw [Bool.and_comm (mtB p q a b t)]
theorem gc_nn (x y p q : Int) : 0 ≤ gc x y p q := by
  unfold gc
  have := sqr_nn (x - p)
  have := sqr_nn (y - q)
  omega
theorem cK_in (x y s : Int) (ps : List (Int × Int)) (k : Nat) : (0 ≤ cK x y s ps k) ↔ iK x y s ps k = true := by
  unfold cK
  have := gc_nn x y (pX ps k) (pY ps k)
  split
  · rename_i h; exact ⟨fun _ => h, fun _ => this⟩
  · rename_i h; exact ⟨fun g => by omega, fun g => absurd g h⟩
theorem cinL_has {x y s : Int} {ps : List (Int × Int)} : ∀ {n k : Nat}, k < n → iK x y s ps k = true → (k : Int) ∈ cinL x y s ps n
  | 0, k, h, _ => by omega
  | n + 1, k, h, g => by
    unfold cinL
    by_cases e : k = n
    · subst e; rw [if_pos g]; exact List.mem_append.2 (.inr (by simp))
    · have ih := cinL_has (n := n) (k := k) (by omega) g
      split
      · exact List.mem_append.2 (.inl ih)
      · exact ih
/-- an entry is not negative exactly where the list of the gate has its place -/
theorem cK_has {x y s : Int} {ps : List (Int × Int)} {n k : Nat} (h : k < n) : decide (0 ≤ cK x y s ps k) = decide ((k : Int) ∈ cinL x y s ps n) := by
  rw [decide_eq_decide, cK_in]
  refine ⟨fun g => cinL_has h g, fun g => ?_⟩
  obtain ⟨j, e, _, hi⟩ := cinL_mem g
  obtain rfl : k = j := by omega
  exact hi
theorem rwM_at {ps : List (Int × Int)} {m : Mo} {k : Nat} (h : k < ps.length) : (rwM ps m).getD k 0 = cK m.1 m.2.1 m.2.2.2.2 ps k := by
  unfold rwM cstL
  rw [List.getD_eq_getElem?_getD, List.getElem?_map, List.getElem?_range h]
  rfl
/-- the square of a sum of products is at most the product of the sums of squares -/
theorem cauchy (u v a b : Int) : (u * a + v * b) * (u * a + v * b) ≤ (u * u + v * v) * (a * a + b * b) := by
  have h := sqr_nn (u * b - v * a)
  have e : (u * u + v * v) * (a * a + b * b) - (u * a + v * b) * (u * a + v * b) = (u * b - v * a) * (u * b - v * a) := by grind
  omega
theorem le_of_sq {z n : Int} (hn : 0 ≤ n) (h : z * z ≤ n * n) : z ≤ n := by
  by_cases l : n < z
  · have a := Int.mul_lt_mul_of_pos_right l (show 0 < z by omega)
    have b := Int.mul_le_mul_of_nonneg_left (show n ≤ z by omega) hn
    omega
  · omega
/-- two gates that have a contact in common meet -/
theorem gates_meet {x y s p q t a b : Int} (s0 : 0 ≤ s) (t0 : 0 ≤ t) (h : gin x y s a b = true) (g : gin p q t a b = true) : gc x y p q ≤ (s + t) * (s + t) := by
  have h1 : gc x y a b ≤ s * s := by unfold gin at h; exact of_decide_eq_true h
  have h2 : gc p q a b ≤ t * t := by unfold gin at g; exact of_decide_eq_true g
  have n1 := gc_nn x y a b
  have n2 := gc_nn p q a b
  have c := cauchy (x - a) (y - b) (a - p) (b - q)
  have e1 : (x - a) * (x - a) + (y - b) * (y - b) = gc x y a b := rfl
  have e2 : (a - p) * (a - p) + (b - q) * (b - q) = gc p q a b := gc_sym a b p q
  rw [e1, e2] at c
  have m1 : gc x y a b * gc p q a b ≤ (s * s) * (t * t) := Int.mul_le_mul h1 h2 n2 (sqr_nn s)
  have e3 : (s * s) * (t * t) = (s * t) * (s * t) := by grind
  have z := le_of_sq (z := (x - a) * (a - p) + (y - b) * (b - q)) (Int.mul_nonneg s0 t0) (by omega)
  have e4 : gc x y p q = gc x y a b + gc p q a b + 2 * ((x - a) * (a - p) + (y - b) * (b - q)) := by unfold gc; grind
  have e5 : (s + t) * (s + t) = s * s + t * t + 2 * (s * t) := by grind
  omega
/-- so the row of the first motion and another row tell it -/
theorem rows_meet {m n : Mo} {ps : List (Int × Int)} {k : Nat} (hm : moB m = true) (hn : moB n = true) (h : 0 ≤ cK m.1 m.2.1 m.2.2.2.2 ps k) (g : 0 ≤ cK n.1 n.2.1 n.2.2.2.2 ps k) : gmB m.1 m.2.1 m.2.2.1 m.2.2.2.1 m.2.2.2.2 n.1 n.2.1 n.2.2.1 n.2.2.2.1 n.2.2.2.2 = true ∧ gmC m.1 m.2.1 m.2.2.1 m.2.2.2.1 m.2.2.2.2 n.1 n.2.1 n.2.2.1 n.2.2.2.1 n.2.2.2.2 = 0 := by
  have h' := (cK_in _ _ _ _ _).1 h
  have g' := (cK_in _ _ _ _ _).1 g
  have hm' : mtB m.1 m.2.1 m.2.2.1 m.2.2.2.1 m.2.2.2.2 = true := hm
  have hn' : mtB n.1 n.2.1 n.2.2.1 n.2.2.2.1 n.2.2.2.2 = true := hn
  have r := gates_meet (mtB_t hm').2.2.2.1 (mtB_t hn').2.2.2.1 h' g'
  unfold gmB gmC
  rw [hm', hn', decide_eq_true r]
  exact ⟨rfl, rfl⟩
theorem cK_bd {x y s : Int} {ps : List (Int × Int)} {k : Nat} (s0 : 0 ≤ s) (s1 : s ≤ 10000) : -1 ≤ cK x y s ps k ∧ cK x y s ps k ≤ 100000000 := by
  unfold cK
  have n := gc_nn x y (pX ps k) (pY ps k)
  split
  · rename_i h
    have : gc x y (pX ps k) (pY ps k) ≤ s * s := by unfold iK gin at h; exact of_decide_eq_true h
    have b := sq_bd (a := s) (A := 10000) (by omega)
    unfold gK
    omega
  · omega
theorem tbR_ac (ms : List Mo) (ps : List (Int × Int)) : acB (tbR ms ps) = true := by
  by_cases h : ewC ms ps = 0
  case neg =>
    unfold tbR
    rw [if_neg h]
    rfl
  obtain ⟨hm, hc, h1, h2⟩ := ewC_0 h
  have e : tbR ms ps = tbL ms ps ms.length := by unfold tbR; rw [if_pos h]
  rw [e]
  refine decide_eq_true ⟨by rw [tbL_len]; exact h1, fun j hj => ?_⟩
  rw [tbL_len] at hj
  rw [tbL_at _ _ hj, tbL_at _ _ (show 0 < ms.length by omega), rwM_len, rwM_len]
  refine ⟨rfl, h2, fun k hk => ?_⟩
  unfold eAt
  rw [tbL_at _ _ hj, rwM_at hk]
  have g : mtB _ _ _ _ _ = true := allM_at hm hj
  have b := mtB_t g
  have c := cK_bd (x := (ms.getD j mo0).1) (y := (ms.getD j mo0).2.1) (ps := ps) (k := k) b.2.2.2.1 b.2.2.2.2
  omega
set_option maxHeartbeats 1000000 in
theorem llf_any (w : World) (B : Nat) (a b : Option Addr) (c d : Nat) (zss : List (List Int)) (hl : zss.length ≤ 1048576) (hr : ∀ j, j < zss.length → (gR zss j).length ≤ 1048576) (hx : RwL w B a zss) (hy : RwL w B b zss) :
    Calls Try.prog 23 #[.slice a zss.length c, .slice b zss.length d] w fun e w' => e = .returned (.bool true) ∧ ∃ n, w' = w.drewN n := by
  have HR := Lib.hid hr
  obtain ⟨n, hn⟩ : ∃ n, zss.length = n := ⟨_, rfl⟩
  rw [hn] at hl ⊢
  have N1 := Lib.hid hn
  have HX := Lib.hid hx
  have HY := Lib.hid hy
  clear hn hx hy hr
  go_enter Try.func23, Try.ntmps23
  go_wp2
  go_loopw [5] (fun i wr => ∃ k : Nat, (∃ m, wr = w.drewN m) ∧ k ≤ n ∧ i = .int .i64 k) (fun i _ => n - (intOf i).toNat)
  case atStart => exact ⟨0, ⟨0, rfl⟩, by omega, rfl⟩
  case round =>
    obtain ⟨k, hm, hk, rfl⟩ := hrel
    have HM := Lib.hid hm
    have hb : Below B w wr := by obtain ⟨m, rfl⟩ := hm; exact bel_drewN (Below.refl _ _) _
    replace HX := Lib.hid (HX.out.below hb)
    replace HY := Lib.hid (HY.out.below hb)
    clear hm hb
    by_cases hlt : k < n
    · obtain ⟨b1, o1, p, cp, rfl, -, hc1, -, hp⟩ := HX.out.at_ (j := k) (by rw [N1.out]; exact hlt)
      obtain ⟨b2, o2, q, cq, rfl, -, hc2, -, hq⟩ := HY.out.at_ (j := k) (by rw [N1.out]; exact hlt)
      have hL := HR.out k (by rw [N1.out]; exact hlt)
      have K : Hid (∀ m, Calls Try.prog 36 #[.slice p (gR zss k).length cp, .slice q (gR zss k).length cq] (wr.drewN m) fun e w' => e = .returned (.bool true) ∧ ∃ j, w' = (wr.drewN m).drewN j) :=
        Lib.hid (fun m => lki_any (wr.drewN m) B p q cp cq (gR zss k) hL (hp.drewN m) (hq.drewN m))
      obtain ⟨L, hLe⟩ : ∃ L, (gR zss k).length = L := ⟨_, rfl⟩
      rw [hLe] at hc1 hc2 K
      clear hLe hp hq hL
      go_wp2
      go_quiet (first | (go_at_call 36; (with_reducible exact dqR_call (K.out _))) | fail)
      go_wp2
      go_roundw
      case rel => exact ⟨k + 1, by obtain ⟨m, hm⟩ := HM.out; exact ⟨m + nq, by rw [hm, World.drewN_drewN]⟩, by omega, by go_num⟩
      case measure => simp [intOf]; omega
    · go_wp2
      go_ret
      exact ⟨rfl, HM.out⟩
end Go.Proofs.Ytlahgdhofakinaa
