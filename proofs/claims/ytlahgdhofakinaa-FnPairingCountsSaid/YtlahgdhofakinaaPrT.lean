/- slices.Compare and cmp.Or; the cheapest pairing of a map. -/
import Derived.Test.YtlahgdhofakinaaPrS
import Derived.Test.YtlahgdhofakinaaBrB
import Derived.Deep.RegionHeld3
import Derived.Deep.DeepCutAuto
import Derived.Deep.DrawnRows
import Derived.Deep.RegionWith
namespace Go.Proofs.Ytlahgdhofakinaa
open Go.ChangeShapes Go.WideShapes Go.ChangeAt Go.RowKit Go.Shelf Num
open Go.Maps (Keyed has)
set_option linter.unusedVariables false
set_option linter.unusedSimpArgs false
def cmL : List Int → List Int → Int
  | a :: p, b :: q => if sgn a b = 0 then cmL p q else sgn a b
  | _, _ => 0
theorem sgn_0 {a b : Int} : sgn a b = 0 ↔ a = b := by unfold sgn; split <;> (try split) <;> omega
theorem sgn_n {a b : Int} : sgn a b < 0 ↔ a < b := by unfold sgn; split <;> (try split) <;> omega
theorem cmL_eq : ∀ {p q : List Int}, p.length = q.length → (∀ j, j < p.length → pI p j = pI q j) → cmL p q = 0
  | [], [], _, _ => rfl
  | [], _ :: _, h, _ => by cases h
  | _ :: _, [], h, _ => by cases h
  | a :: p, b :: q, hl, h => by
    have e : a = b := h 0 (by simp)
    unfold cmL
    rw [if_pos (sgn_0.2 e)]
    exact cmL_eq (by simpa using hl) (fun j hj => h (j + 1) (by simpa using hj))
theorem cmL_at : ∀ {p q : List Int} {k : Nat}, p.length = q.length → k < p.length → (∀ j, j < k → pI p j = pI q j) → sgn (pI p k) (pI q k) ≠ 0 → cmL p q = sgn (pI p k) (pI q k)
  | [], _, _, _, h, _, _ => by simp at h
  | _ :: _, [], _, h, _, _, _ => by cases h
  | a :: p, b :: q, 0, hl, _, _, hn => by
    unfold cmL
    rw [if_neg (show ¬ sgn a b = 0 from hn)]; rfl
  | a :: p, b :: q, k + 1, hl, hk, h, hn => by
    have e : a = b := h 0 (by omega)
    unfold cmL
    rw [if_pos (sgn_0.2 e)]
    exact cmL_at (p := p) (q := q) (k := k) (by simpa using hl) (by simpa using hk) (fun j hj => h (j + 1) (by omega)) hn
theorem cmL_lx : ∀ {p q : List Int}, p.length = q.length → (cmL p q < 0 ↔ lxB p q = true)
  | [], [], _ => by simp [cmL, lxB]
  | [], _ :: _, h => by cases h
  | _ :: _, [], h => by cases h
  | a :: p, b :: q, hl => by
    have ih := cmL_lx (p := p) (q := q) (by simpa using hl)
    unfold cmL lxB
    simp only [Bool.or_eq_true, Bool.and_eq_true, decide_eq_true_eq]
    by_cases h : sgn a b = 0
    · have e := sgn_0.1 h
      rw [if_pos h, ih]
      constructor
      · exact fun g => Or.inr ⟨e, g⟩
      · rintro (g | g)
        · omega
        · exact g.2
    · have e : a ≠ b := fun e => h (sgn_0.2 e)
      rw [if_neg h, sgn_n]
      constructor
      · exact Or.inl
      · rintro (g | g)
        · exact g
        · exact absurd g.1 e
theorem bt_or (f : List Int → Int) {p q : List Int} (hl : p.length = q.length) : decide ((if sgn (f p) (f q) = 0 then cmL p q else sgn (f p) (f q)) < 0) = btB f p q := by
  unfold btB
  by_cases h : sgn (f p) (f q) = 0
  · have e := sgn_0.1 h
    rw [if_pos h, e, decide_eq_false (by omega : ¬ f q < f q), decide_eq_true (rfl : f q = f q), Bool.false_or, Bool.true_and]
    cases hx : lxB p q
    · rw [decide_eq_false (fun g => by rw [cmL_lx hl, hx] at g; cases g)]
    · rw [decide_eq_true ((cmL_lx hl).2 hx)]
  · have e : f p ≠ f q := fun e => h (sgn_0.2 e)
    rw [if_neg h, decide_eq_false e, Bool.false_and, Bool.or_false]
    exact decide_eq_decide.2 sgn_n
set_option maxHeartbeats 2000000 in
theorem scm_any (w : World) (B : Nat) (a b : Option Addr) (ca cb n : Nat) (p q : List Int) (hp : p.length = n) (hq : q.length = n) (hl : n ≤ 1000) (hz : Ints .i64 w B a p) (hy : Ints .i64 w B b q) :
    Calls Try.prog 115 #[.slice a n ca, .slice b n cb] w fun e w' => e = .returned (.int .i64 (cmL p q)) ∧ w = w' := by
  have HZ := Lib.hid hz
  have HY := Lib.hid hy
  have N1 := Lib.hid hp
  have N2 := Lib.hid hq
  clear hz hy hp hq
  go_enter Try.func115, Try.ntmps115
  go_wp2
  go_loop [11] (fun i => ∃ k : Nat, k ≤ n ∧ i = .int .i64 k ∧ ∀ j, j < k → pI p j = pI q j) (fun i => n - (intOf i).toNat)
  case atStart => exact ⟨0, by omega, rfl, fun j hj => by omega⟩
  case round =>
    obtain ⟨k, hk, rfl, hr⟩ := hrel
    have HR := Lib.hid hr
    clear hr
    by_cases hlt : k < n
    · obtain ⟨b1, o1, rfl, -, hx⟩ := HZ.out.at_ (j := k) (by rw [N1.out]; exact hlt)
      obtain ⟨b2, o2, rfl, -, hw⟩ := HY.out.at_ (j := k) (by rw [N2.out]; exact hlt)
      have HC : Hid (∀ W : World, Calls Try.prog 114 #[.int .i64 (p.getD k 0), .int .i64 (q.getD k 0)] W _) := Lib.hid (fun W => cmp_any W (p.getD k 0) (q.getD k 0))
      have HAT : Hid (sgn (p.getD k 0) (q.getD k 0) ≠ 0 → cmL p q = sgn (p.getD k 0) (q.getD k 0)) := Lib.hid (fun h => cmL_at (by rw [N1.out, N2.out]) (by rw [N1.out]; exact hlt) HR.out h)
      have HEQ : Hid (sgn (p.getD k 0) (q.getD k 0) = 0 → pI p k = pI q k) := Lib.hid (fun h => sgn_0.1 h)
      obtain ⟨x, hxe⟩ : ∃ x, p.getD k 0 = x := ⟨_, rfl⟩
      obtain ⟨y, hye⟩ : ∃ y, q.getD k 0 = y := ⟨_, rfl⟩
      rw [hxe] at hx HC HAT HEQ
      rw [hye] at hw HC HAT HEQ
      clear hxe hye
      obtain ⟨s, hs⟩ : ∃ s, sgn x y = s := ⟨_, rfl⟩
      rw [hs] at HC HAT HEQ
      clear hs
      by_cases h0 : s = 0
      · subst h0
        have HE := Lib.hid (HEQ.out rfl)
        clear HEQ HAT
        go_wp2_with (go_at_call 114; (with_reducible refine Calls.mono (HC.out _) ?_); rintro e w' ⟨rfl, rfl⟩)
        go_round
        case rel => exact ⟨k + 1, by omega, by go_num, fun j hj => by
          by_cases e : j < k
          · exact HR.out j e
          · obtain rfl : j = k := by omega
            exact HE.out⟩
        case measure => simp [intOf] <;> omega
      · have hd : (s != 0) = true := by simpa using h0
        have HE := Lib.hid (HAT.out h0)
        clear HEQ HAT h0
        go_wp2_with (go_at_call 114; (with_reducible refine Calls.mono (HC.out _) ?_); rintro e w' ⟨rfl, rfl⟩)
        go_ret
        exact ⟨by rw [HE.out]; rfl, rfl⟩
    · obtain rfl : k = n := by omega
      have HE : Hid (cmL p q = 0) := Lib.hid (cmL_eq (by rw [N1.out, N2.out]) (fun j hj => HR.out j (by rw [N1.out] at hj; exact hj)))
      go_wp2
      go_ret
      exact ⟨by rw [HE.out]; rfl, rfl⟩
set_option maxHeartbeats 2000000 in
theorem con_any2 (w : World) (g : Nat) (x y : Int) (hb : Bk w g #[.int .i64 x, .int .i64 y] 3) :
    Calls Try.prog 113 #[.slice (some ⟨g, 0, none⟩) 2 2] w fun e w' => e = .returned (.int .i64 (if x = 0 then y else x)) ∧ w = w' := by
  have c0 := hb.cell 0 rfl
  have c1 := hb.cell 1 rfl
  have cl := hb.lt
  clear hb
  by_cases hx : x = 0
  · subst hx
    rw [if_pos rfl]
    by_cases hy : y = 0
    · subst hy
      go_enter Try.func113, Try.ntmps113
      go_wp2_with fail
      refine wp_loop_rounds 3 ?_
      rw [rounds_succ]
      go_wp2_with fail
      rw [rounds_succ]
      go_wp2_with fail
      rw [rounds_succ]
      go_wp2_with fail
      go_ret
      exact ⟨rfl, rfl⟩
    · have hd : (y != 0) = true := by simpa using hy
      go_enter Try.func113, Try.ntmps113
      go_wp2_with fail
      refine wp_loop_rounds 2 ?_
      rw [rounds_succ]
      go_wp2_with fail
      rw [rounds_succ]
      go_wp2_with fail
      go_ret
      exact ⟨rfl, rfl⟩
  · have hd : (x != 0) = true := by simpa using hx
    rw [if_neg hx]
    go_enter Try.func113, Try.ntmps113
    go_wp2_with fail
    refine wp_loop_rounds 1 ?_
    rw [rounds_succ]
    go_wp2_with fail
    go_ret
    exact ⟨rfl, rfl⟩
theorem zero64 (w : World) : (zeroValue 2).run Try.prog w = .ok (.int .i64 0) w := by kernel_rfl

set_option maxRecDepth 100000 in
set_option maxHeartbeats 8000000 in
theorem chp_any (w : World) (b n0 n : Nat) (D : DataW Nat) (zss : List (List Int)) (miss : Int) (hn : zss.length = n) (ha : AcP zss) (ho : w.ownsMap Try.prog 90 (plainElem (H := Nat) Try.prog 2) b n0 D) (hv : MapV D (stB zss n) (fun q => smT zss miss q n)) :
    Calls Try.prog 80 #[.map (some b)] w fun e w' => e = .returned (.tuple #[arV (pd6 (bstP zss miss)), .int .i64 (smV zss miss (bstP zss miss))]) ∧ Below w.heap.size w w' := by
  have h6 : n ≤ 6 := by have := ha.1; omega
  have HA := Lib.hid ha
  have N1 := Lib.hid hn
  have HV := Lib.hid hv
  have hbl := ho.lt
  have HO := Lib.hid ho
  have KU : Hid (∀ W : World, Calls Try.prog 85 #[] W _) := Lib.hid (fun W => upa_any W)
  have HKY := Lib.hid (key_arV (q := un6) (st_wf ha (stB_un6 zss 0 (by omega)) (by omega)))
  have HAT0 : Hid (∀ z, D.atKey (klq un6) z = .lit (.int .i64 (smT zss miss un6 n))) := Lib.hid ((hv un6 rfl (st_wf ha (stB_un6 zss 0 (by omega)) (by omega))).2 (stB_un6 zss n h6))
  unfold arV arC at KU
  clear ha hn hv ho
  go_enter Try.func80, Try.ntmps80
  go_upto_region 1 with fail
  generalize hW : World.alloc _ _ = W1
  have bR : Bk W1 w.heap.size #[.int .i64 0, .int .i64 0, .int .i64 0, .int .i64 0, .int .i64 0, .int .i64 0] 90 := by rw [← hW]; exact Bk.new' rfl
  have HB1 : Hid (Below w.heap.size w W1) := Lib.hid (by rw [← hW]; exact (Below.refl _ _).alloc (Nat.le_refl _) _)
  have BR1 := Lib.hid bR
  clear hW bR
  go_upto_region 2 with (go_at_call 85; (with_reducible refine Calls.mono (KU.out _) ?_); rintro e w2 ⟨rfl, hb⟩; have HB2 := Lib.hid hb; clear hb)
  generalize hW : World.alloc _ _ = W3
  obtain ⟨g, hg⟩ : ∃ g, w2.heap.size = g := ⟨_, rfl⟩
  have bB : Bk W3 g #[.int .i64 (pI un6 0), .int .i64 (pI un6 1), .int .i64 (pI un6 2), .int .i64 (pI un6 3), .int .i64 (pI un6 4), .int .i64 (pI un6 5)] 90 := by rw [← hW, ← hg]; exact Bk.new' rfl
  have hb3 : Below W1.heap.size W1 W3 := by rw [← hW]; exact HB2.out.alloc HB2.out.size _
  have BR3 := Lib.hid (BR1.out.on hb3)
  have HB3 := Lib.hid (bel_end HB1.out hb3)
  have HO3 := Lib.hid (HO.out.kept (grown_none HB3.out) (by simp))
  have hrg : w.heap.size < g := by rw [← hg]; have := BR1.out.lt; have := HB2.out.size; omega
  have hgW : g < W3.heap.size := bB.lt
  rw [hg]
  clear hW hg hb3 KU BR1 HB1 HB2 HO
  have bB_0 := bB.cell 0 rfl
  have bB_1 := bB.cell 1 rfl
  have bB_2 := bB.cell 2 rfl
  have bB_3 := bB.cell 3 rfl
  have bB_4 := bB.cell 4 rfl
  have bB_5 := bB.cell 5 rfl
  have bB_l := bB.lt
  have BB := Lib.hid bB
  clear bB
  have hky := HKY.out
  go_upto_region 3 with (at_lookup; refine wpList_lookup_own_int _ rfl _ _ 93 rfl 90 2 .i64 keyedP Try.underlying93 Try.underlying2 (zero64 _) b n0 D rfl HO3.out _ _ rfl hky ?_; intro c0 hat hwc; have HAT := Lib.hid hat; clear hat hwc)
  obtain rfl : c0 = smT zss miss un6 n := by
    have e1 := HAT.out
    rw [HAT0.out] at e1
    injection e1 with e1
    injection e1 with _ e1
    exact e1.symm
  clear bB_0 bB_1 bB_2 bB_3 bB_4 bB_5 bB_l hky HAT HAT0
  go_wp2_with (at_range; refine wpList_range_own _ rfl _ 93 rfl 90 2 keyedP Try.underlying93 (plainElem (H := Nat) Try.prog 2) b n0 D rfl HO3.out ?_; intro w0 hrg0 hg0 hs0; have HRG0 := Lib.hid hrg0; have HG0 := Lib.hid hg0; clear hrg0 hg0 hs0)
  go_frame
  obtain ⟨r0, hr0⟩ : ∃ r0, W3.heap.size = r0 := ⟨_, rfl⟩
  have BR0 := Lib.hid (BR3.out.kept HG0.out (by simp))
  have BB0 := Lib.hid (BB.out.kept HG0.out (by simp))
  have HB0 : Hid (Below w.heap.size w w0) := Lib.hid (HB3.out.grown HG0.out HB3.out.size (fun j hj => by cases hj))
  rw [hr0] at HRG0 hgW ⊢
  clear hr0 HG0 BR3 BB HB3 HO3
  go_loopw [5] (fun l wr => ∃ (left : Lit → Bool) (cnt : Nat) (bq : List Int), l = .int .i64 (smT zss miss bq n) ∧ stB zss n bq = true ∧ wr.ranges Try.prog 90 (plainElem (H := Nat) Try.prog 2) b r0 n0 D left cnt ∧ Bk wr g (arC bq) 90 ∧ Bk wr w.heap.size #[.int .i64 0, .int .i64 0, .int .i64 0, .int .i64 0, .int .i64 0, .int .i64 0] 90 ∧ (∀ q, stB zss n q = true → left (klq q) = false → btB (fun p => smT zss miss p n) q bq = false) ∧ Below w.heap.size w wr) (fun _ wr => wr.rangeLeft b r0)
  case atStart => exact ⟨_, _, un6, rfl, stB_un6 zss n h6, HRG0.out, BB0.out, BR0.out, (fun q hq hl => by
    rw [(HV.out q (stB_len hq) (st_wf HA.out hq h6)).1, hq] at hl
    cases hl), HB0.out⟩
  case round =>
    obtain ⟨left, cnt, bq, rfl, hst, hrg1, hbq, hbr, hbt, hnx⟩ := hrel
    have HRG := Lib.hid hrg1
    have HST := Lib.hid hst
    have BQ := Lib.hid hbq
    have BR := Lib.hid hbr
    have HBT := Lib.hid hbt
    have HNX := Lib.hid hnx
    clear hrg1 hst hbq hbr hbt hnx HRG0 BB0 BR0 HB0
    go_wp2_with (at_next; refine wpList_next_six rfl _ rfl b r0 n0 D left cnt rfl HRG.out ?_ ?_)
    · intro hc0 hl0
      have HBE : Hid (bq = pd6 (bstP zss miss)) := Lib.hid (best_eq (by rw [N1.out]; exact h6) (by rw [N1.out]; exact HST.out) (fun q hq => by rw [N1.out] at hq ⊢; exact HBT.out q hq (hl0 _)))
      have HSE : Hid (smT zss miss bq n = smV zss miss (bstP zss miss)) := Lib.hid (by
        have hl := (prB_t (bst_facts zss miss).1).1
        rw [HBE.out, ← N1.out, ← hl]
        exact smT_pd _ _ _)
      clear hl0
      obtain ⟨s, hs⟩ : ∃ s, smT zss miss bq n = s := ⟨_, rfl⟩
      rw [hs] at HSE ⊢
      clear hs
      have b0 := BR.out
      have b1 : Bk wr g #[.int .i64 (pI bq 0), .int .i64 (pI bq 1), .int .i64 (pI bq 2), .int .i64 (pI bq 3), .int .i64 (pI bq 4), .int .i64 (pI bq 5)] 90 := BQ.out
      have b0_0 := b0.cell 0 rfl
      have b0_1 := b0.cell 1 rfl
      have b0_2 := b0.cell 2 rfl
      have b0_3 := b0.cell 3 rfl
      have b0_4 := b0.cell 4 rfl
      have b0_5 := b0.cell 5 rfl
      have b0_f0 := b0.frozen 0
      have b0_f1 := b0.frozen 1
      have b0_f2 := b0.frozen 2
      have b0_f3 := b0.frozen 3
      have b0_f4 := b0.frozen 4
      have b0_f5 := b0.frozen 5
      have b0_l := b0.lt
      have b1_0 := b1.cell 0 rfl
      have b1_1 := b1.cell 1 rfl
      have b1_2 := b1.cell 2 rfl
      have b1_3 := b1.cell 3 rfl
      have b1_4 := b1.cell 4 rfl
      have b1_5 := b1.cell 5 rfl
      have b1_l := b1.lt
      clear b0 b1
      go_wp2_with fail
      (try simp only [Exit.inBlock, Exit.then])
      exact bodyPost_ret (v := .tuple #[.agg (arC bq), .int .i64 s]) (by unfold arC; simp [results, Try.results80, go_sem, b0_0, b0_1, b0_2, b0_3, b0_4, b0_5, b0_f0, b0_f1, b0_f2, b0_f3, b0_f4, b0_f5, b0_l, b1_0, b1_1, b1_2, b1_3, b1_4, b1_5, b1_l]) rfl ⟨by rw [HBE.out, HSE.out]; rfl, (by repeat (first | exact HNX.out | (refine Below.setCell ?_ (by simp <;> omega) _)))⟩
    · intro q s w1 cnt1 hq6 hqw hlq hat hrg1 hlt hg1 hs1 hen
      clear hs1
      have hhas : has D (klq q) = true := Go.Maps.has_true_of_atKey hat
      have hstq : stB zss n q = true := by rw [← (HV.out q hq6 hqw).1]; exact hhas
      obtain rfl : s = smT zss miss q n := by
        have e1 := hat (.lit (.int .i64 0))
        rw [(HV.out q hq6 hqw).2 hstq (.lit (.int .i64 0))] at e1
        injection e1 with e1
        injection e1 with _ e1
        exact e1.symm
      have HSQ := Lib.hid hstq
      have HQW := Lib.hid hqw
      have HRG1 := Lib.hid hrg1
      have hgr0 : g < r0 := hgW
      have BQ1 := Lib.hid (BQ.out.kept hg1 (by simp; omega))
      have BR1 := Lib.hid (BR.out.kept hg1 (by simp; omega))
      have HNX1 : Hid (Below w.heap.size w w1) := Lib.hid (HNX.out.grown hg1 HNX.out.size (fun j hj => by injection hj with hj; omega))
      have hl6 : bq.length = 6 := stB_len HST.out
      have HV1 : Hid (∀ C1 C2 : Int, C1 = sgn (smT zss miss q n) (smT zss miss bq n) → C2 = cmL q bq → decide ((if C1 = 0 then C2 else C1) < 0) = btB (fun p => smT zss miss p n) q bq) := Lib.hid (fun C1 C2 e1 e2 => by rw [e1, e2]; exact bt_or (fun p => smT zss miss p n) (by omega))
      have K2 : Hid (∀ W : World, Calls Try.prog 114 #[.int .i64 (smT zss miss q n), .int .i64 (smT zss miss bq n)] W _) := Lib.hid (fun W => cmp_any W _ _)
      have HST2 : Hid (∀ V : Bool, btB (fun p => smT zss miss p n) q bq = V → ∀ p, stB zss n p = true → (left (klq p) && !(klq p).sameKey (klq q)) = false → btB (fun p => smT zss miss p n) p (if V then q else bq) = false) := Lib.hid (fun V hV p hp hlp => by
        have hpw := st_wf HA.out hp h6
        rw [klq_same (stB_len hp) hq6 hpw HQW.out] at hlp
        by_cases hpq : p = q
        · subst hpq
          cases V
          · exact hV
          · exact bt_irr _ _
        · rw [decide_eq_false hpq] at hlp
          have h1 := HBT.out p hp (by simpa using hlp)
          cases V
          · exact h1
          · exact bt_step hV h1)
      clear hat hrg1 hg1 hhas hstq hqw hlq
      obtain ⟨s, hs⟩ : ∃ s, smT zss miss q n = s := ⟨_, rfl⟩
      obtain ⟨l, hl⟩ : ∃ l, smT zss miss bq n = l := ⟨_, rfl⟩
      have HS := Lib.hid hs
      have HL := Lib.hid hl
      rw [hs] at HV1 K2 hen ⊢
      rw [hl] at HV1 K2 ⊢
      clear hs hl
      obtain ⟨C1, hC1⟩ : ∃ c, sgn s l = c := ⟨_, rfl⟩
      rw [hC1] at K2 HV1
      clear hC1
      obtain ⟨C2, hC2⟩ : ∃ c, cmL q bq = c := ⟨_, rfl⟩
      have HC2 := Lib.hid hC2
      rw [hC2] at HV1
      clear hC2
      have HOR := Lib.hid (HV1.out C1 C2 rfl rfl)
      clear HV1
      obtain ⟨CR, hCR⟩ : ∃ c, (if C1 = 0 then C2 else C1) = c := ⟨_, rfl⟩
      have HCR := Lib.hid hCR
      rw [hCR] at HOR
      clear hCR
      obtain ⟨V, hV⟩ : ∃ V, btB (fun p => smT zss miss p n) q bq = V := ⟨_, rfl⟩
      rw [hV] at HOR
      replace HST2 := Lib.hid (HST2.out V hV)
      clear hV
      go_upto_region 6 with fail
      generalize hW : World.alloc _ _ = W6
      obtain ⟨gQ, hg6⟩ : ∃ gQ, w1.heap.size = gQ := ⟨_, rfl⟩
      have bQ : Bk W6 gQ #[.int .i64 (pI q 0), .int .i64 (pI q 1), .int .i64 (pI q 2), .int .i64 (pI q 3), .int .i64 (pI q 4), .int .i64 (pI q 5)] 90 := by rw [← hW, ← hg6]; exact Bk.new' rfl
      have hb6 : Below w1.heap.size w1 W6 := by rw [← hW]; exact (Below.refl _ _).alloc (Nat.le_refl _) _
      have bB : Bk W6 g #[.int .i64 (pI bq 0), .int .i64 (pI bq 1), .int .i64 (pI bq 2), .int .i64 (pI bq 3), .int .i64 (pI bq 4), .int .i64 (pI bq 5)] 90 := BQ1.out.on hb6
      have BR6 := Lib.hid (BR1.out.on hb6)
      have HRG6 := Lib.hid (HRG1.out.kept (grown_none hb6) (by simp) (by simp))
      have HNX6 := Lib.hid (bel_end HNX1.out hb6)
      have hr06 : r0 < gQ := by rw [← hg6]; exact HRG1.out.lt
      rw [hg6]
      have BQ6 := Lib.hid bQ
      have BB6 := Lib.hid bB
      clear hW hg6 hb6 hen HRG1 BQ1 BR1 HNX1
      have K5 : Hid (∀ V : World, Below W6.heap.size W6 V → Calls Try.prog 115 #[.slice (some ⟨gQ, 0, none⟩) 6 6, .slice (some ⟨g, 0, none⟩) 6 6] V fun e w' => e = .returned (.int .i64 C2) ∧ V = w') := Lib.hid (fun V hb => by
        rw [← HC2.out]
        exact scm_any V V.heap.size _ _ 6 6 6 q bq hq6 hl6 (by omega) (ar_ints (BQ6.out.on hb) hq6) (ar_ints (BB6.out.on hb) hl6))
      have HW : Hid (Below W6.heap.size W6 W6) := Lib.hid (Below.refl _ _)
      go_cut [27] (fun v wx => v = .bool V ∧ Below W6.heap.size W6 wx)
      case first =>
        obtain ⟨S, hSd⟩ : ∃ S : World → Prop, ∀ w', S w' ↔ (w'.cell? ⟨gQ, 0, none⟩ = some (Value.int .i64 (pI q 0)) ∧ w'.cell? ⟨gQ, 1, none⟩ = some (Value.int .i64 (pI q 1)) ∧ w'.cell? ⟨gQ, 2, none⟩ = some (Value.int .i64 (pI q 2)) ∧ w'.cell? ⟨gQ, 3, none⟩ = some (Value.int .i64 (pI q 3)) ∧ w'.cell? ⟨gQ, 4, none⟩ = some (Value.int .i64 (pI q 4)) ∧ w'.cell? ⟨gQ, 5, none⟩ = some (Value.int .i64 (pI q 5)) ∧ w'.cell? ⟨g, 0, none⟩ = some (Value.int .i64 (pI bq 0)) ∧ w'.cell? ⟨g, 1, none⟩ = some (Value.int .i64 (pI bq 1)) ∧ w'.cell? ⟨g, 2, none⟩ = some (Value.int .i64 (pI bq 2)) ∧ w'.cell? ⟨g, 3, none⟩ = some (Value.int .i64 (pI bq 3)) ∧ w'.cell? ⟨g, 4, none⟩ = some (Value.int .i64 (pI bq 4)) ∧ w'.cell? ⟨g, 5, none⟩ = some (Value.int .i64 (pI bq 5))) := ⟨_, fun _ => Iff.rfl⟩
        have HSp : Hid (∀ w' : World, Bk w' (gQ) #[Value.int .i64 (pI q 0), Value.int .i64 (pI q 1), Value.int .i64 (pI q 2), Value.int .i64 (pI q 3), Value.int .i64 (pI q 4), Value.int .i64 (pI q 5)] 90 → Bk w' (g) #[Value.int .i64 (pI bq 0), Value.int .i64 (pI bq 1), Value.int .i64 (pI bq 2), Value.int .i64 (pI bq 3), Value.int .i64 (pI bq 4), Value.int .i64 (pI bq 5)] 90 → S w') := Lib.hid (fun w' bQ bB => (hSd w').2 ⟨bQ.cell 0 rfl, bQ.cell 1 rfl, bQ.cell 2 rfl, bQ.cell 3 rfl, bQ.cell 4 rfl, bQ.cell 5 rfl, bB.cell 0 rfl, bB.cell 1 rfl, bB.cell 2 rfl, bB.cell 3 rfl, bB.cell 4 rfl, bB.cell 5 rfl⟩)
        have HSd := Lib.hid hSd
        clear hSd
        refine wp_region_held_drew (S := S) (by kernel_rfl) ?_ (fun hH => ?_)
        · exact (HSp.out _ bQ bB : S (World.drew W6))
        clear hH
        generalize hX : World.drew W6 = V0
        replace bQ : Bk V0 (gQ) #[Value.int .i64 (pI q 0), Value.int .i64 (pI q 1), Value.int .i64 (pI q 2), Value.int .i64 (pI q 3), Value.int .i64 (pI q 4), Value.int .i64 (pI q 5)] 90 := by rw [← hX]; exact bQ
        replace bB : Bk V0 (g) #[Value.int .i64 (pI bq 0), Value.int .i64 (pI bq 1), Value.int .i64 (pI bq 2), Value.int .i64 (pI bq 3), Value.int .i64 (pI bq 4), Value.int .i64 (pI bq 5)] 90 := by rw [← hX]; exact bB
        have hb : Below W6.heap.size W6 V0 := by rw [← hX]; exact (Below.refl _ _).drew
        clear hX
        replace HW := Lib.hid (bel_end HW.out hb)
        clear hb
        have hS := HSp.out _ bQ bB
        refine wpAnyH_take (i := 0) (oi := { dst := some 19, op := Go.Op.move (Go.Operand.tmp 7), type := 2, pos := "l15_assignment.go:237", after := #[], guard := none }) (v := ?_) rfl (by kernel_rfl) (by kernel_rfl) (by kernel_rfl) (fun _ _ _ h => h) (Or.inl ⟨by rfl, ?_⟩) hS ?_
        rotate_left
        · (intro w hSw; have hSw := (HSd.out w).1 hSw; go_split_ands; go_simp) <;> with_reducible rfl
        clear hS
        try simp only [Act.put, List.setIfInBounds_toArray, List.set_cons_zero, List.set_cons_succ]
        have hS := HSp.out _ bQ bB
        refine wpAnyH_take (i := 1) (oi := { dst := some 20, op := Go.Op.move (Go.Operand.tmp 5), type := 2, pos := "l15_assignment.go:237", after := #[], guard := none }) (v := ?_) rfl (by kernel_rfl) (by kernel_rfl) (by kernel_rfl) (fun _ _ _ h => h) (Or.inl ⟨by rfl, ?_⟩) hS ?_
        rotate_left
        · (intro w hSw; have hSw := (HSd.out w).1 hSw; go_split_ands; go_simp) <;> with_reducible rfl
        clear hS
        try simp only [Act.put, List.setIfInBounds_toArray, List.set_cons_zero, List.set_cons_succ]
        have hS := HSp.out _ bQ bB
        refine wpAnyH_take (i := 3) (oi := { dst := some 22, op := Go.Op.slice 90 (Go.Operand.tmp 6) none none none, type := 38, pos := "l15_assignment.go:237", after := #[], guard := none }) (v := ?_) rfl (by kernel_rfl) (by kernel_rfl) (by kernel_rfl) (fun _ _ _ h => h) (Or.inl ⟨by rfl, ?_⟩) hS ?_
        rotate_left
        · (intro w hSw; have hSw := (HSd.out w).1 hSw; go_split_ands; go_simp) <;> with_reducible rfl
        clear hS
        try simp only [Act.put, List.setIfInBounds_toArray, List.set_cons_zero, List.set_cons_succ]
        have hS := HSp.out _ bQ bB
        refine wpAnyH_take (i := 4) (oi := { dst := some 23, op := Go.Op.slice 90 (Go.Operand.tmp 4) none none none, type := 38, pos := "l15_assignment.go:237", after := #[], guard := none }) (v := ?_) rfl (by kernel_rfl) (by kernel_rfl) (by kernel_rfl) (fun _ _ _ h => h) (Or.inl ⟨by rfl, ?_⟩) hS ?_
        rotate_left
        · (intro w hSw; have hSw := (HSd.out w).1 hSw; go_split_ands; go_simp) <;> with_reducible rfl
        clear hS
        try simp only [Act.put, List.setIfInBounds_toArray, List.set_cons_zero, List.set_cons_succ]
        refine wpAnyH_ready (rs := [2]) (by kernel_rfl) (by simp) ?_
        refine AllReadyH.cons (o := { dst := some 21, op := Go.Op.call { callee := Go.Callee.value (Go.Operand.func 114), args := #[Go.Operand.tmp 19, Go.Operand.tmp 20], argTypes := #[2, 2] }, type := 3, pos := "l15_assignment.go:237", after := #[{ on := 0, ground := Go.Ground.data }, { on := 1, ground := Go.Ground.data }], guard := none }) rfl (fun Kn hK => ?_) AllReadyH.nil
        first | go_at_call 114 | (go_simp; go_at_call 114)
        (with_reducible refine Calls.mono (K2.out _) ?_)
        rintro e V1 ⟨rfl, hw⟩
        have hb : Below V0.heap.size V0 V1 := hw ▸ Below.refl _ _
        clear hw
        try dsimp only
        try simp only [Act.put, List.setIfInBounds_toArray, List.set_cons_zero, List.set_cons_succ]
        replace bQ := bQ.on hb
        replace bB := bB.on hb
        replace HW := Lib.hid (bel_end HW.out hb)
        clear hb
        refine hK.out _ _ (HSp.out _ bQ bB) (fun _ => ?_)
        clear hK Kn
        refine wpAnyH_ready (rs := [5]) (by kernel_rfl) (by simp) ?_
        refine AllReadyH.cons (o := { dst := some 24, op := Go.Op.call { callee := Go.Callee.value (Go.Operand.func 115), args := #[Go.Operand.tmp 22, Go.Operand.tmp 23], argTypes := #[38, 38] }, type := 3, pos := "l15_assignment.go:237", after := #[{ on := 3, ground := Go.Ground.data }, { on := 4, ground := Go.Ground.data }, { on := 2, ground := Go.Ground.chain }], guard := none }) rfl (fun Kn hK => ?_) AllReadyH.nil
        first | go_at_call 115 | (go_simp; go_at_call 115)
        (with_reducible refine Calls.mono (K5.out _ HW.out) ?_)
        rintro e V2 ⟨rfl, hw⟩
        have hb : Below V1.heap.size V1 V2 := hw ▸ Below.refl _ _
        clear hw
        try dsimp only
        try simp only [Act.put, List.setIfInBounds_toArray, List.set_cons_zero, List.set_cons_succ]
        replace bQ := bQ.on hb
        replace bB := bB.on hb
        replace HW := Lib.hid (bel_end HW.out hb)
        clear hb
        refine hK.out _ _ (HSp.out _ bQ bB) (fun _ => ?_)
        clear hK Kn
        refine wpAnyH_ready (rs := [6]) (by kernel_rfl) (by simp) ?_
        refine AllReadyH.cons (o := { dst := some 25, op := Go.Op.buildSlice 124 2 #[(0, Go.Operand.tmp 21), (1, Go.Operand.tmp 24)], type := 124, pos := "l15_assignment.go:237", after := #[{ on := 2, ground := Go.Ground.data }, { on := 5, ground := Go.Ground.data }], guard := none }) rfl (fun Kn hK => ?_) AllReadyH.nil
        go_simp
        generalize hX : World.alloc V2 _ = V3
        obtain ⟨g6, hg⟩ : ∃ g, g = V2.heap.size := ⟨_, rfl⟩
        have bn6 : Bk V3 g6 #[.int .i64 C1, .int .i64 C2] 3 := by rw [← hX]; exact Bk.new' hg
        have le6 : W6.heap.size ≤ g6 := by rw [hg]; exact HW.out.size
        have nebQ_6 : gQ ≠ g6 := by have := bQ.lt; omega
        replace bQ : Bk V3 (gQ) #[Value.int .i64 (pI q 0), Value.int .i64 (pI q 1), Value.int .i64 (pI q 2), Value.int .i64 (pI q 3), Value.int .i64 (pI q 4), Value.int .i64 (pI q 5)] 90 := by rw [← hX]; exact bQ.alloc _
        have nebB_6 : g ≠ g6 := by have := bB.lt; omega
        replace bB : Bk V3 (g) #[Value.int .i64 (pI bq 0), Value.int .i64 (pI bq 1), Value.int .i64 (pI bq 2), Value.int .i64 (pI bq 3), Value.int .i64 (pI bq 4), Value.int .i64 (pI bq 5)] 90 := by rw [← hX]; exact bB.alloc _
        try rw [← hg]
        have hb : Below V2.heap.size V2 V3 := by rw [← hX]; exact (Below.refl _ _).alloc (Nat.le_refl _) _
        clear hX hg
        replace HW := Lib.hid (bel_end HW.out hb)
        clear hb
        refine hK.out _ _ (HSp.out _ bQ bB) (fun _ => ?_)
        clear hK Kn
        refine wpAnyH_ready (rs := [7]) (by kernel_rfl) (by simp) ?_
        refine AllReadyH.cons (o := { dst := some 26, op := Go.Op.call { callee := Go.Callee.value (Go.Operand.func 113), args := #[Go.Operand.tmp 25], argTypes := #[124] }, type := 3, pos := "l15_assignment.go:237", after := #[{ on := 6, ground := Go.Ground.data }, { on := 5, ground := Go.Ground.chain }], guard := none }) rfl (fun Kn hK => ?_) AllReadyH.nil
        first | go_at_call 113 | (go_simp; go_at_call 113)
        (with_reducible refine Calls.mono (con_any2 _ g6 C1 C2 bn6) ?_)
        rw [HCR.out]
        rintro e V4 ⟨rfl, hw⟩
        have hb : Below V3.heap.size V3 V4 := hw ▸ Below.refl _ _
        clear hw
        try dsimp only
        try simp only [Act.put, List.setIfInBounds_toArray, List.set_cons_zero, List.set_cons_succ]
        replace bQ := bQ.on hb
        replace bB := bB.on hb
        replace bn6 := bn6.on hb
        replace HW := Lib.hid (bel_end HW.out hb)
        clear hb
        refine hK.out _ _ (HSp.out _ bQ bB) (fun _ => ?_)
        clear hK Kn
        have hS := HSp.out _ bQ bB
        refine wpAnyH_take (i := 8) (oi := { dst := some 27, op := Go.Op.binOp Go.BinOp.lss 3 (Go.Operand.tmp 26) (Go.Operand.const (Go.Value.int Go.IntKind.i64 0)) 3, type := 4, pos := "l15_assignment.go:237", after := #[{ on := 7, ground := Go.Ground.data }], guard := none }) (v := ?_) rfl (by kernel_rfl) (by kernel_rfl) (by kernel_rfl) (fun _ _ _ h => h) (Or.inl ⟨by rfl, ?_⟩) hS ?_
        rotate_left
        · (intro w hSw; have hSw := (HSd.out w).1 hSw; go_split_ands; go_simp) <;> with_reducible rfl
        clear hS
        try simp only [Act.put, List.setIfInBounds_toArray, List.set_cons_zero, List.set_cons_succ]
        refine wpAnyH_done (by kernel_rfl) ?_ _
        go_wp2_with fail
        go_meet
        exact ⟨by rw [HOR.out], HW.out⟩
      case rest =>
        clear bQ bB HW K5 K2
        obtain ⟨rfl, hb⟩ := hcut
        have HBX := Lib.hid hb
        clear hb
        have bQ : Bk wc gQ #[.int .i64 (pI q 0), .int .i64 (pI q 1), .int .i64 (pI q 2), .int .i64 (pI q 3), .int .i64 (pI q 4), .int .i64 (pI q 5)] 90 := BQ6.out.on HBX.out
        have bB : Bk wc g #[.int .i64 (pI bq 0), .int .i64 (pI bq 1), .int .i64 (pI bq 2), .int .i64 (pI bq 3), .int .i64 (pI bq 4), .int .i64 (pI bq 5)] 90 := BB6.out.on HBX.out
        have HRGX := Lib.hid (HRG6.out.kept (grown_none HBX.out) (by simp) (by simp))
        have BRX := Lib.hid (BR6.out.on HBX.out)
        have HNXX := Lib.hid (bel_end HNX6.out HBX.out)
        cases V
        · have BBX := Lib.hid bB
          clear bB bQ
          go_wp2_with fail
          go_roundw
          case rel => exact ⟨_, cnt1, bq, by rw [HL.out], HST.out, HRGX.out, BBX.out, BRX.out, fun p hp hlp => HST2.out p hp hlp, HNXX.out⟩
          case measure => rw [HRGX.out.left_eq, HRG.out.left_eq]; exact hlt
        · have hne : g ≠ gQ := by omega
          have bQ_0 := bQ.cell 0 rfl
          have bQ_1 := bQ.cell 1 rfl
          have bQ_2 := bQ.cell 2 rfl
          have bQ_3 := bQ.cell 3 rfl
          have bQ_4 := bQ.cell 4 rfl
          have bQ_5 := bQ.cell 5 rfl
          have bQ_l := bQ.lt
          have bB_0 := bB.cell 0 rfl
          have bB_1 := bB.cell 1 rfl
          have bB_2 := bB.cell 2 rfl
          have bB_3 := bB.cell 3 rfl
          have bB_4 := bB.cell 4 rfl
          have bB_5 := bB.cell 5 rfl
          have bB_f0 := bB.frozen 0
          have bB_f1 := bB.frozen 1
          have bB_f2 := bB.frozen 2
          have bB_f3 := bB.frozen 3
          have bB_f4 := bB.frozen 4
          have bB_f5 := bB.frozen 5
          have bB_l := bB.lt
          have BBX := Lib.hid bB
          clear bB bQ
          go_wp2_with fail
          generalize hW : World.setCell _ _ _ = W9
          have bB9 : Bk W9 g (arC q) 90 := by rw [← hW]; exact (Bk.set (Bk.set (Bk.set (Bk.set (Bk.set (Bk.set BBX.out 0 _ rfl) 1 _ rfl) 2 _ rfl) 3 _ rfl) 4 _ rfl) 5 _ rfl)
          have hg9 : wc.grownBy W9 (some g) := by rw [← hW]; exact (grown_cell (grown_cell (grown_cell (grown_cell (grown_cell (grown_cell (grown_refl _ _) 0 _) 1 _) 2 _) 3 _) 4 _) 5 _)
          have HRG9 := Lib.hid (HRGX.out.kept hg9 (by simp; omega) (by simp; omega))
          have BR9 := Lib.hid (BRX.out.kept hg9 (by simp; omega))
          have HNX9 : Hid (Below w.heap.size w W9) := Lib.hid (HNXX.out.grown hg9 HNXX.out.size (fun j hj => by injection hj with hj; omega))
          clear hW hg9 bQ_0 bQ_1 bQ_2 bQ_3 bQ_4 bQ_5 bQ_l bB_0 bB_1 bB_2 bB_3 bB_4 bB_5 bB_f0 bB_f1 bB_f2 bB_f3 bB_f4 bB_f5 bB_l
          go_roundw
          case rel => exact ⟨_, cnt1, q, by rw [HS.out], HSQ.out, HRG9.out, bB9, BR9.out, fun p hp hlp => HST2.out p hp hlp, HNX9.out⟩
          case measure => rw [HRG9.out.left_eq, HRG.out.left_eq]; exact hlt
end Go.Proofs.Ytlahgdhofakinaa
