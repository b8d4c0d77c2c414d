/- Contracts of the program's small functions of pairings: six columns by value. -/
import Derived.Test.YtlahgdhofakinaaPrA
import Derived.Test.YtlahgdhofakinaaPrN
import Derived.Test.YtlahgdhofakinaaPuT
import Derived.Test.YtlahgdhofakinaaDrw
namespace Go.Proofs.Ytlahgdhofakinaa
open Go.ChangeShapes Go.WideShapes Go.ChangeAt Go.RowKit Go.Shelf Num
set_option linter.unusedVariables false
set_option linter.unusedSimpArgs false
/-- six columns as cells, and as a value -/
def arC (q : List Int) : Array Value := #[.int .i64 (pI q 0), .int .i64 (pI q 1), .int .i64 (pI q 2), .int .i64 (pI q 3), .int .i64 (pI q 4), .int .i64 (pI q 5)]
def arV (q : List Int) : Value := .agg (arC q)
theorem lt6 {P : Nat → Prop} (h0 : P 0) (h1 : P 1) (h2 : P 2) (h3 : P 3) (h4 : P 4) (h5 : P 5) : ∀ j, j < 6 → P j := fun j hj => by
  match j, hj with
  | 0, _ => exact h0
  | 1, _ => exact h1
  | 2, _ => exact h2
  | 3, _ => exact h3
  | 4, _ => exact h4
  | 5, _ => exact h5
theorem arC_at (q : List Int) : ∀ j, j < 6 → (arC q)[j]? = some (.int .i64 (pI q j)) := lt6 rfl rfl rfl rfl rfl rfl
theorem arC_set {q : List Int} (hq : q.length = 6) (c : Int) : ∀ r, r < 6 → (arC q).setIfInBounds r (.int .i64 c) = arC (q.set r c) := by
  apply lt6 <;> (unfold arC; simp [pI_set, hq])
theorem ar_ints {W : World} {g : Nat} {q : List Int} {t : TypeId} (h : Bk W g (arC q) t) (hq : q.length = 6) : Ints .i64 W W.heap.size (some ⟨g, 0, none⟩) q := fun _ => ⟨g, 0, rfl, h.lt, fun j hj => by
  rw [Nat.zero_add]
  exact h.cell j (arC_at q j (by omega))⟩
theorem ar_inj {p q : List Int} (hp : p.length = 6) (hq : q.length = 6) (h : arC p = arC q) : p = q := by
  unfold arC at h
  simp only [Array.mk.injEq, List.cons.injEq, Value.int.injEq, true_and, and_true] at h
  obtain ⟨h0, h1, h2, h3, h4, h5⟩ := h
  exact pI_ext (by omega) (fun j hj => lt6 (P := fun j => pI p j = pI q j) h0 h1 h2 h3 h4 h5 j (by omega))
def upL : Nat → List Int
  | 0 => [0, 0, 0, 0, 0, 0]
  | k + 1 => (upL k).set k (-1)
theorem upL_len : ∀ k, (upL k).length = 6
  | 0 => rfl
  | k + 1 => by unfold upL; rw [List.length_set]; exact upL_len k
theorem upL_6 : upL 6 = un6 := rfl
set_option maxRecDepth 100000 in
set_option maxHeartbeats 2000000 in
theorem upa_any (w : World) :
    Calls Try.prog 85 #[] w fun e w' => e = .returned (arV un6) ∧ Below w.heap.size w w' := by
  go_enter Try.func85, Try.ntmps85
  go_wp2_with fail
  generalize hW : World.alloc _ _ = W
  have b0 : Bk W w.heap.size (arC (upL 0)) 90 := by show Bk W w.heap.size #[.int .i64 0, .int .i64 0, .int .i64 0, .int .i64 0, .int .i64 0, .int .i64 0] _; rw [← hW]; repeat (first | (refine Bk.new' ?_; (simp; done)) | refine Bk.alloc ?_ _)
  have b1 : Bk W (w.heap.size + 1) (arC (upL 0)) 90 := by show Bk W (w.heap.size + 1) #[.int .i64 0, .int .i64 0, .int .i64 0, .int .i64 0, .int .i64 0, .int .i64 0] _; rw [← hW]; repeat (first | (refine Bk.new' ?_; (simp; done)) | refine Bk.alloc ?_ _)
  have HB : Hid (Below w.heap.size w W) := Lib.hid (by rw [← hW]; exact (by repeat (first | exact Below.refl _ _ | (refine Below.alloc ?_ (by simp <;> omega) _) | (refine Below.setCell ?_ (by simp <;> omega) _) | (refine Below.drew ?_) | (refine bel_drewN ?_ _))))
  clear hW
  have B0 := Lib.hid b0
  clear b0
  go_loopw [3] (fun i wr => ∃ k : Nat, k ≤ 6 ∧ i = .int .i64 k ∧ Bk wr (w.heap.size + 1) (arC (upL k)) 90 ∧ W.grownBy wr (some (w.heap.size + 1))) (fun i _ => 6 - (intOf i).toNat)
  case atStart => exact ⟨0, by omega, rfl, b1, grown_refl _ _⟩
  case round =>
    clear b1
    obtain ⟨k, hk, rfl, b1, hgr⟩ := hrel
    have HG := Lib.hid hgr
    clear hgr
    by_cases hlt : k < 6
    · have f0 := b1.cell k (arC_at _ k hlt)
      have f1 := b1.frozen k
      have f2 := b1.lt
      have HF : Hid (Bk (wr.setCell ⟨w.heap.size + 1, k, none⟩ (.int .i64 (-1))) (w.heap.size + 1) (arC (upL (k + 1))) 90) := Lib.hid (b1.set k _ (arC_set (upL_len k) (-1) k hlt))
      clear b1
      go_wp2_with fail
      go_roundw
      case rel => exact ⟨k + 1, by omega, by go_num, HF.out, grown_cell HG.out _ _⟩
      case measure => simp [intOf] <;> omega
    · obtain rfl : k = 6 := by omega
      rw [upL_6] at b1
      have b0 := B0.out.kept HG.out (by simp)
      replace HB := Lib.hid (HB.out.trans (below_of_grown HG.out (by omega) HB.out.size))
      replace b1 : Bk wr (w.heap.size + 1) #[.int .i64 (-1), .int .i64 (-1), .int .i64 (-1), .int .i64 (-1), .int .i64 (-1), .int .i64 (-1)] 90 := b1
      replace b0 : Bk wr w.heap.size #[.int .i64 0, .int .i64 0, .int .i64 0, .int .i64 0, .int .i64 0, .int .i64 0] 90 := b0
      have b1_0 := b1.cell 0 rfl
      have b1_1 := b1.cell 1 rfl
      have b1_2 := b1.cell 2 rfl
      have b1_3 := b1.cell 3 rfl
      have b1_4 := b1.cell 4 rfl
      have b1_5 := b1.cell 5 rfl
      have b1_f0 := b1.frozen 0
      have b1_f1 := b1.frozen 1
      have b1_f2 := b1.frozen 2
      have b1_f3 := b1.frozen 3
      have b1_f4 := b1.frozen 4
      have b1_f5 := b1.frozen 5
      have b1_l := b1.lt
      have b0_0 := b0.cell 0 rfl
      have b0_1 := b0.cell 1 rfl
      have b0_2 := b0.cell 2 rfl
      have b0_3 := b0.cell 3 rfl
      have b0_4 := b0.cell 4 rfl
      have b0_5 := b0.cell 5 rfl
      have b0_f0 := b0.frozen 0
      have b0_f1 := b0.frozen 1
      have b0_f2 := b0.frozen 2
      have b0_f3 := b0.frozen 3
      have b0_f4 := b0.frozen 4
      have b0_f5 := b0.frozen 5
      have b0_l := b0.lt
      clear b1 b0 HG
      go_wp2_with fail
      (try simp only [Exit.inBlock, Exit.then])
      exact bodyPost_ret (v := arV un6) (by simp [arV, arC, results, Try.results85, go_sem, b0_0, b0_1, b0_2, b0_3, b0_4, b0_5, b0_f0, b0_f1, b0_f2, b0_f3, b0_f4, b0_f5, b0_l]; (try exact ⟨rfl, rfl, rfl, rfl, rfl, rfl⟩)) rfl ⟨rfl, (by repeat (first | exact HB.out | (refine Below.setCell ?_ (by simp <;> omega) _) | (refine Below.alloc ?_ (by simp <;> omega) _) | exact Below.refl _ _))⟩
/-- slices.Index and slices.Contains -/
theorem six_any (w : World) (B : Nat) (a : Option Addr) (cap n : Nat) (L : List Int) (x : Int) (hn : L.length = n) (hl : n ≤ 9223372036854775807) (hz : Ints .i64 w B a L) :
    Calls Try.prog 118 #[.slice a n cap, .int .i64 x] w fun e w' => (∃ i : Int, e = .returned (.int .i64 i) ∧ (0 ≤ i ↔ x ∈ L)) ∧ w = w' := by
  subst hn
  go_enter Try.func118, Try.ntmps118
  go_wp2
  go_loop [8] (fun i => ∃ k : Nat, k ≤ L.length ∧ i = .int .i64 k ∧ ∀ j, j < k → L.getD j 0 ≠ x) (fun i => L.length - (intOf i).toNat)
  case atStart => exact ⟨0, by omega, rfl, fun j hj => by omega⟩
  case round =>
    obtain ⟨k, hk, rfl, hr⟩ := hrel
    have HR := Lib.hid hr
    clear hr
    by_cases hlt : k < L.length
    · obtain ⟨b, off, rfl, hB, hc⟩ := hz.at_ hlt
      clear hz
      obtain ⟨y, hy⟩ : ∃ y, L.getD k 0 = y := ⟨_, rfl⟩
      rw [hy] at hc
      have HY := Lib.hid hy
      clear hy
      by_cases he : x = y
      · subst he
        go_wp2
        go_ret
        exact ⟨⟨k, rfl, ⟨fun _ => of_decide_eq_true (memD_at hlt HY.out), fun _ => by omega⟩⟩, rfl⟩
      · have hef : (x == y) = false := by simpa using he
        go_wp2
        go_round
        case rel => exact ⟨k + 1, by omega, by go_num, fun j hj => by
          by_cases hjk : j = k
          · rw [hjk, HY.out]; exact fun e => he e.symm
          · exact HR.out j (by omega)⟩
        case measure => simp [intOf] <;> omega
    · obtain rfl : k = L.length := by omega
      clear hz
      go_wp2
      go_ret
      exact ⟨⟨-1, rfl, ⟨fun h => by omega, fun h => absurd h (of_decide_eq_false (memD_not HR.out))⟩⟩, rfl⟩
theorem sco_any (w : World) (B : Nat) (a : Option Addr) (cap n : Nat) (L : List Int) (x : Int) (hn : L.length = n) (hl : n ≤ 9223372036854775807) (hz : Ints .i64 w B a L) :
    Calls Try.prog 92 #[.slice a n cap, .int .i64 x] w fun e w' => e = .returned (.bool (decide (x ∈ L))) ∧ w = w' := by
  have K := Lib.hid (six_any w B a cap n L x hn hl hz)
  clear hz
  go_enter Try.func92, Try.ntmps92
  go_wp2_with fail
  refine K.out.mono ?_
  rintro e w' ⟨⟨i, rfl, hi⟩, rfl⟩
  have HI := Lib.hid hi
  clear hi K
  go_wp2_with fail
  go_ret
  exact ⟨ret_bool (by rw [decide_eq_decide]; exact HI.out), rfl⟩
/-- isFree -/
def frB (q : List Int) (r : Nat) (c : Int) : Bool := decide (pI q r = -1) && !decide (c ∈ q)
set_option maxHeartbeats 1000000 in
theorem isf_any (w : World) (q : List Int) (r : Nat) (c : Int) (hq : q.length = 6) (hr : r < 6) :
    Calls Try.prog 86 #[arV q, .int .i64 r, .int .i64 c] w fun e w' => e = .returned (.bool (frB q r c)) ∧ Below w.heap.size w w' := by
  have HF : Hid (frB q r c = (decide (pI q r = -1) && !decide (c ∈ q))) := Lib.hid rfl
  have HQ := Lib.hid hq
  have H1 : ∀ W : World, Bk W w.heap.size (arC q) 90 → Calls Try.prog 92 #[.slice (some ⟨w.heap.size, 0, none⟩) 6 6, .int .i64 c] W fun e w' => e = .returned (.bool (decide (c ∈ q))) ∧ W = w' := fun W hb => sco_any W _ _ 6 6 q c hq (by decide) (ar_ints hb hq)
  have K := Lib.hid H1
  clear H1 hq
  obtain ⟨M, hM⟩ : ∃ M, decide (c ∈ q) = M := ⟨_, rfl⟩
  rw [hM] at K HF
  clear hM
  have HA := Lib.hid (arC_at q r hr)
  unfold arV
  obtain ⟨AC, hAC⟩ : ∃ AC, arC q = AC := ⟨_, rfl⟩
  have HAC := Lib.hid hAC
  rw [hAC] at K HA ⊢
  have hAC2 := hAC
  unfold arC at hAC2
  subst hAC2
  clear hAC
  go_enter Try.func86, Try.ntmps86
  go_upto_region 1 with fail
  generalize hW : World.alloc _ _ = W
  have b0 : Bk W w.heap.size #[.int .i64 (pI q 0), .int .i64 (pI q 1), .int .i64 (pI q 2), .int .i64 (pI q 3), .int .i64 (pI q 4), .int .i64 (pI q 5)] 90 := by rw [← hW]; exact Bk.new' rfl
  have HB : Hid (Below w.heap.size w W) := Lib.hid (by rw [← hW]; exact (by repeat (first | exact Below.refl _ _ | (refine Below.alloc ?_ (by simp <;> omega) _) | (refine Below.setCell ?_ (by simp <;> omega) _) | (refine Below.drew ?_) | (refine bel_drewN ?_ _))))
  clear hW
  have hc := b0.cell r HA.out
  replace K := Lib.hid (K.out W b0)
  have hl := b0.lt
  clear b0
  by_cases h : pI q r = -1
  · rw [decide_eq_true h, Bool.true_and] at HF
    obtain ⟨x, hx⟩ : ∃ x, pI q r = x := ⟨_, rfl⟩
    rw [hx] at hc h
    subst h
    clear hx
    go_wp2_with (go_at_call 92; (with_reducible refine Calls.mono K.out ?_); rintro e w' ⟨rfl, rfl⟩)
    go_ret
    exact ⟨ret_bool HF.out.symm, HB.out⟩
  · rw [decide_eq_false h, Bool.false_and] at HF
    obtain ⟨x, hx⟩ : ∃ x, pI q r = x := ⟨_, rfl⟩
    rw [hx] at hc h
    have hd : (x == -1) = false := by simpa using h
    clear hx
    go_wp2
    go_ret
    exact ⟨ret_bool HF.out.symm, HB.out⟩
set_option maxRecDepth 100000 in
set_option maxHeartbeats 4000000 in
theorem wit_any (w : World) (q : List Int) (r : Nat) (c : Int) (hq : q.length = 6) (hr : r < 6) :
    Calls Try.prog 87 #[arV q, .int .i64 r, .int .i64 c] w fun e w' => e = .returned (arV (q.set r c)) ∧ Below w.heap.size w w' := by
  have HS := Lib.hid (arC_set hq c r hr)
  have HA := Lib.hid (arC_at q r hr)
  clear hq
  unfold arV
  obtain ⟨AC, hAC⟩ : ∃ AC, arC q = AC := ⟨_, rfl⟩
  rw [hAC] at HS HA ⊢
  unfold arC at hAC
  subst hAC
  go_enter Try.func87, Try.ntmps87
  go_upto_region 1 with fail
  generalize hW : World.alloc _ _ = W
  have b0 : Bk W w.heap.size #[.int .i64 (pI q 0), .int .i64 (pI q 1), .int .i64 (pI q 2), .int .i64 (pI q 3), .int .i64 (pI q 4), .int .i64 (pI q 5)] 90 := by rw [← hW]; exact (Bk.new' rfl).alloc _
  have bR : Bk W (w.heap.size + 1) #[.int .i64 0, .int .i64 0, .int .i64 0, .int .i64 0, .int .i64 0, .int .i64 0] 90 := by rw [← hW]; exact Bk.new' (by simp)
  have HB : Hid (Below w.heap.size w W) := Lib.hid (by rw [← hW]; exact (by repeat (first | exact Below.refl _ _ | (refine Below.alloc ?_ (by simp <;> omega) _) | (refine Below.setCell ?_ (by simp <;> omega) _) | (refine Below.drew ?_) | (refine bel_drewN ?_ _))))
  clear hW
  have hc := b0.cell r HA.out
  have hf := b0.frozen r
  have hl := b0.lt
  have H0 : Hid (Bk (W.setCell ⟨w.heap.size, r, none⟩ (.int .i64 c)) w.heap.size (arC (q.set r c)) 90) := Lib.hid (b0.set r _ HS.out)
  have HR : Hid (Bk (W.setCell ⟨w.heap.size, r, none⟩ (.int .i64 c)) (w.heap.size + 1) #[.int .i64 0, .int .i64 0, .int .i64 0, .int .i64 0, .int .i64 0, .int .i64 0] 90) := Lib.hid (bR.other (by omega) r _)
  clear b0 bR
  go_upto_region 2 with fail
  clear hc hf hl
  generalize hW : World.setCell _ _ _ = W2
  rw [hW] at H0 HR
  replace HB : Hid (Below w.heap.size w W2) := Lib.hid (by rw [← hW]; exact HB.out.setCell (by simp) _)
  clear hW HS HA
  have b1 := H0.out
  have b0 := HR.out
  unfold arC at b1
  have b1_0 := b1.cell 0 rfl
  have b1_1 := b1.cell 1 rfl
  have b1_2 := b1.cell 2 rfl
  have b1_3 := b1.cell 3 rfl
  have b1_4 := b1.cell 4 rfl
  have b1_5 := b1.cell 5 rfl
  have b1_f0 := b1.frozen 0
  have b1_f1 := b1.frozen 1
  have b1_f2 := b1.frozen 2
  have b1_f3 := b1.frozen 3
  have b1_f4 := b1.frozen 4
  have b1_f5 := b1.frozen 5
  have b1_l := b1.lt
  have b0_0 := b0.cell 0 rfl
  have b0_1 := b0.cell 1 rfl
  have b0_2 := b0.cell 2 rfl
  have b0_3 := b0.cell 3 rfl
  have b0_4 := b0.cell 4 rfl
  have b0_5 := b0.cell 5 rfl
  have b0_f0 := b0.frozen 0
  have b0_f1 := b0.frozen 1
  have b0_f2 := b0.frozen 2
  have b0_f3 := b0.frozen 3
  have b0_f4 := b0.frozen 4
  have b0_f5 := b0.frozen 5
  have b0_l := b0.lt
  clear b1 b0 H0 HR
  go_wp2_with fail
  exact bodyPost_ret (v := .agg (arC (q.set r c))) (by unfold arC; simp [results, Try.results87, go_sem, b0_0, b0_1, b0_2, b0_3, b0_4, b0_5, b0_f0, b0_f1, b0_f2, b0_f3, b0_f4, b0_f5, b0_l]) rfl ⟨rfl, (by repeat (first | exact HB.out | (refine Below.setCell ?_ (by simp <;> omega) _) | (refine Below.alloc ?_ (by simp <;> omega) _) | exact Below.refl _ _))⟩
end Go.Proofs.Ytlahgdhofakinaa
