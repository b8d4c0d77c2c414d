/- Contracts of BestCode, the program's and the model's. -/
import Derived.Test.YtpnebnjpeiieaaaPuH
import Derived.Laws.EntriesVeiled
namespace Go.Proofs.Ytpnebnjpeiieaaa
open Go.ChangeShapes Go.WideShapes Go.ChangeAt Go.RowKit Go.Shelf Num
set_option linter.unusedVariables false
set_option linter.unusedSimpArgs false
def bcC (n : Int) : Int := if hasB 1 10 n then 0 else 2
def bcL (n : Int) : List Int := if hasB 1 10 n then (srch n.toNat [] ([], 10)).1 else []
theorem srch_len : ∀ (r : Nat) (p : List Int) (st : List Int × Int), st.1.length ≤ p.length + r → (srch r p st).1.length ≤ p.length + r
  | 0, p, st, h => by
    rw [srch_0]
    unfold stP
    split
    · exact Nat.le_refl _
    · exact h
  | r + 1, p, st, h => by
    rw [srch_succ]
    have h1 := srch_len r (p ++ [0]) st (by rw [List.length_append, List.length_singleton]; omega)
    have h2 := srch_len r (p ++ [1]) (srch r (p ++ [0]) st) (by rw [List.length_append, List.length_singleton] at h1 ⊢; omega)
    rw [List.length_append, List.length_singleton] at h2
    omega
theorem bcL_len (n : Int) : (bcL n).length ≤ 10 := by
  unfold bcL
  split
  · rename_i h
    unfold hasB at h
    simp only [Bool.and_eq_true, decide_eq_true_eq] at h
    have := srch_len n.toNat [] ([], 10) (by simp)
    simp only [List.length_nil] at this
    omega
  · simp

set_option maxRecDepth 100000 in
set_option maxHeartbeats 4000000 in
theorem ibc_any (w : World) (n : Int) :
    Calls Try.prog 33 #[.int .i64 n] w fun e w' => ∃ (a' : Option Addr) (c' : Nat), e = .returned (.tuple #[.slice a' (bcL n).length c', .int .i64 (bcC n)]) ∧ OwnA w' w.heap.size w'.heap.size a' c' (bcL n) ∧ Below w.heap.size w w' := by
  have K1 := Lib.hid (fun (W : World) => are1_any W n 1 10)
  cases hN : hasB 1 10 n
  case false =>
    have H1 : Hid (bcC n = 2) := Lib.hid (by unfold bcC; rw [hN]; rfl)
    have H2 : Hid (bcL n = []) := Lib.hid (by unfold bcL; rw [hN]; rfl)
    go_enter Try.func33, Try.ntmps33
    go_upto_region 2 with fail
    obtain ⟨W, hW⟩ : ∃ X, X = (w.alloc (.cells #[.int .i64 n] 2)).alloc (.cells #[.int .i64 1, .int .i64 10] 52) := ⟨_, rfl⟩
    rw [← hW]
    have bN : Bk W w.heap.size #[.int .i64 n] 2 := by rw [hW]; exact (Bk.new' rfl).alloc _
    have bI : Bk W (w.heap.size + 1) #[.int .i64 1, .int .i64 10] 52 := by rw [hW]; exact Bk.new' (by simp)
    have HB : Hid (Below w.heap.size w W) := Lib.hid (by rw [hW]; exact (by repeat (first | exact Below.refl _ _ | (refine Below.alloc ?_ (by simp <;> omega) _) | (refine Below.setCell ?_ (by simp <;> omega) _) | (refine Below.drew ?_) | (refine bel_drewN ?_ _))))
    clear hW
    have bN_0 := bN.cell 0 rfl
    have bI_0 := bI.cell 0 rfl
    have bI_1 := bI.cell 1 rfl
    go_wp2_with fail
    refine (K1.out _).mono ?_
    rw [hN]
    rintro e w1 ⟨rfl, hb⟩
    replace HB := Lib.hid (bel_end HB.out hb)
    clear hb bN_0 bI_0 bI_1 bI bN
    go_wp2
    go_ret2
    exact ⟨none, 0, by rw [H1.out, H2.out]; rfl, by rw [H2.out]; exact ownA_nil _ _ (Below.size HB.out), HB.out⟩
  case true =>
    have hM := hN
    unfold hasB at hM
    simp only [Bool.and_eq_true, decide_eq_true_eq] at hM
    obtain ⟨n1, n10⟩ := hM
    obtain ⟨k, rfl⟩ : ∃ k : Nat, n = (k : Int) := ⟨n.toNat, by omega⟩
    have H1 : Hid (bcC (k : Int) = 0) := Lib.hid (by unfold bcC; rw [hN]; rfl)
    have H2 : Hid (bcL (k : Int) = (srch k [] ([], 10)).1) := Lib.hid (by unfold bcL; rw [hN, Int.toNat_natCast]; rfl)
    have hmk : ∀ w, (Instr.makeSlice 24 (.int .i64 (k : Int)) (.int .i64 (k : Int))).run Try.prog w = .ok (.slice (some ⟨w.heap.size, 0, none⟩) k k) (w.alloc (.cells (madeCells #[.int .i64 0] k) 2)) := fun w => run_make_row' (P := Try.prog) 24 2 (.int .i64 0) 8 Try.underlying24 info_i64 rfl .i64 .i64 k (by omega) (by omega) w
    go_enter Try.func33, Try.ntmps33
    go_upto_region 2 with fail
    obtain ⟨W, hW⟩ : ∃ X, X = (w.alloc (.cells #[.int .i64 (k : Int)] 2)).alloc (.cells #[.int .i64 1, .int .i64 10] 52) := ⟨_, rfl⟩
    rw [← hW]
    have bN : Bk W w.heap.size #[.int .i64 (k : Int)] 2 := by rw [hW]; exact (Bk.new' rfl).alloc _
    have bI : Bk W (w.heap.size + 1) #[.int .i64 1, .int .i64 10] 52 := by rw [hW]; exact Bk.new' (by simp)
    have HB : Hid (Below w.heap.size w W) := Lib.hid (by rw [hW]; exact (by repeat (first | exact Below.refl _ _ | (refine Below.alloc ?_ (by simp <;> omega) _) | (refine Below.setCell ?_ (by simp <;> omega) _) | (refine Below.drew ?_) | (refine bel_drewN ?_ _))))
    clear hW
    have bN_0 := bN.cell 0 rfl
    have bI_0 := bI.cell 0 rfl
    have bI_1 := bI.cell 1 rfl
    go_wp2_with fail
    refine (K1.out _).mono ?_
    rw [hN]
    rintro e w1 ⟨rfl, hb⟩
    replace bN := bN.on hb
    have q1 := hb.size
    have q0 := bN.lt
    replace HB := Lib.hid (bel_end HB.out hb)
    clear hb bN_0 bI_0 bI_1 bI
    have bN_0 := bN.cell 0 rfl
    go_upto_region 8 with fail
    obtain ⟨W8, hW⟩ : ∃ X, X = (((((w1.alloc (.cells #[.slice none 0 0] 24)).alloc (.cells #[.int .i64 10] 2)).alloc (.cells (madeCells #[.int .i64 0] k) 2)).alloc (.cells #[.slice (some ⟨w1.heap.size + 1 + 1, 0, none⟩) k k] 24)).alloc (.cells #[.nilFunc] 61)) := ⟨_, rfl⟩
    rw [← hW]
    have q8 : W8.heap.size = w1.heap.size + 1 + 1 + 1 + 1 + 1 := by rw [hW]; simp
    have bE : Bk W8 w1.heap.size #[.slice none 0 0] 24 := by rw [hW]; exact ((((Bk.new' rfl).alloc _).alloc _).alloc _).alloc _
    have bL : Bk W8 (w1.heap.size + 1) #[.int .i64 10] 2 := by rw [hW]; exact (((Bk.new' (by simp)).alloc _).alloc _).alloc _
    have bG : Bk W8 (w1.heap.size + 1 + 1) (madeCells #[.int .i64 0] k) 2 := by rw [hW]; exact ((Bk.new' (by simp)).alloc _).alloc _
    have bB : Bk W8 (w1.heap.size + 1 + 1 + 1) #[.slice (some ⟨w1.heap.size + 1 + 1, 0, none⟩) k k] 24 := by rw [hW]; exact (Bk.new' (by simp)).alloc _
    have bS : Bk W8 (w1.heap.size + 1 + 1 + 1 + 1) #[.nilFunc] 61 := by rw [hW]; exact Bk.new' (by simp)
    have hb : Below w1.heap.size w1 W8 := by rw [hW]; exact (by repeat (first | exact Below.refl _ _ | (refine Below.alloc ?_ (by simp <;> omega) _) | (refine Below.setCell ?_ (by simp <;> omega) _) | (refine Below.drew ?_) | (refine bel_drewN ?_ _)))
    replace bN := bN.on hb
    replace HB := Lib.hid (bel_end HB.out hb)
    clear hW hb bN_0 hmk
    obtain ⟨be, hbe⟩ : ∃ x, w1.heap.size = x := ⟨_, rfl⟩
    rw [hbe] at bE bL bG bB bS q1 q0 q8 ⊢
    have HE := Lib.hid hbe
    clear hbe
    have hso : BSo w (be + 1 + 1) w.heap.size (be + 1 + 1 + 1) (be + 1 + 1 + 1 + 1) (be + 1) be (be + 1 + 1 + 1 + 1 + 1) := ⟨Nat.le_refl _, by omega, by omega, by omega, by omega, by omega, by omega⟩
    have bS_0 := bS.cell 0 rfl
    have bS_f := bS.frozen 0
    go_upto_region 9 with fail
    obtain ⟨W9, hW⟩ : ∃ X, X = W8.setCell ⟨be + 1 + 1 + 1 + 1, 0, none⟩ (.func (.func 58) #[] #[.pointer (some ⟨w.heap.size, 0, none⟩), .pointer (some ⟨be + 1 + 1 + 1, 0, none⟩), .pointer (some ⟨be + 1 + 1 + 1 + 1, 0, none⟩), .pointer (some ⟨be + 1, 0, none⟩), .pointer (some ⟨be, 0, none⟩)]) := ⟨_, rfl⟩
    rw [← hW]
    have hrow : W9.ownsRow w.heap.size 2 1 (.slice (some ⟨be + 1 + 1, 0, none⟩) k k) k ((List.replicate k 0).map iv4) := by
      have h0 : W8.ownsRow w.heap.size 2 1 (.slice (some ⟨be + 1 + 1, 0, none⟩) k k) k ((List.replicate k 0).map iv4) := by
        refine ⟨by simp, Or.inr ⟨be + 1 + 1, k, _, rfl, by omega, bG, Nat.le_refl _, by unfold maxLen; omega, by simp [size_madeCells], ?_⟩⟩
        rw [List.take_of_length_le (by simp [size_madeCells])]
        apply List.ext_getElem (by simp [size_madeCells])
        intro i h1 h2
        simp [madeCells, iv4, Nat.mod_one]
      rw [hW]
      exact own_at h0 (fun x e => Below.heap_setCell W8 ⟨be + 1 + 1 + 1 + 1, 0, none⟩ _ x (by simp only [Value.ownBlock, Option.map_some, Option.some.injEq] at e; show x ≠ be + 1 + 1 + 1 + 1; omega))
    have h9 : BS w k (be + 1 + 1) w.heap.size (be + 1 + 1 + 1) (be + 1 + 1 + 1 + 1) (be + 1) be (be + 1 + 1 + 1 + 1 + 1) (List.replicate k 0) ([], 10) W9 :=
      ⟨by rw [hW]; exact HB.out.setCell (by show w.heap.size ≤ be + 1 + 1 + 1 + 1; omega) _, by rw [hW]; exact bN.other (by omega) _ _, by rw [hW]; exact bB.other (by omega) _ _, by rw [hW]; exact bS.set 0 _ rfl, by rw [hW]; exact bL.other (by omega) _ _,
       ⟨none, 0, by rw [hW]; exact bE.other (by omega) _ _, ownA_nil _ _ (by rw [hW]; simp; omega)⟩, hrow, by simp, by rw [hW]; simp; omega⟩
    have KS := srh_any w k (be + 1 + 1) w.heap.size (be + 1 + 1 + 1) (be + 1 + 1 + 1 + 1) (be + 1) be (be + 1 + 1 + 1 + 1 + 1) (by omega) hso k 0 [] (List.replicate k 0) ([], 10) W9 rfl (by omega) (fun i hi => by simp at hi) rfl h9
    rw [show ((0 : Nat) : Int) = 0 from rfl] at KS
    have HK := Lib.hid KS
    have cs := h9.ks.cell 0 rfl
    clear hW hrow h9 KS bN bE bL bG bB bS bS_0 bS_f
    go_wp2_with fail
    refine HK.out.mono ?_
    rintro e w10 ⟨rfl, B', -, hF⟩
    obtain ⟨st, hst⟩ : ∃ x, srch k [] ([], 10) = x := ⟨_, rfl⟩
    rw [hst] at hF H2
    clear hst HK cs
    obtain ⟨a, c, hBe, hO⟩ := hF.ke
    have HO : Hid (OwnA w10 w.heap.size w10.heap.size a c st.1) := Lib.hid (hO.less (by omega))
    have HBF := Lib.hid hF.bel
    have ce := hBe.cell 0 rfl
    clear hF hO hBe
    go_wp2
    go_ret2
    exact ⟨a, c, by rw [H1.out, H2.out]; rfl, by rw [H2.out]; exact HO.out, HBF.out⟩
end Go.Proofs.Ytpnebnjpeiieaaa
