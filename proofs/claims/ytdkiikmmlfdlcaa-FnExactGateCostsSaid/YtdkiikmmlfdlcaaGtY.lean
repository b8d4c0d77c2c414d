/- The walk of the exact law of GateCosts: it returns true and writes nothing that was there. -/
import Derived.Test.YtdkiikmmlfdlcaaGtK
import Derived.Test.YtdkiikmmlfdlcaaGtJ
import Derived.Test.YtdkiikmmlfdlcaaGtX
import Derived.Test.YtdkiikmmlfdlcaaMtF
namespace Go.Proofs.Ytdkiikmmlfdlcaa
open Go.ChangeShapes Go.WideShapes Go.ChangeAt Go.RowKit Go.Shelf Num
set_option linter.unusedVariables false
set_option linter.unusedSimpArgs false

/-- a slice of motions that came in, below a mark of the memory -/
structure MtL (w : World) (L : Nat) (a : Option Addr) (ms : List Mo) : Prop where
  at_ : Mts w L a ms
  le : L ≤ w.heap.size
theorem MtL.of {w : World} {a : Option Addr} {ms : List Mo} (h : Mts w w.heap.size a ms) : MtL w w.heap.size a ms := ⟨h, Nat.le_refl _⟩
theorem MtL.on {w w' : World} {L : Nat} {a : Option Addr} {ms : List Mo} (h : MtL w L a ms) (hb : Below w.heap.size w w') : MtL w' L a ms := ⟨h.at_.below (hb.mono h.le), Nat.le_trans h.le hb.size⟩
theorem MtL.kept {w w' : World} {L l i : Nat} {a : Option Addr} {ms : List Mo} (h : MtL w L a ms) (hk : Kept l i w w') (hd : L ≤ l) (hl : l ≤ w.heap.size) : MtL w' L a ms := ⟨h.at_.below ((hk.below hl).mono hd), Nat.le_trans h.le hk.size⟩
theorem MtL.rd {w : World} {L : Nat} {a : Option Addr} {ms : List Mo} (h : MtL w L a ms) : Mts w w.heap.size a ms := h.at_.more h.le
theorem eqS2_any (w : World) (a b : Option Addr) (c d : Nat) (zss : List (List Int)) (hl : zss.length ≤ 1048576) (hr : ∀ j, j < zss.length → (gR zss j).length ≤ 1048576) (hx : RwL w w.heap.size a zss) (hy : RwL w w.heap.size b zss) :
    Calls Try.prog 51 #[.slice a zss.length c, .slice b zss.length d] w fun e w' => e = .returned (.bool true) ∧ Below w.heap.size w w' :=
  (eqs_any w w.heap.size a b c d zss hl hr hx hy).mono (by rintro e w' ⟨rfl, n, rfl⟩; exact ⟨rfl, bel_drewN (Below.refl _ _) _⟩)
theorem totR_leG {zss : List (List Int)} {M n : Nat} (h : ∀ j, j < n → (gR zss j).length ≤ M) : totR zss n ≤ n * M := by
  induction n with
  | zero => simp [totR]
  | succ n ih =>
    have h1 := ih (fun j hj => h j (by omega))
    have h2 := h n (by omega)
    rw [totR_succ, Nat.succ_mul]
    omega

set_option maxRecDepth 100000 in
set_option maxHeartbeats 8000000 in
theorem lgcs (a0 : Option Addr) (len0 cap0 : Nat) (z0 : List Int) (a1 : Option Addr) (len1 cap1 : Nat) (z1 : List Int) (w : World) (w0 : IsRow5 w a0 len0 cap0 z0) (w1 : IsRow2 w a1 len1 cap1 z1) :
    Calls Try.prog 12 #[.slice a0 len0 cap0, .slice a1 len1 cap1] w fun e w' => e = .returned (.bool true) ∧ Below w.heap.size w w' := by
  obtain ⟨hl0, -, ms, hms, hy⟩ := Mts.of_row5 w0
  obtain ⟨hl1, -, ps, hps, hz⟩ := Cts.of_row2 w1
  subst hms hps
  have HP := Lib.hid (CtL.of hz)
  have HM := Lib.hid (MtL.of hy)
  clear w0 w1 hz hy
  by_cases hbig : (1048576 : Int) < (ms.length : Int)
  case pos =>
    have HS0 : Hid ((if (1048576 : Int) < (ms.length : Int) then (-1 : Int) else 1048576 - (ms.length : Int)) = -1) := Lib.hid (if_pos hbig)
    clear hbig
    have HB := Lib.hid (Below.refl w.heap.size w)
    have q0 := Nat.le_refl w.heap.size
    go_enter Try.func12, Try.ntmps12
    go_wp2_with fail
    (refine (szM_any _ _ _ _ _ hl0 (by omega) (by omega)).mono ?_)
    rw [HS0.out]
    rintro e w_ ⟨rfl, rfl⟩
    go_wp2
    go_ret
    exact ⟨rfl, HB.out⟩
  case neg =>
    have HS0 : Hid ((if (1048576 : Int) < (ms.length : Int) then (-1 : Int) else 1048576 - (ms.length : Int)) = 1048576 - (ms.length : Int)) := Lib.hid (if_neg hbig)
    have hs0 : ¬ (1048576 : Int) - (ms.length : Int) < 0 := by omega
    have hn20 : ms.length ≤ 1048576 := by omega
    clear hbig
    by_cases hbig : 1048576 - (ms.length : Int) < (ps.length : Int)
    case pos =>
      have HS1 : Hid ((if 1048576 - (ms.length : Int) < (ps.length : Int) then (-1 : Int) else 1048576 - (ms.length : Int) - (ps.length : Int)) = -1) := Lib.hid (if_pos hbig)
      clear hbig
      have HB := Lib.hid (Below.refl w.heap.size w)
      have q0 := Nat.le_refl w.heap.size
      go_enter Try.func12, Try.ntmps12
      go_wp2_with fail
      (refine (szM_any _ _ _ _ _ hl0 (by omega) (by omega)).mono ?_)
      rw [HS0.out]
      rintro e w_ ⟨rfl, rfl⟩
      go_wp2_with fail
      (refine (szC_any _ _ _ _ _ hl1 (by omega) (by omega)).mono ?_)
      rw [HS1.out]
      rintro e w_ ⟨rfl, rfl⟩
      go_wp2
      go_ret
      exact ⟨rfl, HB.out⟩
    case neg =>
      have HS1 : Hid ((if 1048576 - (ms.length : Int) < (ps.length : Int) then (-1 : Int) else 1048576 - (ms.length : Int) - (ps.length : Int)) = 1048576 - (ms.length : Int) - (ps.length : Int)) := Lib.hid (if_neg hbig)
      have hs1 : ¬ (1048576 : Int) - (ms.length : Int) - (ps.length : Int) < 0 := by omega
      have hn21 : ps.length ≤ 1048576 := by omega
      clear hbig
      obtain ⟨l6, lr6⟩ := tbR_len ms ps
      obtain ⟨LL, hL⟩ : ∃ q, tbR ms ps = q := ⟨_, rfl⟩
      obtain ⟨C, hC⟩ : ∃ q, ewC ms ps = q := ⟨_, rfl⟩
      rw [hL] at l6 lr6
      have lt36 : totR LL LL.length ≤ 36 := by have := totR_leG (M := 6) lr6; omega
      have HLR : Hid (∀ j, j < LL.length → (gR LL j).length ≤ 1048576) := Lib.hid (fun j hj => by have := lr6 j hj; omega)
      have hflC := flC_len ps
      have hflM := flM_len ms
      have S1 : Hid (∀ (W : World) (b a : Option Addr) (d c : Nat), Mts W W.heap.size b ms → Cts W W.heap.size a ps → Calls Try.prog 48 #[.slice b ms.length d, .slice a ps.length c] W fun e w' => ∃ (p : Option Addr) (c' : Nat) (qs : Nat → Option Addr × Nat), e = .returned (.tuple #[.slice p LL.length c', .int .i64 C]) ∧ OwnR w' W.heap.size w'.heap.size p c' qs LL ∧ Below W.heap.size W w') := Lib.hid (fun W b a d c h1 h2 => by have := sgcs_any W b a d c ms ps (by omega) (by omega) h1 h2; rwa [hL, hC] at this)
      have S2 : Hid (∀ (W : World) (b a : Option Addr) (d c : Nat), Mts W W.heap.size b ms → Cts W W.heap.size a ps → Calls Try.prog 50 #[.slice b ms.length d, .slice a ps.length c] W fun e w' => ∃ (p : Option Addr) (c' : Nat) (qs : Nat → Option Addr × Nat), e = .returned (.tuple #[.slice p LL.length c', .int .i64 C]) ∧ OwnR w' W.heap.size w'.heap.size p c' qs LL ∧ Below W.heap.size W w') := Lib.hid (fun W b a d c h1 h2 => by have := igcs_any W b a d c ms ps (by omega) (by omega) h1 h2; rwa [hL, hC] at this)
      clear hL hC lr6
      have HB := Lib.hid (Below.refl w.heap.size w)
      have q0 := Nat.le_refl w.heap.size
      go_enter Try.func12, Try.ntmps12
      go_wp2_with fail
      (refine (szM_any _ _ _ _ _ hl0 (by omega) (by omega)).mono ?_)
      rw [HS0.out]
      rintro e w_ ⟨rfl, rfl⟩
      go_wp2_with fail
      (refine (szC_any _ _ _ _ _ hl1 (by omega) (by omega)).mono ?_)
      rw [HS1.out]
      rintro e w_ ⟨rfl, rfl⟩
      go_wp2_with fail
      (refine (toM_any _ _ _ ms (by omega) HM.out.rd).mono ?_)
      rintro e v1 ⟨gSM, rfl, ho, hb⟩
      replace HP := Lib.hid (HP.out.on hb)
      replace HM := Lib.hid (HM.out.on hb)
      replace HB := Lib.hid (bel_end HB.out hb)
      have q1 := hb.size
      have SM := Lib.hid ho
      clear ho
      clear hb
      go_wp2_with fail
      (refine (toC_any _ _ _ ps (by omega) HP.out.rd).mono ?_)
      rintro e v2 ⟨gSC, rfl, ho, hb⟩
      replace HP := Lib.hid (HP.out.on hb)
      replace HM := Lib.hid (HM.out.on hb)
      replace SM := Lib.hid (SM.out.on hb)
      replace HB := Lib.hid (bel_end HB.out hb)
      have q2 := hb.size
      have SC := Lib.hid ho
      clear ho
      clear hb
      go_wp2_with fail
      (refine (S1.out _ _ _ _ _ SM.out.rdM SC.out.rdC).mono ?_)
      rintro e v3 ⟨RSa, RSc, RSq, rfl, ho, hb⟩
      replace HP := Lib.hid (HP.out.on hb)
      replace HM := Lib.hid (HM.out.on hb)
      replace SM := Lib.hid (SM.out.on hb)
      replace SC := Lib.hid (SC.out.on hb)
      replace HB := Lib.hid (bel_end HB.out hb)
      have q3 := hb.size
      have RS := Lib.hid ho
      clear ho
      clear hb
      clear SM SC
      go_wp2_with fail
      (refine (toM_any _ _ _ ms (by omega) HM.out.rd).mono ?_)
      rintro e v4 ⟨gXM, rfl, ho, hb⟩
      replace HP := Lib.hid (HP.out.on hb)
      replace HM := Lib.hid (HM.out.on hb)
      replace RS := Lib.hid (RS.out.on hb)
      replace HB := Lib.hid (bel_end HB.out hb)
      have q4 := hb.size
      have XM := Lib.hid ho
      clear ho
      clear hb
      go_wp2_with fail
      (refine (toC_any _ _ _ ps (by omega) HP.out.rd).mono ?_)
      rintro e v5 ⟨gXC, rfl, ho, hb⟩
      replace HP := Lib.hid (HP.out.on hb)
      replace HM := Lib.hid (HM.out.on hb)
      replace RS := Lib.hid (RS.out.on hb)
      replace XM := Lib.hid (XM.out.on hb)
      replace HB := Lib.hid (bel_end HB.out hb)
      have q5 := hb.size
      have XC := Lib.hid ho
      clear ho
      clear hb
      go_wp2_with fail
      (refine (S2.out _ _ _ _ _ XM.out.rdM XC.out.rdC).mono ?_)
      rintro e v6 ⟨RGa, RGc, RGq, rfl, ho, hb⟩
      replace HP := Lib.hid (HP.out.on hb)
      replace HM := Lib.hid (HM.out.on hb)
      replace RS := Lib.hid (RS.out.on hb)
      replace XM := Lib.hid (XM.out.on hb)
      replace XC := Lib.hid (XC.out.on hb)
      replace HB := Lib.hid (bel_end HB.out hb)
      have q6 := hb.size
      have RG := Lib.hid ho
      clear ho
      clear hb
      go_wp2_with fail
      (refine (eqS2_any _ _ _ _ _ LL (by omega) HLR.out RG.out.rows RS.out.rows).mono ?_)
      rintro e v7 ⟨rfl, hb⟩
      replace HP := Lib.hid (HP.out.on hb)
      replace HM := Lib.hid (HM.out.on hb)
      replace RS := Lib.hid (RS.out.on hb)
      replace XM := Lib.hid (XM.out.on hb)
      replace XC := Lib.hid (XC.out.on hb)
      replace RG := Lib.hid (RG.out.on hb)
      replace HB := Lib.hid (bel_end HB.out hb)
      have q7 := hb.size
      clear hb
      go_wp2_with fail
      (refine (toM_any _ _ _ ms (by omega) HM.out.rd).mono ?_)
      rintro e v8 ⟨gCM, rfl, ho, hb⟩
      replace HP := Lib.hid (HP.out.on hb)
      replace HM := Lib.hid (HM.out.on hb)
      replace RS := Lib.hid (RS.out.on hb)
      replace XM := Lib.hid (XM.out.on hb)
      replace XC := Lib.hid (XC.out.on hb)
      replace RG := Lib.hid (RG.out.on hb)
      replace HB := Lib.hid (bel_end HB.out hb)
      have q8 := hb.size
      have CM := Lib.hid ho
      clear ho
      clear hb
      go_wp2_with fail
      (refine (eqM_any _ _ _ _ _ ms (by omega) XM.out.rdM CM.out.rdM).mono ?_)
      rintro e v9 ⟨rfl, hb⟩
      replace HP := Lib.hid (HP.out.on hb)
      replace HM := Lib.hid (HM.out.on hb)
      replace RS := Lib.hid (RS.out.on hb)
      replace XM := Lib.hid (XM.out.on hb)
      replace XC := Lib.hid (XC.out.on hb)
      replace RG := Lib.hid (RG.out.on hb)
      replace CM := Lib.hid (CM.out.on hb)
      replace HB := Lib.hid (bel_end HB.out hb)
      have q9 := hb.size
      clear hb
      clear CM
      go_wp2_with fail
      (refine (toC_any _ _ _ ps (by omega) HP.out.rd).mono ?_)
      rintro e v10 ⟨gCC, rfl, ho, hb⟩
      replace HP := Lib.hid (HP.out.on hb)
      replace HM := Lib.hid (HM.out.on hb)
      replace RS := Lib.hid (RS.out.on hb)
      replace XM := Lib.hid (XM.out.on hb)
      replace XC := Lib.hid (XC.out.on hb)
      replace RG := Lib.hid (RG.out.on hb)
      replace HB := Lib.hid (bel_end HB.out hb)
      have q10 := hb.size
      have CC := Lib.hid ho
      clear ho
      clear hb
      go_wp2_with fail
      (refine (eqC_any _ _ _ _ _ ps (by omega) XC.out.rdC CC.out.rdC).mono ?_)
      rintro e v11 ⟨rfl, hb⟩
      replace HP := Lib.hid (HP.out.on hb)
      replace HM := Lib.hid (HM.out.on hb)
      replace RS := Lib.hid (RS.out.on hb)
      replace XM := Lib.hid (XM.out.on hb)
      replace XC := Lib.hid (XC.out.on hb)
      replace RG := Lib.hid (RG.out.on hb)
      replace CC := Lib.hid (CC.out.on hb)
      replace HB := Lib.hid (bel_end HB.out hb)
      have q11 := hb.size
      clear hb
      clear CC
      go_wp2_with fail
      (refine (mkM_any _ _ _ _ _ _ _ 1 XM.out (by omega) (by omega) (by omega) (by omega)).mono ?_)
      rintro e v12 ⟨rfl, hk⟩
      replace HP := Lib.hid (HP.out.kept hk (by omega) (by omega))
      replace HM := Lib.hid (HM.out.kept hk (by omega) (by omega))
      replace RS := Lib.hid (RS.out.kept hk (by omega))
      replace XC := Lib.hid (XC.out.kept hk (by omega))
      replace RG := Lib.hid (RG.out.kept hk (by omega))
      replace HB := Lib.hid (HB.out.trans ((hk.below (by omega)).mono (by omega)))
      have q12 := hk.size
      clear hk
      clear XM
      go_wp2_with fail
      (refine (mkC_any _ _ _ _ _ _ _ _ XC.out (by omega) (by omega) (by omega) (by omega)).mono ?_)
      rintro e v13 ⟨rfl, hk⟩
      replace HP := Lib.hid (HP.out.kept hk (by omega) (by omega))
      replace HM := Lib.hid (HM.out.kept hk (by omega) (by omega))
      replace RS := Lib.hid (RS.out.kept hk (by omega))
      replace RG := Lib.hid (RG.out.kept hk (by omega))
      replace HB := Lib.hid (HB.out.trans ((hk.below (by omega)).mono (by omega)))
      have q13 := hk.size
      clear hk
      clear XC
      go_wp2_with fail
      (refine (eqS2_any _ _ _ _ _ LL (by omega) HLR.out RG.out.rows RS.out.rows).mono ?_)
      rintro e v14 ⟨rfl, hb⟩
      replace HP := Lib.hid (HP.out.on hb)
      replace HM := Lib.hid (HM.out.on hb)
      replace RS := Lib.hid (RS.out.on hb)
      replace RG := Lib.hid (RG.out.on hb)
      replace HB := Lib.hid (bel_end HB.out hb)
      have q14 := hb.size
      clear hb
      go_wp2_with fail
      (refine (mks_any _ _ _ _ _ _ LL 1 RG.out (by omega) (by omega) (by omega) (by omega)).mono ?_)
      rintro e v15 ⟨rfl, ho, hk⟩
      replace HP := Lib.hid (HP.out.kept hk (by omega) (by omega))
      replace HM := Lib.hid (HM.out.kept hk (by omega) (by omega))
      replace RS := Lib.hid (RS.out.kept hk (by omega))
      replace HB := Lib.hid (HB.out.trans ((hk.below (by omega)).mono (by omega)))
      replace RG := Lib.hid ho
      have q15 := hk.size
      clear hk ho
      go_wp2_with fail
      (refine (hds_any _ _ _ _ LL.length LL 1 rfl RG.out.rows (by omega) (by omega) (by omega) (by omega)).mono ?_)
      rintro e w_ ⟨rfl, rfl⟩
      go_wp2_with fail
      (refine (toM_any _ _ _ ms (by omega) HM.out.rd).mono ?_)
      rintro e v16 ⟨gYM, rfl, ho, hb⟩
      replace HP := Lib.hid (HP.out.on hb)
      replace HM := Lib.hid (HM.out.on hb)
      replace RS := Lib.hid (RS.out.on hb)
      replace RG := Lib.hid (RG.out.on hb)
      replace HB := Lib.hid (bel_end HB.out hb)
      have q16 := hb.size
      have YM := Lib.hid ho
      clear ho
      clear hb
      go_wp2_with fail
      (refine (toC_any _ _ _ ps (by omega) HP.out.rd).mono ?_)
      rintro e v17 ⟨gYC, rfl, ho, hb⟩
      replace HP := Lib.hid (HP.out.on hb)
      replace HM := Lib.hid (HM.out.on hb)
      replace RS := Lib.hid (RS.out.on hb)
      replace RG := Lib.hid (RG.out.on hb)
      replace YM := Lib.hid (YM.out.on hb)
      replace HB := Lib.hid (bel_end HB.out hb)
      have q17 := hb.size
      have YC := Lib.hid ho
      clear ho
      clear hb
      go_wp2_with fail
      (refine (S2.out _ _ _ _ _ YM.out.rdM YC.out.rdC).mono ?_)
      rintro e v18 ⟨RHa, RHc, RHq, rfl, ho, hb⟩
      replace HP := Lib.hid (HP.out.on hb)
      replace HM := Lib.hid (HM.out.on hb)
      replace RS := Lib.hid (RS.out.on hb)
      replace RG := Lib.hid (RG.out.on hb)
      replace YM := Lib.hid (YM.out.on hb)
      replace YC := Lib.hid (YC.out.on hb)
      replace HB := Lib.hid (bel_end HB.out hb)
      have q18 := hb.size
      have RH := Lib.hid ho
      clear ho
      clear hb
      clear YM YC
      go_wp2_with fail
      (refine (eqS2_any _ _ _ _ _ LL (by omega) HLR.out RH.out.rows RS.out.rows).mono ?_)
      rintro e v19 ⟨rfl, hb⟩
      replace HP := Lib.hid (HP.out.on hb)
      replace HM := Lib.hid (HM.out.on hb)
      replace RS := Lib.hid (RS.out.on hb)
      replace RG := Lib.hid (RG.out.on hb)
      replace RH := Lib.hid (RH.out.on hb)
      replace HB := Lib.hid (bel_end HB.out hb)
      have q19 := hb.size
      clear hb
      clear RH
      go_wp2_with fail
      (refine (hds_any _ _ _ _ LL.length LL 1 rfl RG.out.rows (by omega) (by omega) (by omega) (by omega)).mono ?_)
      rintro e w_ ⟨rfl, rfl⟩
      go_wp2
      go_ret
      exact ⟨rfl, HB.out⟩
end Go.Proofs.Ytdkiikmmlfdlcaa
