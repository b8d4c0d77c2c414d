/- Contracts of weights and of clear echoes, the program's and the model's. -/
import Derived.Test.YthfaejhiabdkbabMfA
namespace Go.Proofs.Ythfaejhiabdkbab
open Go.ChangeShapes Go.WideShapes Go.ChangeAt Go.RowKit Go.Shelf Num
set_option linter.unusedVariables false
set_option linter.unusedSimpArgs false
set_option maxHeartbeats 1000000 in
theorem iwt_any (w : World) (B : Nat) (a : Option Addr) (cap : Nat) (ps : List Int) (h : sigB ps = true) (hz : Ints .i64 w B a ps) :
    Calls Try.prog 74 #[.slice a ps.length cap] w fun e w' => e = .returned (.int .i64 (wgV ps)) ∧ w = w' := by
  obtain ⟨h4, h1⟩ := sigB_t h
  have H1 := Lib.hid h1
  have HW : Hid (∀ k, 0 ≤ wgT ps k ∧ wgT ps k ≤ 1000 * k) := Lib.hid (fun k => wgT_bd h1 k)
  clear h1 h
  go_enter Try.func74, Try.ntmps74
  go_wp2
  go_loop [3, 8] (fun s i => ∃ k : Nat, k ≤ ps.length ∧ i = .int .i64 k ∧ s = .int .i64 (wgT ps k)) (fun _ i => ps.length - (intOf i).toNat)
  case atStart => exact ⟨0, by omega, rfl, rfl⟩
  case round =>
    obtain ⟨k, hk, rfl, rfl⟩ := hrel
    by_cases hlt : k < ps.length
    · obtain ⟨b1, o1, rfl, -, hc1⟩ := hz.at_ hlt
      obtain ⟨x1, x2⟩ := H1.out k
      obtain ⟨s1, s2⟩ := HW.out k
      have hs := wgT_succ ps k
      obtain ⟨x, hx⟩ : ∃ x, ps.getD k 0 = x := ⟨_, rfl⟩
      obtain ⟨S, hS⟩ : ∃ S, wgT ps k = S := ⟨_, rfl⟩
      rw [hx] at hc1 hs x1 x2
      rw [hS] at hs s1 s2 ⊢
      have HS := Lib.hid hs
      clear hx hS hs hz
      go_wp2_with (go_at_call 59; refine (abs_any _ (by omega) (by omega) _).mono ?_; rintro e w' ⟨rfl, rfl⟩)
      go_round
      case rel => exact ⟨k + 1, by omega, by go_num, by rw [HS.out]⟩
      case measure => simp [intOf]; omega
    · obtain rfl : k = ps.length := by omega
      clear hz
      go_wp2
      go_ret
      exact ⟨rfl, rfl⟩
theorem ild_any (w : World) (B : Nat) (a : Option Addr) (cap : Nat) (ps : List Int) (h : sigB ps = true) (hc : ps.length ≤ cap) (hz : Ints .i64 w B a ps) :
    Calls Try.prog 60 #[.slice a ps.length cap] w fun e w' => e = .returned (.int .i64 (cor ps 0 - sideV ps)) ∧ w = w' := by
  obtain ⟨h4, h1⟩ := sigB_t h
  obtain ⟨l1, l2, l3, l4⟩ := lead_bd h
  have K1 := Lib.hid (cra_any w B a cap 0 ps (Nat.zero_le _) h4 hc h1 hz)
  have K2 := Lib.hid (isd_any w B a cap ps h4 hc h1 hz)
  clear hz h1 h
  obtain ⟨E, hE⟩ : ∃ E, cor ps 0 = E := ⟨_, rfl⟩
  obtain ⟨F, hF⟩ : ∃ F, sideV ps = F := ⟨_, rfl⟩
  rw [hE] at K1 l1 l2 l3 ⊢
  rw [hF] at K2 l1 l2 l4 ⊢
  clear hE hF
  go_enter Try.func60, Try.ntmps60
  go_wp2_with (first | (go_at_call 67; refine K1.out.mono ?_; rintro e w' ⟨rfl, rfl⟩) | (go_at_call 73; refine K2.out.mono ?_; rintro e w' ⟨rfl, rfl⟩))
  go_ret
  exact ⟨rfl, rfl⟩
theorem noise_bd {ps : List Int} (h : sigB ps = true) {no : Int} (h0 : 0 ≤ no) (h1 : no ≤ 1000) : 0 ≤ 2 * no * wgV ps ∧ 2 * no * wgV ps ≤ 800000000 := by
  obtain ⟨w0, w1⟩ := wgV_bd h
  have := mul_abs (a := 2 * no) (n := wgV ps) (A := 2000) (N := 400000) (by omega) (by omega)
  have h2 : 0 ≤ 2 * no * wgV ps := Int.mul_nonneg (by omega) w0
  omega
theorem clear_bd {ps : List Int} (h : sigB ps = true) {g : Int} (h1 : -1000 ≤ g) (h2 : g ≤ 1000) : 0 ≤ (g.natAbs : Int) * (cor ps 0 - sideV ps) ∧ (g.natAbs : Int) * (cor ps 0 - sideV ps) ≤ 400000000000 := by
  obtain ⟨l1, l2, -, -⟩ := lead_bd h
  have := mul_abs (a := (g.natAbs : Int)) (n := cor ps 0 - sideV ps) (A := 1000) (N := 400000000) (by omega) (by omega)
  have h3 : 0 ≤ (g.natAbs : Int) * (cor ps 0 - sideV ps) := Int.mul_nonneg (by omega) l1
  omega
theorem ids_any (w : World) (B : Nat) (a : Option Addr) (cap : Nat) (ps : List Int) (no : Int) (h : sigB ps = true) (h0 : 0 ≤ no) (h1 : no ≤ 1000) (hz : Ints .i64 w B a ps) :
    Calls Try.prog 61 #[.slice a ps.length cap, .int .i64 no] w fun e w' => e = .returned (.int .i64 (2 * no * wgV ps)) ∧ w = w' := by
  obtain ⟨n1, n2⟩ := noise_bd h h0 h1
  have K1 := Lib.hid (iwt_any w B a cap ps h hz)
  clear hz h
  obtain ⟨V, hV⟩ : ∃ V, wgV ps = V := ⟨_, rfl⟩
  rw [hV] at K1 n1 n2 ⊢
  clear hV
  have e1 : IntKind.wrap .i64 (2 * no * V) = 2 * no * V := IntWalk.i64_in _ (by omega)
  go_enter Try.func61, Try.ntmps61
  go_wp2_with (go_at_call 74; refine K1.out.mono ?_; rintro e w' ⟨rfl, rfl⟩)
  go_ret
  exact ⟨rfl, rfl⟩
set_option maxHeartbeats 1000000 in
theorem icl_any (w : World) (a : Option Addr) (cap : Nat) (ps : List Int) (g no : Int) (hl : ps.length ≤ 9223372036854775807) (hc : ps.length ≤ cap) (hz : Ints .i64 w w.heap.size a ps) :
    Calls Try.prog 26 #[.slice a ps.length cap, .int .i64 g, .int .i64 no] w fun e w' => e = .returned (.tuple #[.bool (clR ps g no), .int .i64 (clC ps g no)]) ∧ Below w.heap.size w w' := by
  have HZ := Lib.hid hz
  clear hz
  cases hs : sigB ps
  case false =>
    have H2 : Hid (clC ps g no = 1) := Lib.hid (by unfold clC; rw [hs]; rfl)
    have H1 : Hid (clR ps g no = false) := Lib.hid (by unfold clR; rw [H2.out]; rfl)
    go_enter Try.func26, Try.ntmps26
    go_wp2_with fail
    refine (isg_any _ _ _ ps hl HZ.out).mono ?_
    rw [hs]
    rintro e w1 ⟨rfl, hb⟩
    have HB := Lib.hid hb
    clear hb
    go_wp2
    go_ret2
    exact ⟨by rw [H1.out, H2.out]; rfl, HB.out⟩
  case true =>
    have HS := Lib.hid hs
    cases hg : hasB (-1000) 1000 g
    case false =>
      have H2 : Hid (clC ps g no = 2) := Lib.hid (by unfold clC; rw [hs, hg]; rfl)
      have H1 : Hid (clR ps g no = false) := Lib.hid (by unfold clR; rw [H2.out]; rfl)
      go_enter Try.func26, Try.ntmps26
      go_wp2_with fail
      refine (isg_any _ _ _ ps hl HZ.out).mono ?_
      rw [hs]
      rintro e w1 ⟨rfl, hb⟩
      have HB := Lib.hid hb
      clear hb
      go_upto_region 4 with fail
      generalize hW : World.alloc _ _ = W2
      have bX : Bk W2 w1.heap.size #[.int .i64 (-1000), .int .i64 1000] 62 := by rw [← hW]; repeat (first | (refine Bk.new' ?_; (simp; done)) | refine Bk.alloc ?_ _)
      have hb : Below w1.heap.size w1 W2 := by rw [← hW]; exact (by repeat (first | exact Below.refl _ _ | (refine Below.alloc ?_ (by simp <;> omega) _) | (refine Below.setCell ?_ (by simp <;> omega) _) | (refine Below.drew ?_) | (refine bel_drewN ?_ _)))
      replace HB := Lib.hid (bel_end HB.out hb)
      clear hW hb
      have bX_0 := bX.cell 0 rfl
      have bX_1 := bX.cell 1 rfl
      go_wp2_with fail
      refine (lacks_any (-1000) 1000 g W2).mono ?_
      rw [hg]
      rintro e w3 ⟨rfl, hw3⟩
      have hb : Below W2.heap.size W2 w3 := by rw [hw3]; exact (by repeat (first | exact Below.refl _ _ | (refine Below.alloc ?_ (by simp <;> omega) _) | (refine Below.setCell ?_ (by simp <;> omega) _) | (refine Below.drew ?_) | (refine bel_drewN ?_ _)))
      replace HB := Lib.hid (bel_end HB.out hb)
      clear hw3 hb bX_0 bX_1 bX
      go_wp2
      go_ret2
      exact ⟨by rw [H1.out, H2.out]; rfl, HB.out⟩
    case true =>
      cases hn : hasB 0 1000 no
      case false =>
        have H2 : Hid (clC ps g no = 2) := Lib.hid (by unfold clC; rw [hs, hg, hn]; rfl)
        have H1 : Hid (clR ps g no = false) := Lib.hid (by unfold clR; rw [H2.out]; rfl)
        go_enter Try.func26, Try.ntmps26
        go_wp2_with fail
        refine (isg_any _ _ _ ps hl HZ.out).mono ?_
        rw [hs]
        rintro e w1 ⟨rfl, hb⟩
        have HB := Lib.hid hb
        clear hb
        go_upto_region 4 with fail
        generalize hW : World.alloc _ _ = W2
        have bX : Bk W2 w1.heap.size #[.int .i64 (-1000), .int .i64 1000] 62 := by rw [← hW]; repeat (first | (refine Bk.new' ?_; (simp; done)) | refine Bk.alloc ?_ _)
        have hb : Below w1.heap.size w1 W2 := by rw [← hW]; exact (by repeat (first | exact Below.refl _ _ | (refine Below.alloc ?_ (by simp <;> omega) _) | (refine Below.setCell ?_ (by simp <;> omega) _) | (refine Below.drew ?_) | (refine bel_drewN ?_ _)))
        replace HB := Lib.hid (bel_end HB.out hb)
        clear hW hb
        have bX_0 := bX.cell 0 rfl
        have bX_1 := bX.cell 1 rfl
        go_wp2_with fail
        refine (lacks_any (-1000) 1000 g W2).mono ?_
        rw [hg]
        rintro e w3 ⟨rfl, hw3⟩
        have hb : Below W2.heap.size W2 w3 := by rw [hw3]; exact (by repeat (first | exact Below.refl _ _ | (refine Below.alloc ?_ (by simp <;> omega) _) | (refine Below.setCell ?_ (by simp <;> omega) _) | (refine Below.drew ?_) | (refine bel_drewN ?_ _)))
        replace HB := Lib.hid (bel_end HB.out hb)
        clear hw3 hb bX_0 bX_1 bX
        go_wp2_with fail
        refine (ino_any _ _).mono ?_
        rw [hn]
        rintro e w' ⟨rfl, rfl⟩
        go_wp2
        go_ret2
        exact ⟨by rw [H1.out, H2.out]; rfl, HB.out⟩
      case true =>
        have H2 : Hid (clC ps g no = 0) := Lib.hid (by unfold clC; rw [hs, hg, hn]; rfl)
        have H1 : Hid (clR ps g no = clB ps g no) := Lib.hid (by unfold clR; rw [H2.out]; rfl)
        have hcl := (clC_0 H2.out).2
        obtain ⟨⟨g1, g2⟩, n1, n2⟩ := hcl
        have HE : Hid (clB ps g no = decide (2 * no * wgV ps < (g.natAbs : Int) * (cor ps 0 - sideV ps))) := Lib.hid rfl
        have b1 := clear_bd hs g1 g2
        have b2 := noise_bd hs n1 n2
        have l1 := lead_bd hs
        obtain ⟨b11, b12⟩ := b1
        obtain ⟨b21, b22⟩ := b2
        obtain ⟨l1, l2, -, -⟩ := l1
        have K1 := Lib.hid (fun (W : World) (hz : Ints .i64 W w.heap.size a ps) => ild_any W _ a cap ps hs hc hz)
        have K2 := Lib.hid (fun (W : World) (hz : Ints .i64 W w.heap.size a ps) => ids_any W _ a cap ps no hs n1 n2 hz)
        have K3 := Lib.hid (fun (W : World) => abs_any g (by omega) (by omega) W)
        obtain ⟨V, hV⟩ : ∃ V, 2 * no * wgV ps = V := ⟨_, rfl⟩
        obtain ⟨F, hF⟩ : ∃ F, cor ps 0 - sideV ps = F := ⟨_, rfl⟩
        obtain ⟨A, hA⟩ : ∃ A : Int, (g.natAbs : Int) = A := ⟨_, rfl⟩
        rw [hV] at K2 b21 b22 HE
        rw [hF] at K1 l1 l2 b11 b12 HE
        rw [hA] at K3 b11 b12 HE
        clear hV hF hA
        have e2 : IntKind.wrap .i64 (A * F) = A * F := IntWalk.i64_in _ (by omega)
        go_enter Try.func26, Try.ntmps26
        go_wp2_with fail
        refine (isg_any _ _ _ ps hl HZ.out).mono ?_
        rw [hs]
        rintro e w1 ⟨rfl, hb⟩
        have HB := Lib.hid hb
        clear hb
        go_upto_region 4 with fail
        generalize hW : World.alloc _ _ = W2
        have bX : Bk W2 w1.heap.size #[.int .i64 (-1000), .int .i64 1000] 62 := by rw [← hW]; repeat (first | (refine Bk.new' ?_; (simp; done)) | refine Bk.alloc ?_ _)
        have hb : Below w1.heap.size w1 W2 := by rw [← hW]; exact (by repeat (first | exact Below.refl _ _ | (refine Below.alloc ?_ (by simp <;> omega) _) | (refine Below.setCell ?_ (by simp <;> omega) _) | (refine Below.drew ?_) | (refine bel_drewN ?_ _)))
        replace HB := Lib.hid (bel_end HB.out hb)
        clear hW hb
        have bX_0 := bX.cell 0 rfl
        have bX_1 := bX.cell 1 rfl
        go_wp2_with fail
        refine (lacks_any (-1000) 1000 g W2).mono ?_
        rw [hg]
        rintro e w3 ⟨rfl, hw3⟩
        have hb : Below W2.heap.size W2 w3 := by rw [hw3]; exact (by repeat (first | exact Below.refl _ _ | (refine Below.alloc ?_ (by simp <;> omega) _) | (refine Below.setCell ?_ (by simp <;> omega) _) | (refine Below.drew ?_) | (refine bel_drewN ?_ _)))
        replace HB := Lib.hid (bel_end HB.out hb)
        clear hw3 hb bX_0 bX_1 bX
        go_wp2_with fail
        refine (ino_any _ _).mono ?_
        rw [hn]
        rintro e w' ⟨rfl, rfl⟩
        go_wp2_with fail
        refine (K3.out _).mono ?_
        rintro e w' ⟨rfl, rfl⟩
        go_wp2_with fail
        refine (K1.out _ (HZ.out.below HB.out)).mono ?_
        rintro e w' ⟨rfl, rfl⟩
        go_wp2_with fail
        refine (K2.out _ (HZ.out.below HB.out)).mono ?_
        rintro e w' ⟨rfl, rfl⟩
        go_wp2
        go_ret2
        exact ⟨by rw [H1.out, H2.out, HE.out]; rfl, HB.out⟩
end Go.Proofs.Ythfaejhiabdkbab
