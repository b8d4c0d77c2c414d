/- Contracts of the model's PeaksOver. -/
import Derived.Test.YtndbpekmjpelaaaPkM
import Derived.Test.YtndbpekmjpelaaaMfQ
import Derived.Test.YtndbpekmjpelaaaSrt
import Derived.Deep.QuietTactic
import Derived.BigQuiet
namespace Go.Proofs.Ytndbpekmjpelaaa
open Go.ChangeShapes Go.WideShapes Go.ChangeAt Go.RowKit Go.Shelf Num
set_option linter.unusedVariables false
set_option linter.unusedSimpArgs false
theorem nrB_t {C : List Int} {g i : Int} {k : Nat} (hk : k < C.length) (h : ((C.getD k 0 - i).natAbs : Int) ≤ g) : nrB C g i = true := by
  unfold nrB
  rw [List.any_eq_true]
  refine ⟨C.getD k 0, ?_, decide_eq_true h⟩
  rw [List.getD_eq_getElem?_getD, List.getElem?_eq_getElem hk]; exact List.getElem_mem hk
theorem nrB_f {C : List Int} {g i : Int} (h : ∀ k, k < C.length → ¬ ((C.getD k 0 - i).natAbs : Int) ≤ g) : nrB C g i = false := by
  unfold nrB
  rw [List.any_eq_false]
  intro c hc
  obtain ⟨k, hk, rfl⟩ := List.getElem_of_mem hc
  have := h k hk
  rw [List.getD_eq_getElem?_getD, List.getElem?_eq_getElem hk] at this
  simpa using this
theorem lne_any (w : World) (B : Nat) (a : Option Addr) (cap : Nat) (C : List Int) (i g : Int) (hl : C.length ≤ 1048576) (hC : smlL 1000 C) (i0 : 0 ≤ i) (i1 : i ≤ 1000) (hz : Ints .i64 w B a C) :
    Calls Try.prog 21 #[.slice a C.length cap, .int .i64 i, .int .i64 g] w fun e w' => e = .returned (.bool (nrB C g i)) ∧ w = w' := by
  have HC := Lib.hid hC
  clear hC
  go_enter Try.func21, Try.ntmps21
  go_wp2
  go_loop [7] (fun x => ∃ k : Nat, k ≤ C.length ∧ x = .int .i64 k ∧ ∀ j, j < k → ¬ ((C.getD j 0 - i).natAbs : Int) ≤ g) (fun x => C.length - (intOf x).toNat)
  case atStart => exact ⟨0, by omega, rfl, fun j hj => absurd hj (Nat.not_lt_zero _)⟩
  case round =>
    obtain ⟨k, hk, rfl, hr⟩ := hrel
    have HR := Lib.hid hr
    clear hr
    by_cases hlt : k < C.length
    · obtain ⟨b, off, rfl, hB, hc⟩ := hz.at_ hlt
      clear hz
      obtain ⟨c1, c2⟩ := HC.out k
      obtain ⟨x, hx⟩ : ∃ x, C.getD k 0 = x := ⟨_, rfl⟩
      rw [hx] at hc c1 c2
      have HX := Lib.hid hx
      clear hx
      obtain ⟨D, hD⟩ : ∃ D, x - i = D := ⟨_, rfl⟩
      have eD : IntKind.wrap .i64 (x - i) = D := by rw [hD]; exact IntWalk.i64_in _ (by omega)
      have HDD := Lib.hid hD
      have d1 : -2000 ≤ D := by omega
      have d2 : D ≤ 2000 := by omega
      clear hD
      by_cases hn : (D.natAbs : Int) ≤ g
      · have H1 := Lib.hid (nrB_t (C := C) (g := g) (i := i) hlt (by rw [HX.out, HDD.out]; exact hn))
        go_wp2_with (go_at_call 20; refine (lab_any _ (by omega) (by omega) _).mono ?_; rintro e w' ⟨rfl, rfl⟩)
        go_ret
        exact ⟨ret_bool H1.out.symm, rfl⟩
      · have HN := Lib.hid hn
        go_wp2_with (go_at_call 20; refine (lab_any _ (by omega) (by omega) _).mono ?_; rintro e w' ⟨rfl, rfl⟩)
        go_round
        case rel => exact ⟨k + 1, by omega, by go_num, fun j hj => by
          by_cases hjk : j = k
          · rw [hjk, HX.out, HDD.out]; have := HN.out; omega
          · have := HR.out j (by omega); omega⟩
        case measure => simp [intOf]; omega
    · obtain rfl : k = C.length := by omega
      have H1 := Lib.hid (nrB_f (C := C) (g := g) (i := i) HR.out)
      clear hz
      go_wp2
      go_ret
      exact ⟨ret_bool H1.out.symm, rfl⟩
theorem goP_ge (g : Int) : ∀ (T : List Nat) (C : List Int), C.length ≤ (goP g C T).length
  | [], C => Nat.le_refl _
  | m :: T, C => by
    cases h : nrB C g (m : Int)
    · rw [goP_take h]
      have := goP_ge g T (C ++ [(m : Int)])
      simp only [List.length_append, List.length_cons, List.length_nil] at this
      omega
    · rw [goP_skip h]; exact goP_ge g T C
/-- where the model's loop stands -/
structure PkI (zs : List Int) (th g : Int) (C : List Int) (T : List Nat) (RES : List Int) : Prop where
  run : goP g C T = RES
  cnd : ∀ i ∈ T, cnd zs th i = true
  srt : T.Pairwise (fun x y => ltP zs y x = false)
  dis : T.Pairwise (fun x y => x ≠ y)
  all : ∀ i, okP zs th g C i = true → i ∈ T
theorem PkI.start (zs : List Int) (th g : Int) : PkI zs th g [] (cndS zs th) (goP g [] (cndS zs th)) :=
  ⟨rfl, fun i hi => (cndS_mem zs th i).1 hi, srtP_pair zs _, (List.mergeSort_perm (cndL zs th) (fun x y => !ltP zs y x)).nodup_iff.2 (cndL_nodup zs th), fun i hi => (cndS_mem zs th i).2 (by unfold okP at hi; rw [Bool.and_eq_true] at hi; exact hi.1)⟩
theorem smlL_nilK {A : Int} (hA : 0 ≤ A) : smlL A [] := fun i => by
  have : ([] : List Int).getD i 0 = 0 := by simp
  omega
theorem smlL_snocK {A : Int} {L : List Int} {x : Int} (hA : 0 ≤ A) (h : smlL A L) (hx : -A ≤ x ∧ x ≤ A) : smlL A (L ++ [x]) := fun i => by
  have := h i
  rw [List.getD_eq_getElem?_getD, List.getElem?_append]
  split
  · rw [← List.getD_eq_getElem?_getD]; exact this
  · rename_i hh
    by_cases e : i = L.length
    · subst e; simpa using hx
    · rw [List.getElem?_eq_none (by simp; omega)]
      exact ⟨by simp; omega, by simpa using hA⟩
/-- a list, sorted -/
def srtZ (zs : List Int) : List Int := zs.mergeSort fun x y => decide (x ≤ y)
theorem srtZ_eq {L zs : List Int} (hs : L.Pairwise (· ≤ ·)) (hp : L.Perm (zs.take zs.length)) : L = srtZ zs := by
  rw [List.take_length] at hp
  have h1 : (srtZ zs).Pairwise (· ≤ ·) := by
    have := List.pairwise_mergeSort (le := fun x y : Int => decide (x ≤ y)) (by intro a b c; simp; omega) (by intro a b; simp; omega) zs
    exact this.imp (by intro a b h; simpa using h)
  exact List.Perm.eq_of_pairwise (fun a b _ _ h h' => Int.le_antisymm h h') hs h1 (hp.trans (List.mergeSort_perm _ _).symm)
theorem smlL_mono4 {L : List Int} (h : smlL 400 L) : smlL 1000 L := fun i => by have := h i; omega
def lenV : Value → Nat | .slice _ n _ => n | _ => 0
set_option maxRecDepth 100000 in
set_option maxHeartbeats 8000000 in
theorem spo_any (w : World) (a : Option Addr) (cap : Nat) (zs : List Int) (th g : Int) (hl : zs.length ≤ 1048576) (hz : Ints .i64 w w.heap.size a zs) :
    Calls Try.prog 5 #[.slice a zs.length cap, .int .i64 th, .int .i64 g] w fun e w' => ∃ (a' : Option Addr) (c' : Nat), e = .returned (.tuple #[.slice a' (poL zs th g).length c', .int .i64 (poC zs th g)]) ∧ OwnA w' w.heap.size w'.heap.size a' c' (poL zs th g) ∧ Below w.heap.size w w' := by
  obtain ⟨i0, hi, hz0, hz1, hz2⟩ := info_parts info_i64
  have HZ := Lib.hid hz
  clear hz
  cases hs : trcB zs
  case false =>
    have H2 : Hid (poC zs th g = 1) := Lib.hid (by unfold poC; rw [hs]; rfl)
    have H1 : Hid (poL zs th g = []) := Lib.hid (by unfold poL; rw [H2.out]; rfl)
    go_enter Try.func5, Try.ntmps5
    go_wp2_with (go_at_call 18; refine (stc_any _ _ _ _ zs (by omega) HZ.out).mono ?_; rw [hs]; rintro e w' ⟨rfl, rfl⟩)
    go_ret2
    exact ⟨none, 0, by rw [H1.out, H2.out]; rfl, by rw [H1.out]; exact ownA_nil _ _ (Nat.le_refl _), Below.refl _ _⟩
  case true =>
    have e1 := hasB_inB th 1 1000000000000
    have e2 := hasB_inB g 0 400
    cases ht : inB th 1 1000000000000
    case false =>
      rw [ht] at e1
      have H2 : Hid (poC zs th g = 2) := Lib.hid (by unfold poC; rw [hs, e1]; rfl)
      have H1 : Hid (poL zs th g = []) := Lib.hid (by unfold poL; rw [H2.out]; rfl)
      clear e1 e2
      go_enter Try.func5, Try.ntmps5
      go_wp2_with (first | (go_at_call 18; refine (stc_any _ _ _ _ zs (by omega) HZ.out).mono ?_; rw [hs]; rintro e w' ⟨rfl, rfl⟩) | (go_at_call 19; with_reducible refine Calls.mono (lin_any th _ _ _) ?_; rw [ht]; rintro e w' ⟨rfl, rfl⟩))
      go_ret2
      exact ⟨none, 0, by rw [H1.out, H2.out]; rfl, by rw [H1.out]; exact ownA_nil _ _ (Nat.le_refl _), Below.refl _ _⟩
    case true =>
      rw [ht] at e1
      cases hg : inB g 0 400
      case false =>
        rw [hg] at e2
        have H2 : Hid (poC zs th g = 2) := Lib.hid (by unfold poC; rw [hs, e1, e2]; rfl)
        have H1 : Hid (poL zs th g = []) := Lib.hid (by unfold poL; rw [H2.out]; rfl)
        clear e1 e2
        go_enter Try.func5, Try.ntmps5
        go_wp2_with (first | (go_at_call 18; refine (stc_any _ _ _ _ zs (by omega) HZ.out).mono ?_; rw [hs]; rintro e w' ⟨rfl, rfl⟩) | (go_at_call 19; with_reducible refine Calls.mono (lin_any th _ _ _) ?_; rw [ht]; rintro e w' ⟨rfl, rfl⟩) | (go_at_call 19; with_reducible refine Calls.mono (lin_any g _ _ _) ?_; rw [hg]; rintro e w' ⟨rfl, rfl⟩))
        go_ret2
        exact ⟨none, 0, by rw [H1.out, H2.out]; rfl, by rw [H1.out]; exact ownA_nil _ _ (Nat.le_refl _), Below.refl _ _⟩
      case true =>
        rw [hg] at e2
        have H2 : Hid (poC zs th g = 0) := Lib.hid (by unfold poC; rw [hs, e1, e2]; rfl)
        have H1 : Hid (poL zs th g = poS zs th g) := Lib.hid (by unfold poL; rw [H2.out]; rfl)
        clear e1 e2
        obtain ⟨t1, t2⟩ := inB_t ht
        obtain ⟨g0, g1⟩ := inB_t hg
        obtain ⟨h4, hsm⟩ := trcB_t hs
        have HSM := Lib.hid hsm
        obtain ⟨RES, hR⟩ : ∃ R, goP g [] (cndS zs th) = R := ⟨_, rfl⟩
        have HP0 : Hid (PkI zs th g [] (cndS zs th) RES) := Lib.hid (by rw [← hR]; exact PkI.start zs th g)
        have HRS : Hid (poS zs th g = srtZ RES) := Lib.hid (by unfold poS srtZ; rw [hR])
        have hR4 : RES.length ≤ 400 := by
          rw [← hR]
          have h1 := goP_len g (cndS zs th) []
          have h2 := cndS_len zs th
          simp only [List.length_nil] at h1
          omega
        clear hR hsm
        go_enter Try.func5, Try.ntmps5
        go_wp2_with (first | (go_at_call 18; refine (stc_any _ _ _ _ zs (by omega) HZ.out).mono ?_; rw [hs]; rintro e w' ⟨rfl, rfl⟩) | (go_at_call 19; with_reducible refine Calls.mono (lin_any th _ _ _) ?_; rw [ht]; rintro e w' ⟨rfl, rfl⟩) | (go_at_call 19; with_reducible refine Calls.mono (lin_any g _ _ _) ?_; rw [hg]; rintro e w' ⟨rfl, rfl⟩))
        have HR0 := Lib.hid (RowG.lit (w1 := w) (t := 2) (m := 1) (W := w.alloc (.cells #[] 2)) (Bk.new' rfl) (Nat.le_refl _) ((Below.refl _ _).alloc (Nat.le_refl _) _))
        go_loopw [8] (fun v wr => ∃ (ge ce : Nat) (C : List Int) (T : List Nat), v = .slice (some ⟨ge, 0, none⟩) C.length ce ∧ RowG w 2 1 ge ce C.length (C.map iv4) wr ∧ PkI zs th g C T RES ∧ smlL 400 C) (fun v _ => 401 - lenV v)
        case atStart => exact ⟨w.heap.size, 0, [], cndS zs th, rfl, HR0.out, HP0.out, smlL_nilK (by decide)⟩
        case round =>
          obtain ⟨ge, ce, C, T, rfl, hR, hP, hC⟩ := hrel
          have HR := Lib.hid hR
          have HP := Lib.hid hP
          have HC := Lib.hid hC
          have hCl : C.length ≤ 400 := by
            have := goP_ge g T C
            rw [hP.run] at this
            omega
          clear hR hP hC HR0 HP0
          go_wp2_with fail
          go_loopw [9, 10] (fun b i wx => ∃ k : Nat, k ≤ zs.length ∧ i = .int .i64 (k : Int) ∧ b = .int .i64 (bsT zs th g C k) ∧ Below wr.heap.size wr wx) (fun _ i _ => zs.length - (intOf i).toNat)
          case atStart => exact ⟨0, Nat.zero_le _, rfl, rfl, Below.refl _ _⟩
          case round =>
            obtain ⟨k, hk, rfl, rfl, hbw⟩ := hrel
            have HBW := Lib.hid hbw
            clear hbw
            by_cases hlt : k < zs.length
            case pos =>
              have hrg := bsT_rng zs th g C k
              have hsu := bsT_succ zs th g C k
              obtain ⟨b1, o1, ra, -, hc1⟩ := (HZ.out.below (bel_end HR.out.bel HBW.out)).at_ (j := k) hlt
              subst ra
              obtain ⟨x1, x2⟩ := HSM.out k
              have hCi : Ints .i64 wr wr.heap.size (some ⟨ge, 0, none⟩) C := (ownA_row (HR.out.on HBW.out) rfl (Nat.le_refl _)).ints
              have KN := Lib.hid (fun (n : Nat) => lne_any (wr.drewN n) _ (some ⟨ge, 0, none⟩) ce C (k : Int) g (by omega) (smlL_mono4 HC.out) (by omega) (by omega) (hCi.drewN n))
              have hax : aV zs k = ((zs.getD k 0).natAbs : Int) := rfl
              rw [hax] at hsu
              obtain ⟨x, hx⟩ : ∃ x, zs.getD k 0 = x := ⟨_, rfl⟩
              obtain ⟨b, hb⟩ : ∃ b, bsT zs th g C k = b := ⟨_, rfl⟩
              rw [hx] at hc1 hsu x1 x2
              rw [hb] at hrg hsu ⊢
              have K1 := Lib.hid (fun (n : Nat) => (lab_any x (by omega) (by omega) (wr.drewN n)))
              clear hx hb hax hCi
              obtain ⟨nb, hnb⟩ : ∃ nb, nrB C g (k : Int) = nb := ⟨_, rfl⟩
              rw [hnb] at KN hsu
              clear hnb
              by_cases hth : th ≤ (x.natAbs : Int)
              case neg =>
                have HSU := Lib.hid hsu
                have hdb : decide (th ≤ (x.natAbs : Int)) = false := decide_eq_false hth
                have hlt9 : (x.natAbs : Int) < th := by omega
                rw [decide_eq_false hth] at HSU
                replace HSU : Hid (bsT zs th g C (k + 1) = b) := Lib.hid (by rw [HSU.out]; rfl)
                have K2 := K1
                clear hsu
                go_wp2_with fail
                go_quiet ((first | (go_at_call 20; first | exact Calls.quiet_of_same ((K1.out _).mono fun _ _ h => ⟨h.1, h.2.symm⟩) | exact Calls.quiet_of_same ((K2.out _).mono fun _ _ h => ⟨h.1, h.2.symm⟩)) | (go_at_call 21; exact Calls.quiet_of_same ((KN.out _).mono fun _ _ h => ⟨h.1, h.2.symm⟩))))
                go_wp2_with fail
                go_roundw
                (case rel => exact ⟨k + 1, by omega, by go_num, by rw [HSU.out], bel_end HBW.out (below_drewN (Below.refl _ _) _)⟩)
                (case measure => simp [intOf]; omega)
              case pos =>
                rw [decide_eq_true hth] at hsu
                cases nb
                case true =>
                  have HSU : Hid (bsT zs th g C (k + 1) = b) := Lib.hid (by rw [hsu]; rfl)
                  have K2 := K1
                  clear hsu
                  go_wp2_with fail
                  go_quiet ((first | (go_at_call 20; first | exact Calls.quiet_of_same ((K1.out _).mono fun _ _ h => ⟨h.1, h.2.symm⟩) | exact Calls.quiet_of_same ((K2.out _).mono fun _ _ h => ⟨h.1, h.2.symm⟩)) | (go_at_call 21; exact Calls.quiet_of_same ((KN.out _).mono fun _ _ h => ⟨h.1, h.2.symm⟩))))
                  go_wp2_with fail
                  go_roundw
                  (case rel => exact ⟨k + 1, by omega, by go_num, by rw [HSU.out], bel_end HBW.out (below_drewN (Below.refl _ _) _)⟩)
                  (case measure => simp [intOf]; omega)
                case false =>
                  by_cases hb0 : b < 0
                  case pos =>
                    have HSU : Hid (bsT zs th g C (k + 1) = (k : Int)) := Lib.hid (by rw [hsu, decide_eq_true hb0]; rfl)
                    have K2 := K1
                    clear hsu
                    go_wp2_with fail
                    go_quiet ((first | (go_at_call 20; first | exact Calls.quiet_of_same ((K1.out _).mono fun _ _ h => ⟨h.1, h.2.symm⟩) | exact Calls.quiet_of_same ((K2.out _).mono fun _ _ h => ⟨h.1, h.2.symm⟩)) | (go_at_call 21; exact Calls.quiet_of_same ((KN.out _).mono fun _ _ h => ⟨h.1, h.2.symm⟩))))
                    go_wp2_with fail
                    go_roundw
                    (case rel => exact ⟨k + 1, by omega, by go_num, by rw [HSU.out], bel_end HBW.out (below_drewN (Below.refl _ _) _)⟩)
                    (case measure => simp [intOf]; omega)
                  case neg =>
                    obtain ⟨j, rfl⟩ : ∃ j : Nat, b = (j : Int) := ⟨b.toNat, by omega⟩
                    have hjl : j < zs.length := by omega
                    obtain ⟨b2, o2, he, -, hc2⟩ := (HZ.out.below (bel_end HR.out.bel HBW.out)).at_ (j := j) hjl
                    simp only [Option.some.injEq, Addr.mk.injEq, and_true] at he
                    obtain ⟨e1, e2⟩ := he
                    subst e1 e2
                    obtain ⟨y1, y2⟩ := HSM.out j
                    have hay : aV zs (j : Int).toNat = ((zs.getD j 0).natAbs : Int) := by rw [Int.toNat_natCast]; rfl
                    rw [hay] at hsu
                    obtain ⟨y, hy⟩ : ∃ y, zs.getD j 0 = y := ⟨_, rfl⟩
                    rw [hy] at hc2 hsu y1 y2
                    have K2 := Lib.hid (fun (n : Nat) => (lab_any y (by omega) (by omega) (wr.drewN n)))
                    clear hy hay
                    rw [decide_eq_false hb0] at hsu
                    by_cases hc : (y.natAbs : Int) < (x.natAbs : Int)
                    case pos =>
                      have HSU : Hid (bsT zs th g C (k + 1) = (k : Int)) := Lib.hid (by rw [hsu, decide_eq_true hc]; rfl)
                      clear hsu
                      go_wp2_with fail
                      go_quiet ((first | (go_at_call 20; first | exact Calls.quiet_of_same ((K1.out _).mono fun _ _ h => ⟨h.1, h.2.symm⟩) | exact Calls.quiet_of_same ((K2.out _).mono fun _ _ h => ⟨h.1, h.2.symm⟩)) | (go_at_call 21; exact Calls.quiet_of_same ((KN.out _).mono fun _ _ h => ⟨h.1, h.2.symm⟩))))
                      go_wp2_with fail
                      go_roundw
                      (case rel => exact ⟨k + 1, by omega, by go_num, by rw [HSU.out], bel_end HBW.out (below_drewN (Below.refl _ _) _)⟩)
                      (case measure => simp [intOf]; omega)
                    case neg =>
                      have HSU : Hid (bsT zs th g C (k + 1) = (j : Int)) := Lib.hid (by rw [hsu, decide_eq_false hc]; rfl)
                      clear hsu
                      go_wp2_with fail
                      go_quiet ((first | (go_at_call 20; first | exact Calls.quiet_of_same ((K1.out _).mono fun _ _ h => ⟨h.1, h.2.symm⟩) | exact Calls.quiet_of_same ((K2.out _).mono fun _ _ h => ⟨h.1, h.2.symm⟩)) | (go_at_call 21; exact Calls.quiet_of_same ((KN.out _).mono fun _ _ h => ⟨h.1, h.2.symm⟩))))
                      go_wp2_with fail
                      go_roundw
                      (case rel => exact ⟨k + 1, by omega, by go_num, by rw [HSU.out], bel_end HBW.out (below_drewN (Below.refl _ _) _)⟩)
                      (case measure => simp [intOf]; omega)
            case neg =>
              obtain rfl : k = zs.length := by omega
              obtain ⟨h1, h2⟩ := bsT_step g0 HP.out.run HP.out.cnd HP.out.srt HP.out.dis HP.out.all
              have hrg := bsT_rng zs th g C zs.length
              have HA := Lib.hid (ownA_row (HR.out.on HBW.out) rfl (Nat.le_refl _))
              have HR2 := Lib.hid (HR.out.on HBW.out)
              obtain ⟨b, hb⟩ : ∃ b, bsT zs th g C zs.length = b := ⟨_, rfl⟩
              rw [hb] at h1 h2 hrg ⊢
              clear hb
              by_cases hb0 : b < 0
              case pos =>
                have hRC := h1 hb0
                subst hRC
                have HBE := Lib.hid (bel_end HR.out.bel HBW.out)
                clear h1 h2
                go_wp2_with fail
                refine (srt_any _ _ _ RES hR4 HA.out.ints).mono ?_
                rintro e w9 ⟨v, rfl, gs, cs, L, rfl, hown, hsrt, hprm, hbl⟩
                obtain rfl := srtZ_eq hsrt hprm
                have HO := Lib.hid hown
                have HBF := Lib.hid (bel_end HBE.out hbl)
                have hsz := HBE.out.size
                clear hown hsrt hprm hbl
                go_wp2
                go_ret2
                exact ⟨some ⟨gs, 0, none⟩, cs, by rw [H1.out, H2.out, HRS.out]; rfl, by rw [H1.out, HRS.out]; exact ⟨World.ownsRow.mono HO.out hsz, fun g e => (HO.out.lt g e).2, Nat.le_refl _⟩, HBF.out⟩
              case neg =>
                obtain ⟨T2, p1, p2, p3, p4, p5, p6⟩ := h2 (by omega)
                have HP2 : Hid (PkI zs th g (C ++ [b]) T2 RES) := Lib.hid ⟨p1, p3, p4, p5, p6⟩
                have HCN := Lib.hid (smlL_snocK (x := b) (by decide) HC.out ⟨by omega, by omega⟩)
                have hC5 : C.length + 1 ≤ 400 := by
                  have := goP_ge g T2 (C ++ [b])
                  rw [p1, List.length_append] at this
                  simp only [List.length_cons, List.length_nil] at this
                  omega
                clear h1 h2 p1 p2 p3 p4 p5 p6
                replace HR := HR2
                go_wp2_with (at_builtin; refine wpList_append_lies _ rfl _ _ 22 rfl w.heap.size 2 i0 (.int .i64 0) 1 8 Try.underlying22 hi hz0 hz1 hz2 rfl (by decide) (.slice (some ⟨ge, 0, none⟩) C.length ce) C.length ((C).map iv4) rfl (HR.out.own.alloc _) ⟨wr.heap.size, 0, none⟩ 1 1 [.int .i64 b] rfl rfl (World.news_of_block (cs := #[.int .i64 b]) (t := 2) (fr := (0, 0)) (heap_alloc_new wr _)) (by simp [Value.oneCell']) (by decide) (by unfold maxLen; omega) (by omega) (by simp; exact Nat.le_succ_of_le HR.out.bel.size) (wr.heap.size + 1) (by simp) ?_; intro g2 cp2 w9 hown hgrow hat hlt9; have HR9 := Lib.hid ((HR.out.on ((Below.refl _ _).alloc (Nat.le_refl _) _)).snoc hown hgrow); clear hown hgrow hat hlt9)
                go_wp2_with fail
                go_roundw
                case rel => exact ⟨g2, cp2, C ++ [b], T2, by rw [List.length_append]; rfl, by rw [List.length_append, List.map_append]; exact HR9.out, HP2.out, HCN.out⟩
                case measure => simp [lenV]; omega
end Go.Proofs.Ytndbpekmjpelaaa
