/- The contract of the program's sum over all patterns of some number of bits. -/
import Derived.Test.YtgdnapioboodbaaThQ
import Derived.Deep.RegionHeld3
namespace Go.Proofs.Ytgdnapioboodbaa
open Go.ChangeShapes Go.WideShapes Go.ChangeAt Go.RowKit Go.Shelf Num
set_option linter.unusedVariables false
set_option linter.unusedSimpArgs false
theorem bits_low (v : Nat) (hv : v ≤ 1000000) : bits .and .i64 (v : Int) 1 = ((v % 2 : Nat) : Int) := by
  have h1 : (BitVec.ofInt 64 (v : Int)).toNat = v := by
    rw [BitVec.ofInt_natCast, BitVec.toNat_ofNat]; exact Nat.mod_eq_of_lt (by omega)
  have h2 : (BitVec.ofInt 64 (1 : Int)).toNat = 1 := rfl
  show IntKind.i64.wrap ((BitVec.ofInt 64 (v : Int) &&& BitVec.ofInt 64 (1 : Int)).toNat : Int) = _
  rw [BitVec.toNat_and, h1, h2, Nat.and_one_is_mod]
  exact IntWalk.i64_in _ (by omega)
theorem bo_snoc (n x : Nat) : bo (n + 1) x = bo n x ++ [((x / 2 ^ n % 2 : Nat) : Int)] := by
  induction n generalizing x with
  | zero => simp [bo]
  | succ n ih => rw [bo, ih, bo, Nat.div_div_eq_div_mul, Nat.pow_succ, Nat.mul_comm 2]; rfl
/-- a pattern under way: the first y bits of x, zeros behind -/
def PtK (cs : Array Value) (x y : Nat) : Prop := (∀ j, j < y → cs[j]? = some (.int .i64 ((x / 2 ^ j % 2 : Nat) : Int))) ∧ ∀ j, y ≤ j → j < 12 → cs[j]? = some (.int .i64 0)
theorem PtK.put {cs : Array Value} {x y : Nat} (h : PtK cs x y) (hy : y < 12) {b : Nat} (hb : x / 2 ^ y % 2 = b) : PtK (cs.setIfInBounds y (.int .i64 (b : Int))) x (y + 1) := by
  subst hb
  obtain ⟨hk, -⟩ := Array.getElem?_eq_some_iff.1 (h.2 y (Nat.le_refl _) hy)
  refine ⟨fun j hj => ?_, fun j j1 j2 => ?_⟩
  · rw [Array.getElem?_setIfInBounds]
    by_cases e : y = j
    · subst e; rw [if_pos rfl, if_pos hk]
    · rw [if_neg e]; exact h.1 j (by omega)
  · rw [Array.getElem?_setIfInBounds, if_neg (by omega)]; exact h.2 j (by omega) j2
theorem PtK.ints {W : World} {g n x : Nat} {cs : Array Value} (h : PtK cs x n) (hb : Bk W g cs 87) : Ints .i64 W W.heap.size (some ⟨g, 0, none⟩) (bo n x) := fun hp => ⟨g, 0, rfl, hb.lt, fun j hj => by
  rw [bo_length] at hj
  rw [Nat.zero_add, bo_getD n x j hj]
  exact hb.cell j (h.1 j hj)⟩
set_option maxRecDepth 100000 in
theorem run_arr (g n : Nat) (hn : n ≤ 12) (w : World) : (Instr.sliceAt 87 (.pointer (some ⟨g, 0, none⟩)) none (some (.int .i64 (n : Int))) none).run Try.prog w = .ok (.slice (some ⟨g, 0, none⟩) n 12) w := by
  have hs : (sizeOf 2).run Try.prog w = .ok 1 w := by kernel_rfl
  have hu := run_underlying (w := w) Try.underlying87
  have hb := run_sliceBound (P := Try.prog) (w := w) .i64 (n : Int) 12 .sliceAlen (by omega) (by omega)
  simp [Instr.sliceAt, Instr.sureAddr, hu, Instr.sliceBounds, hb, Result.andThen, hs, Addr.add, hn]
theorem pw_two (n : Nat) (h : n ≤ 12) : 1 ≤ 2 ^ n ∧ 2 ^ n ≤ 4096 := ⟨Nat.one_le_two_pow, by
  have := Nat.pow_le_pow_right (n := 2) (by decide) h
  simpa using this⟩
set_option maxRecDepth 100000 in
set_option maxHeartbeats 8000000 in
theorem ccs_any (w : World) (n u : Nat) (o0 o1 m : Int) (hn : n ≤ 12) (h0 : 0 ≤ o0) (h1 : o0 ≤ 16) (g0 : 0 ≤ o1) (g1 : o1 ≤ 16) (u1 : 1 ≤ u) (u2 : u ≤ 12) (m1 : 1 ≤ m) (m2 : m ≤ 12) :
    Calls Try.prog 55 #[.int .i64 (n : Int), .agg #[.int .i64 o0, .int .i64 o1], .int .i64 m, .int .i64 (u : Int)] w fun e w' => e = .returned (.int .i64 (smN (fun x => vlP o0 o1 m u (bo n x)) (2 ^ n))) ∧ Below w.heap.size w w' := by
  obtain ⟨F, hF⟩ : ∃ F : Nat → Int, ∀ x, F x = vlP o0 o1 m u (bo n x) := ⟨_, fun _ => rfl⟩
  have HV : Hid (smN (fun x => vlP o0 o1 m u (bo n x)) (2 ^ n) = smN F (2 ^ n)) := Lib.hid (smN_congr (fun x => (hF x).symm) _)
  have HS : Hid (∀ x, 0 ≤ smN F x ∧ smN F x ≤ x * 281474976710656) := Lib.hid (fun x => smN_bd (fun y => by rw [hF]; have a := vlP_bd (m := m) (w := u) h0 h1 g0 g1 (bo n y); rw [bo_length] at a; have := pw_le hn; omega) x)
  have HF := Lib.hid hF
  have HO := Lib.hid (And.intro (And.intro h0 h1) (And.intro g0 g1))
  have HM := Lib.hid (And.intro (And.intro u1 u2) (And.intro m1 m2))
  obtain ⟨p1, p2⟩ := pw_two n hn
  obtain ⟨P, hP⟩ : ∃ P : Nat, 2 ^ n = P := ⟨_, rfl⟩
  have hPi : (2 : Int) ^ n = (P : Int) := by rw [← hP]; simp
  rw [hP] at p1 p2 HV
  rw [hP, HV.out]
  clear hP hF h0 h1 g0 g1 u1 u2 m1 m2 HV
  go_enter Try.func55, Try.ntmps55
  go_wp2_with fail
  generalize hW : World.alloc _ _ = W
  have bO : Bk W w.heap.size #[.int .i64 o0, .int .i64 o1] 71 := by rw [← hW]; exact Bk.new _ _ _
  have HB : Hid (Below w.heap.size w W) := Lib.hid (by rw [← hW]; exact (by repeat (first | exact Below.refl _ _ | (refine Below.alloc ?_ (by simp <;> omega) _) | (refine Below.setCell ?_ (by simp <;> omega) _) | (refine Below.drew ?_) | (refine bel_drewN ?_ _))))
  clear hW
  go_loopw [9, 18] (fun s i wr => ∃ x : Nat, x ≤ P ∧ i = .int .i64 (x : Int) ∧ s = .int .i64 (smN F x) ∧ Bk wr w.heap.size #[.int .i64 o0, .int .i64 o1] 71 ∧ Below w.heap.size w wr) (fun _ i _ => P - (intOf i).toNat)
  case atStart => exact ⟨0, by omega, rfl, rfl, bO, HB.out⟩
  case round =>
    clear bO HB
    obtain ⟨x, hx, rfl, rfl, bO, hB⟩ := hrel
    have HB := Lib.hid hB
    clear hB
    by_cases hlt : x < P
    · have hs0 := HS.out x
      have hs1 := Lib.hid (show smN F (x + 1) = smN F x + F x from rfl)
      obtain ⟨S, hS⟩ : ∃ q, smN F x = q := ⟨_, rfl⟩
      rw [hS] at hs0 hs1 ⊢
      clear hS
      rename World => wo
      go_wp2_with fail
      have HW0 : Hid (Below w.heap.size w wo) := HB
      obtain ⟨gp, hgp⟩ : ∃ q, q = wo.heap.size := ⟨_, rfl⟩
      generalize hW : World.alloc _ _ = W1
      have bP : Bk W1 gp #[.int .i64 0, .int .i64 0, .int .i64 0, .int .i64 0, .int .i64 0, .int .i64 0, .int .i64 0, .int .i64 0, .int .i64 0, .int .i64 0, .int .i64 0, .int .i64 0] 87 := by rw [← hW]; exact Bk.new' hgp
      have bO1 : Bk W1 w.heap.size #[.int .i64 o0, .int .i64 o1] 71 := by rw [← hW]; exact bO.alloc _
      have HB1 : Hid (Below w.heap.size w W1) := Lib.hid (by rw [← hW]; exact HB.out.alloc HB.out.size _)
      have hne : w.heap.size ≠ gp := by have := bO.lt; omega
      have hle : w.heap.size ≤ gp := by have := HB.out.size; omega
      have hz : PtK #[.int .i64 0, .int .i64 0, .int .i64 0, .int .i64 0, .int .i64 0, .int .i64 0, .int .i64 0, .int .i64 0, .int .i64 0, .int .i64 0, .int .i64 0, .int .i64 0] x 0 := ⟨fun j hj => by omega, fun j _ hj => match j, hj with
        | 0, _ => rfl
        | 1, _ => rfl
        | 2, _ => rfl
        | 3, _ => rfl
        | 4, _ => rfl
        | 5, _ => rfl
        | 6, _ => rfl
        | 7, _ => rfl
        | 8, _ => rfl
        | 9, _ => rfl
        | 10, _ => rfl
        | 11, _ => rfl⟩
      have HLE := Lib.hid hle
      have HNE := Lib.hid hne
      have HSI := Lib.hid hs0
      rw [← hgp]
      clear hW hgp bO HB HW0 hPi hs0
      clear hle hne
      go_loopw [12, 22] (fun c i wq => ∃ (y : Nat) (cs : Array Value), y ≤ n ∧ i = .int .i64 (y : Int) ∧ c = .int .i64 (prB o0 o1 (bo y x)) ∧ Bk wq gp cs 87 ∧ PtK cs x y ∧ Bk wq w.heap.size #[.int .i64 o0, .int .i64 o1] 71 ∧ Below w.heap.size w wq) (fun _ i _ => n - (intOf i).toNat)
      case atStart => exact ⟨0, _, by omega, rfl, rfl, bP, hz, bO1, HB1.out⟩
      case round =>
        clear bP hz bO1 HB1
        obtain ⟨y, cs, hy, rfl, rfl, bP, hK, bO, hB⟩ := hrel
        have HB := Lib.hid hB
        have HK := Lib.hid hK
        clear hB hK
        by_cases hyn : y < n
        · obtain ⟨V, hVe⟩ : ∃ V : Nat, x / 2 ^ y = V := ⟨_, rfl⟩
          have hV : (x : Int) / (2 : Int) ^ y = (V : Int) := by rw [← hVe]; simp
          have hV4 : V ≤ 1000000 := by rw [← hVe]; exact Nat.le_trans (Nat.div_le_self _ _) (by omega)
          have hbt := bits_low V hV4
          obtain ⟨bt, hbe⟩ : ∃ q : Nat, V % 2 = q := ⟨_, rfl⟩
          rw [hbe] at hbt
          have hbt2 : bt < 2 := by omega
          have HPB : Hid (prB o0 o1 (bo (y + 1) x) = prB o0 o1 (bo y x) * (if (bt : Int) = 1 then o1 else o0)) := Lib.hid (by rw [bo_snoc, prB_append, hVe, hbe]; simp [prB])
          have HK2 : Hid (PtK (cs.setIfInBounds y (.int .i64 (bt : Int))) x (y + 1)) := Lib.hid (HK.out.put (by omega) (by rw [hVe, hbe]))
          have hpb := prB_bd HO.out.1.1 HO.out.1.2 HO.out.2.1 HO.out.2.2 (bo y x)
          have hpw := pw_le (n := y) (by omega)
          rw [bo_length] at hpb
          obtain ⟨C, hC⟩ : ∃ q, prB o0 o1 (bo y x) = q := ⟨_, rfl⟩
          rw [hC] at HPB hpb ⊢
          obtain ⟨ov, hov⟩ : ∃ q, (if (bt : Int) = 1 then o1 else o0) = q := ⟨_, rfl⟩
          rw [hov] at HPB
          have hov2 : 0 ≤ ov ∧ ov ≤ 16 := by have := HO.out; rw [← hov]; split <;> omega
          have hpr := prd48 (x := C) (y := ov) (by omega) (by omega) hov2.1 (by omega)
          have hc0 := bP.cell y (HK.out.2 y (Nat.le_refl _) (by omega))
          have hf0 := bP.frozen y
          have hl0 := bP.lt
          have cO : wr.cell? ⟨w.heap.size, bt, none⟩ = some (.int .i64 ov) := bO.cell bt (by
            rw [← hov]
            obtain h | h : bt = 0 ∨ bt = 1 := by omega
            · subst h; simp
            · subst h; simp)
          obtain ⟨R, hR⟩ : ∃ q, C * ov = q := ⟨_, rfl⟩
          have e5 : IntKind.wrap .i64 (C * ov) = R := by rw [IntWalk.i64_in _ (by omega)]; exact hR
          rw [hR] at HPB
          have hbi : (bt : Int) < 2 := by omega
          have hyi : (y : Int) < 12 := by omega
          have hne1 : ¬ w.heap.size = gp := HNE.out
          have hne2 : ¬ gp = w.heap.size := fun e => HNE.out e.symm
          clear hVe hbe hC hov hR hpb hpw hpr hov2 hbt2 hV4
          go_wp2_with fail
          go_roundw
          case rel => exact ⟨y + 1, _, by omega, by go_num, by rw [HPB.out], bP.set _ _ rfl, HK2.out, bO.other hne1 _ _, HB.out.setCell (p := ⟨gp, y, none⟩) HLE.out _⟩
          case measure => simp [intOf]; omega
        · obtain rfl : y = n := by omega
          have hsl := run_arr gp y hn
          have KC := Lib.hid (cfa_any wr wr.heap.size y (some ⟨gp, 0, none⟩) 12 u m (bo y x) (bo_length y x) (by omega) HM.out.1.1 HM.out.1.2 HM.out.2.1 HM.out.2.2 (bo_bits y x) (HK.out.ints bP))
          have hpb := prB_bd HO.out.1.1 HO.out.1.2 HO.out.2.1 HO.out.2.2 (bo y x)
          have hpw := pw_le hn
          rw [bo_length] at hpb
          have HFX : Hid (F x = if cfS (bo y x) m u < 0 then 0 else prB o0 o1 (bo y x)) := Lib.hid (HF.out x)
          obtain ⟨C, hC⟩ : ∃ q, prB o0 o1 (bo y x) = q := ⟨_, rfl⟩
          rw [hC] at HFX hpb ⊢
          have c0 : 0 ≤ C := hpb.1
          have c1 : C ≤ 281474976710656 := by omega
          have s0 : 0 ≤ S := HSI.out.1
          have s1 : S ≤ 1152921504606846976 := by have := HSI.out.2; omega
          clear hC hpb hpw HK
          by_cases hc : cfS (bo y x) m u < 0
          · rw [cfR_neg hc] at KC
            rw [if_pos hc] at HFX
            clear hc
            obtain ⟨R, hR⟩ : ∃ q, cfR (bo y x) m u = q := ⟨_, rfl⟩
            rw [hR] at KC
            clear hR
            go_wp2_with (go_at_call 60; with_reducible refine Calls.mono KC.out ?_; rintro e wc ⟨rfl, rfl⟩)
            go_roundw
            case rel => exact ⟨x + 1, by omega, by go_num, by rw [hs1.out, HFX.out, Int.add_zero], bO, HB.out⟩
            case measure => simp [intOf]; omega
          · rw [(cfR_pos hc).1, (cfR_pos hc).2] at KC
            rw [if_neg hc] at HFX
            clear hc
            obtain ⟨R, hR⟩ : ∃ q, cfS (bo y x) m u = q := ⟨_, rfl⟩
            rw [hR] at KC
            clear hR
            go_wp2_with (go_at_call 60; with_reducible refine Calls.mono KC.out ?_; rintro e wc ⟨rfl, rfl⟩)
            go_roundw
            case rel => exact ⟨x + 1, by omega, by go_num, by rw [hs1.out, HFX.out], bO, HB.out⟩
            case measure => simp [intOf]; omega
    · obtain rfl : x = P := by omega
      clear hPi
      go_wp2
      go_ret
      exact ⟨rfl, HB.out⟩
end Go.Proofs.Ytgdnapioboodbaa
