/- The walk of the law FnThresholds over drawn data: it returns true and writes nothing that was there. -/
import Derived.Test.YtgdnapioboodbaaThG
import Derived.Test.YtgdnapioboodbaaThF
import Derived.Test.YtgdnapioboodbaaThD
namespace Go.Proofs.Ytgdnapioboodbaa
open Go.ChangeShapes Go.WideShapes Go.ChangeAt Go.RowKit Go.Shelf Num
set_option linter.unusedVariables false
set_option linter.unusedSimpArgs false

set_option maxRecDepth 100000 in
set_option maxHeartbeats 8000000 in
theorem lths (a0 : Option Addr) (len0 cap0 : Nat) (z0 : List Int) (w : World) (w0 : IsRow .u8 w a0 len0 cap0 z0) :
    Calls Try.prog 4 #[.slice a0 len0 cap0] w fun e w' => e = .returned (.bool true) ∧ Below w.heap.size w w' := by
  obtain ⟨hlen, hcode⟩ := Code8.of_row w0
  obtain ⟨zs, hzs⟩ : ∃ zs, z0.take len0 = zs := ⟨_, rfl⟩
  rw [hzs] at hlen hcode
  subst hlen
  clear hzs w0
  have HC := Lib.hid hcode
  clear hcode
  have HB := Lib.hid (Below.refl w.heap.size w)
  by_cases hbig : 4096 < zs.length
  · have hd : decide ((4096 : Int) < (zs.length : Int)) = true := by simp; omega
    go_enter Try.func4, Try.ntmps4
    go_wp2_with (go_at_call 14; refine (big_any _ _ _ _).mono ?_; rw [hd]; rintro e w' ⟨rfl, rfl⟩)
    go_ret
    exact ⟨rfl, Below.refl _ _⟩
  · have hd : decide ((4096 : Int) < (zs.length : Int)) = false := by simp; omega
    go_enter Try.func4, Try.ntmps4
    go_wp2_with (go_at_call 14; refine (big_any _ _ _ _).mono ?_; rw [hd]; rintro e w' ⟨rfl, rfl⟩)
    clear hd
    refine (dlt13_any _ _ _ zs ((HC.out.below HB.out (Nat.le_refl _)).more HB.out.size)).mono ?_
    rintro e w1 ⟨n, a, x, d, rfl, hb⟩
    replace HB := Lib.hid (bel_end HB.out hb)
    clear hb
    obtain ⟨⟨M, E⟩, hL⟩ : ∃ qq, ltT n a x d = qq := ⟨_, rfl⟩
    have KI : Hid (∀ W : World, Calls Try.prog 21 #[.int .i64 n, .int .i64 a, .int .i64 x, .int .i64 d] W fun e w' => e = .returned (.tuple #[.int .i64 M, .int .i64 E]) ∧ Below W.heap.size W w') := Lib.hid (fun W => by have := ilt_any W n a x d; rwa [hL] at this)
    have KS : Hid (∀ W : World, Calls Try.prog 22 #[.int .i64 n, .int .i64 a, .int .i64 x, .int .i64 d] W fun e w' => e = .returned (.tuple #[.int .i64 M, .int .i64 E]) ∧ Below W.heap.size W w') := Lib.hid (fun W => by have := llt_b W n a x d; rwa [hL] at this)
    have FL : Hid (E = 0 → ltT n a x d = (M, 0)) := Lib.hid (fun h => by rw [hL, h])
    clear hL
    go_wp2_with fail
    refine (KI.out _).mono ?_
    rintro e w2 ⟨rfl, hb⟩
    replace HB := Lib.hid (bel_end HB.out hb)
    clear hb
    go_wp2_with fail
    refine (KS.out _).mono ?_
    rintro e w3 ⟨rfl, hb⟩
    replace HB := Lib.hid (bel_end HB.out hb)
    clear hb
    clear KI KS
    go_wp2_with fail
    refine (dbt13_any _ _ _ zs ((HC.out.below HB.out (Nat.le_refl _)).more HB.out.size)).mono ?_
    rintro e w4 ⟨k, p, q, rfl, hb⟩
    replace HB := Lib.hid (bel_end HB.out hb)
    clear hb
    obtain ⟨⟨B, F⟩, hB⟩ : ∃ qq, btT k p q = qq := ⟨_, rfl⟩
    have KI : Hid (∀ W : World, Calls Try.prog 24 #[.int .i64 k, .int .i64 p, .int .i64 q] W fun e w' => e = .returned (.tuple #[.int .i64 B, .int .i64 F]) ∧ Below W.heap.size W w') := Lib.hid (fun W => by have := ibt_any W k p q; rwa [hB] at this)
    have KS : Hid (∀ W : World, Calls Try.prog 25 #[.int .i64 k, .int .i64 p, .int .i64 q] W fun e w' => e = .returned (.tuple #[.int .i64 B, .int .i64 F]) ∧ Below W.heap.size W w') := Lib.hid (fun W => by have := lbt_b W k p q; rwa [hB] at this)
    have FB : Hid (F = 0 → btT k p q = (B, 0)) := Lib.hid (fun h => by rw [hB, h])
    clear hB
    go_wp2_with fail
    refine (KI.out _).mono ?_
    rintro e w5 ⟨rfl, hb⟩
    replace HB := Lib.hid (bel_end HB.out hb)
    clear hb
    go_wp2_with fail
    refine (KS.out _).mono ?_
    rintro e w6 ⟨rfl, hb⟩
    replace HB := Lib.hid (bel_end HB.out hb)
    clear hb
    clear KI KS
    go_wp2_with fail
    refine (dlr13_any _ _ _ zs ((HC.out.below HB.out (Nat.le_refl _)).more HB.out.size)).mono ?_
    rintro e w7 ⟨c, u, v, rfl, hb⟩
    replace HB := Lib.hid (bel_end HB.out hb)
    clear hb
    obtain ⟨⟨Q, S1⟩, hQ⟩ : ∃ qq, trT c u v = qq := ⟨_, rfl⟩
    have KI : Hid (∀ W : World, Calls Try.prog 27 #[.int .i64 c, .int .i64 u, .int .i64 v] W fun e w' => e = .returned (.tuple #[.int .i64 Q, .int .i64 S1]) ∧ Below W.heap.size W w') := Lib.hid (fun W => by have := itr_any W c u v; rwa [hQ] at this)
    have KS : Hid (∀ W : World, Calls Try.prog 28 #[.int .i64 c, .int .i64 u, .int .i64 v] W fun e w' => e = .returned (.tuple #[.int .i64 Q, .int .i64 S1]) ∧ Below W.heap.size W w') := Lib.hid (fun W => by have := ltr_b W c u v; rwa [hQ] at this)
    clear hQ
    go_wp2_with fail
    refine (KI.out _).mono ?_
    rintro e w8 ⟨rfl, hb⟩
    replace HB := Lib.hid (bel_end HB.out hb)
    clear hb
    go_wp2_with fail
    refine (KS.out _).mono ?_
    rintro e w9 ⟨rfl, hb⟩
    replace HB := Lib.hid (bel_end HB.out hb)
    clear hb
    clear KI KS
    go_wp2_with fail
    go_loopw [25] (fun i wr => ∃ j : Int, 0 ≤ j ∧ i = .int .i64 j ∧ (F = 0 → j ≤ k + 2) ∧ Below w.heap.size w wr) (fun i _ => (k + 2 - intOf i).toNat)
    case atStart => exact ⟨0, by omega, rfl, fun h => by have := (bt_facts (FB.out h)).1; omega, HB.out⟩
    case round =>
      clear HB
      obtain ⟨j, j0, rfl, jk, hb⟩ := hrel
      have HB := Lib.hid hb
      have HJ := Lib.hid jk
      clear hb jk
      by_cases hF : F = 0
      case pos =>
        obtain ⟨hk, hi⟩ := bt_facts (FB.out hF)
        have hj := HJ.out hF
        subst hF
        clear HJ
        obtain ⟨k0, k1⟩ := hk
        by_cases hjk : j ≤ k + 1
        case pos =>
          obtain ⟨X, Y, V, R, h1, h2, h3, h4, hle, ⟨x0, x1⟩, ⟨y0, y1⟩, ⟨v0, v1⟩, ⟨r0, r1⟩⟩ := hi j j0 hjk
          have K1 : Hid (∀ W : World, Calls Try.prog 16 #[.int .i64 k, .int .i64 q, .int .i64 j] W fun e w' => e = .returned (.tuple #[.int .i64 X, .int .i64 0]) ∧ Below W.heap.size W w') := Lib.hid (fun W => by have := itc_any W k q j; rwa [h1] at this)
          have K2 : Hid (∀ W : World, Calls Try.prog 16 #[.int .i64 k, .int .i64 p, .int .i64 j] W fun e w' => e = .returned (.tuple #[.int .i64 Y, .int .i64 0]) ∧ Below W.heap.size W w') := Lib.hid (fun W => by have := itc_any W k p j; rwa [h2] at this)
          have K3 : Hid (∀ W : World, Calls Try.prog 16 #[.int .i64 k, .int .i64 q, .int .i64 B] W fun e w' => e = .returned (.tuple #[.int .i64 V, .int .i64 0]) ∧ Below W.heap.size W w') := Lib.hid (fun W => by have := itc_any W k q B; rwa [h3] at this)
          have K4 : Hid (∀ W : World, Calls Try.prog 16 #[.int .i64 k, .int .i64 p, .int .i64 B] W fun e w' => e = .returned (.tuple #[.int .i64 R, .int .i64 0]) ∧ Below W.heap.size W w') := Lib.hid (fun W => by have := itc_any W k p B; rwa [h4] at this)
          have hle2 : ¬ V - R < X - Y := by omega
          clear h1 h2 h3 h4 hi hle
          go_wp2_with fail
          refine ((K1.out _)).mono ?_
          rintro e w10 ⟨rfl, hb⟩
          replace HB := Lib.hid (bel_end HB.out hb)
          clear hb
          go_wp2_with fail
          refine ((K2.out _)).mono ?_
          rintro e w11 ⟨rfl, hb⟩
          replace HB := Lib.hid (bel_end HB.out hb)
          clear hb
          go_wp2_with fail
          refine ((K3.out _)).mono ?_
          rintro e w12 ⟨rfl, hb⟩
          replace HB := Lib.hid (bel_end HB.out hb)
          clear hb
          go_wp2_with fail
          refine ((K4.out _)).mono ?_
          rintro e w13 ⟨rfl, hb⟩
          replace HB := Lib.hid (bel_end HB.out hb)
          clear hb
          go_wp2_with fail
          go_roundw
          case rel => exact ⟨j + 1, by omega, by go_num, fun _ => by omega, HB.out⟩
          case measure => (simp [intOf]; omega)
        case neg =>
          clear hi
          by_cases h0 : E = 0
          case neg =>
            have hE1 : (E != 0) = true := by simpa using h0
            clear h0 FL
            go_wp2
            go_ret
            exact ⟨rfl, HB.out⟩
          case pos =>
            obtain ⟨⟨⟨n0, n1⟩, ⟨a0, a1⟩, ⟨d0, d1⟩, ⟨x0, x1⟩⟩, ⟨m0, m1⟩, P, X, hc, ht, hle, ⟨p0, p1⟩, ⟨y0, y1⟩, hY⟩ := lt_facts (FL.out h0)
            subst h0
            have KC : Hid (∀ W : World, Calls Try.prog 18 #[.int .i64 n] W fun e w' => e = .returned (.tuple #[.int .i64 P, .int .i64 0]) ∧ Below W.heap.size W w') := Lib.hid (fun W => by have := icc_b W n; rwa [hc] at this)
            have KX : Hid (∀ W : World, Calls Try.prog 16 #[.int .i64 n, .int .i64 a, .int .i64 M] W fun e w' => e = .returned (.tuple #[.int .i64 X, .int .i64 0]) ∧ Below W.heap.size W w') := Lib.hid (fun W => by have := itc_any W n a M; rwa [ht] at this)
            obtain ⟨⟨Y, E1⟩, hy⟩ : ∃ qq, tcT n a (M - 1) = qq := ⟨_, rfl⟩
            have KY : Hid (∀ W : World, Calls Try.prog 16 #[.int .i64 n, .int .i64 a, .int .i64 (M - 1)] W fun e w' => e = .returned (.tuple #[.int .i64 Y, .int .i64 E1]) ∧ Below W.heap.size W w') := Lib.hid (fun W => by have := itc_any W n a (M - 1); rwa [hy] at this)
            have FY : Hid (E1 = 0 → x * P < Y * d ∧ 0 ≤ Y ∧ Y ≤ 281474976710656) := Lib.hid (fun h => hY Y (by rw [hy, h]))
            have w1 := prd48 (x := P) (y := x) p0 p1 x0 (by omega)
            rw [Int.mul_comm] at w1
            have w2 := prd48 (x := X) (y := d) y0 y1 (by omega) d1
            obtain ⟨U, hU⟩ : ∃ qq, x * P = qq := ⟨_, rfl⟩
            obtain ⟨V, hV⟩ : ∃ qq, X * d = qq := ⟨_, rfl⟩
            have u1 : IntKind.wrap .i64 (x * P) = U := by rw [IntWalk.i64_in _ (by omega)]; exact hU
            have v1 : IntKind.wrap .i64 (X * d) = V := by rw [IntWalk.i64_in _ (by omega)]; exact hV
            rw [hU] at hle FY
            rw [hV] at hle
            have D1 := Lib.hid (And.intro d0 d1)
            have hle2 : ¬ U < V := by omega
            clear hc ht hy hY hU hV w1 w2 x0 x1 p0 p1 y0 y1 d0 d1 a0 a1 FL hle
            go_wp2_with fail
            refine (KC.out _).mono ?_
            rintro e w10 ⟨rfl, hb⟩
            replace HB := Lib.hid (bel_end HB.out hb)
            clear hb
            go_wp2_with fail
            refine (KX.out _).mono ?_
            rintro e w11 ⟨rfl, hb⟩
            replace HB := Lib.hid (bel_end HB.out hb)
            clear hb
            go_wp2_with fail
            refine (KY.out _).mono ?_
            rintro e w12 ⟨rfl, hb⟩
            replace HB := Lib.hid (bel_end HB.out hb)
            clear hb
            clear n0 n1 m0 m1 KC KX KY v1 hle2
            by_cases e1 : E1 = 0
            case pos =>
              obtain ⟨f1, f2, f3⟩ := FY.out e1
              subst e1
              have w3 := prd48 (x := Y) (y := d) f2 f3 (by have := D1.out; omega) D1.out.2
              obtain ⟨Z, hZ⟩ : ∃ qq, Y * d = qq := ⟨_, rfl⟩
              have z1 : IntKind.wrap .i64 (Y * d) = Z := by rw [IntWalk.i64_in _ (by omega)]; exact hZ
              rw [hZ] at f1
              clear hZ w3 f2 f3 FY
              go_wp2
              go_ret
              exact ⟨ret_bool (by simp [f1]), HB.out⟩
            case neg =>
              have e1b : (E1 != 0) = true := by simpa using e1
              clear e1 FY
              go_wp2
              go_ret
              exact ⟨rfl, HB.out⟩
      case neg =>
        have hF2 : (F == 0) = false := by simpa using hF
        clear hF HJ
        by_cases h0 : E = 0
        case neg =>
          have hE1 : (E != 0) = true := by simpa using h0
          clear h0 FL
          go_wp2
          go_ret
          exact ⟨rfl, HB.out⟩
        case pos =>
          obtain ⟨⟨⟨n0, n1⟩, ⟨a0, a1⟩, ⟨d0, d1⟩, ⟨x0, x1⟩⟩, ⟨m0, m1⟩, P, X, hc, ht, hle, ⟨p0, p1⟩, ⟨y0, y1⟩, hY⟩ := lt_facts (FL.out h0)
          subst h0
          have KC : Hid (∀ W : World, Calls Try.prog 18 #[.int .i64 n] W fun e w' => e = .returned (.tuple #[.int .i64 P, .int .i64 0]) ∧ Below W.heap.size W w') := Lib.hid (fun W => by have := icc_b W n; rwa [hc] at this)
          have KX : Hid (∀ W : World, Calls Try.prog 16 #[.int .i64 n, .int .i64 a, .int .i64 M] W fun e w' => e = .returned (.tuple #[.int .i64 X, .int .i64 0]) ∧ Below W.heap.size W w') := Lib.hid (fun W => by have := itc_any W n a M; rwa [ht] at this)
          obtain ⟨⟨Y, E1⟩, hy⟩ : ∃ qq, tcT n a (M - 1) = qq := ⟨_, rfl⟩
          have KY : Hid (∀ W : World, Calls Try.prog 16 #[.int .i64 n, .int .i64 a, .int .i64 (M - 1)] W fun e w' => e = .returned (.tuple #[.int .i64 Y, .int .i64 E1]) ∧ Below W.heap.size W w') := Lib.hid (fun W => by have := itc_any W n a (M - 1); rwa [hy] at this)
          have FY : Hid (E1 = 0 → x * P < Y * d ∧ 0 ≤ Y ∧ Y ≤ 281474976710656) := Lib.hid (fun h => hY Y (by rw [hy, h]))
          have w1 := prd48 (x := P) (y := x) p0 p1 x0 (by omega)
          rw [Int.mul_comm] at w1
          have w2 := prd48 (x := X) (y := d) y0 y1 (by omega) d1
          obtain ⟨U, hU⟩ : ∃ qq, x * P = qq := ⟨_, rfl⟩
          obtain ⟨V, hV⟩ : ∃ qq, X * d = qq := ⟨_, rfl⟩
          have u1 : IntKind.wrap .i64 (x * P) = U := by rw [IntWalk.i64_in _ (by omega)]; exact hU
          have v1 : IntKind.wrap .i64 (X * d) = V := by rw [IntWalk.i64_in _ (by omega)]; exact hV
          rw [hU] at hle FY
          rw [hV] at hle
          have D1 := Lib.hid (And.intro d0 d1)
          have hle2 : ¬ U < V := by omega
          clear hc ht hy hY hU hV w1 w2 x0 x1 p0 p1 y0 y1 d0 d1 a0 a1 FL hle
          go_wp2_with fail
          refine (KC.out _).mono ?_
          rintro e w10 ⟨rfl, hb⟩
          replace HB := Lib.hid (bel_end HB.out hb)
          clear hb
          go_wp2_with fail
          refine (KX.out _).mono ?_
          rintro e w11 ⟨rfl, hb⟩
          replace HB := Lib.hid (bel_end HB.out hb)
          clear hb
          go_wp2_with fail
          refine (KY.out _).mono ?_
          rintro e w12 ⟨rfl, hb⟩
          replace HB := Lib.hid (bel_end HB.out hb)
          clear hb
          clear n0 n1 m0 m1 KC KX KY v1 hle2
          by_cases e1 : E1 = 0
          case pos =>
            obtain ⟨f1, f2, f3⟩ := FY.out e1
            subst e1
            have w3 := prd48 (x := Y) (y := d) f2 f3 (by have := D1.out; omega) D1.out.2
            obtain ⟨Z, hZ⟩ : ∃ qq, Y * d = qq := ⟨_, rfl⟩
            have z1 : IntKind.wrap .i64 (Y * d) = Z := by rw [IntWalk.i64_in _ (by omega)]; exact hZ
            rw [hZ] at f1
            clear hZ w3 f2 f3 FY
            go_wp2
            go_ret
            exact ⟨ret_bool (by simp [f1]), HB.out⟩
          case neg =>
            have e1b : (E1 != 0) = true := by simpa using e1
            clear e1 FY
            go_wp2
            go_ret
            exact ⟨rfl, HB.out⟩
end Go.Proofs.Ytgdnapioboodbaa
