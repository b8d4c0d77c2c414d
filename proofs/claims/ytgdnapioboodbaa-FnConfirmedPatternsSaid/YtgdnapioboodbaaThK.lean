/- The walk of the law FnConfirmedPatterns over drawn data: it returns true and writes nothing that was there. -/
import Derived.Test.YtgdnapioboodbaaThG
import Derived.Test.YtgdnapioboodbaaThF
import Derived.Test.YtgdnapioboodbaaThD
import Derived.Deep.AppendLies
namespace Go.Proofs.Ytgdnapioboodbaa
open Go.ChangeShapes Go.WideShapes Go.ChangeAt Go.RowKit Go.Shelf Num
set_option linter.unusedVariables false
set_option linter.unusedSimpArgs false
theorem sh_eq {K R : Int} {r : Nat} (h : 8 ^ r * K = R) (hr : r ≤ 12) (k0 : 0 ≤ K) (k1 : K ≤ 4096) : K * (2 : Int) ^ (3 * r) = R ∧ 0 ≤ R ∧ R ≤ 281474976710656 := by
  have e : (2 : Int) ^ (3 * r) = 8 ^ r := by rw [Int.pow_mul]; rfl
  have hn := Nat.pow_le_pow_right (n := 8) (by decide) hr
  have hc : ((8 : Int) ^ r) = ((8 ^ r : Nat) : Int) := by simp
  have h12 : (8 ^ 12 : Nat) = 68719476736 := rfl
  rw [h12] at hn
  rw [e, Int.mul_comm, h]
  rw [hc] at h
  obtain ⟨q, hq⟩ : ∃ q : Nat, 8 ^ r = q := ⟨_, rfl⟩
  rw [hq] at h hn
  have a := mulnn (a := (q : Int)) (b := K) (by omega) k0
  have b := Int.mul_le_mul (show (q : Int) ≤ 68719476736 by omega) k1 k0 (by omega)
  exact ⟨rfl, by omega, by omega⟩
set_option maxRecDepth 100000 in
theorem run_pre (b off n c h : Nat) (h1 : h ≤ c) (h2 : 0 < c) (w : World) : (Instr.sliceAt 32 (.slice (some ⟨b, off, none⟩) n c) none (some (.int .i64 (h : Int))) none).run Try.prog w = .ok (.slice (some ⟨b, off, none⟩) h c) w := by
  rw [run_sliceAt_slice (w := w) _ _ _ _ _ Try.underlying32, run_slice_h (w := w) _ _ _ _ Try.underlying32 .i64 (h : Int) (by omega) (by omega)]
  have hs : (sizeOf (Try.prog.elem 32)).run Try.prog w = .ok 1 w := by kernel_rfl
  rw [hs]
  simp [Result.andThen, sliced, Addr.add, show ¬ c = 0 by omega]

set_option maxRecDepth 100000 in
set_option maxHeartbeats 8000000 in
theorem lcps (a0 : Option Addr) (len0 cap0 : Nat) (z0 : List Int) (w : World) (w0 : IsRow .u8 w a0 len0 cap0 z0) :
    Calls Try.prog 5 #[.slice a0 len0 cap0] w fun e w' => e = .returned (.bool true) ∧ Below w.heap.size w w' := by
  obtain ⟨hlen, hcode⟩ := Code8.of_row w0
  obtain ⟨zs, hzs⟩ : ∃ zs, z0.take len0 = zs := ⟨_, rfl⟩
  rw [hzs] at hlen hcode
  subst hlen
  clear hzs w0
  have HC := Lib.hid hcode
  clear hcode
  have HB := Lib.hid (Below.refl w.heap.size w)
  by_cases hbig : 4096 < zs.length
  · have hd : decide ((4096 : Int) < (zs.length : Int)) = true := by simp; omega
    go_enter Try.func5, Try.ntmps5
    go_wp2_with (go_at_call 14; refine (big_any _ _ _ _).mono ?_; rw [hd]; rintro e w' ⟨rfl, rfl⟩)
    go_ret
    exact ⟨rfl, Below.refl _ _⟩
  · have hd : decide ((4096 : Int) < (zs.length : Int)) = false := by simp; omega
    go_enter Try.func5, Try.ntmps5
    go_wp2_with (go_at_call 14; refine (big_any _ _ _ _).mono ?_; rw [hd]; rintro e w' ⟨rfl, rfl⟩)
    clear hd
    obtain ⟨i0, hi, hz0, hz1, hz2⟩ := info_parts info_i64
    refine (dck13_any _ _ _ zs ((HC.out.below HB.out (Nat.le_refl _)).more HB.out.size)).mono ?_
    rintro e w1 ⟨n, a, m, v, rfl, hb⟩
    replace HB := Lib.hid (bel_end HB.out hb)
    clear hb
    obtain ⟨⟨X, E⟩, hT⟩ : ∃ qq, ckT n a m v = qq := ⟨_, rfl⟩
    obtain ⟨⟨K, D⟩, hC⟩ : ∃ qq, cpT n m v = qq := ⟨_, rfl⟩
    have KI : Hid (∀ W : World, Calls Try.prog 30 #[.int .i64 n, .int .i64 a, .int .i64 m, .int .i64 v] W fun e w' => e = .returned (.tuple #[.int .i64 X, .int .i64 E]) ∧ Below W.heap.size W w') := Lib.hid (fun W => by have := ick_any W n a m v; rwa [hT] at this)
    have KS : Hid (∀ W : World, Calls Try.prog 31 #[.int .i64 n, .int .i64 a, .int .i64 m, .int .i64 v] W fun e w' => e = .returned (.tuple #[.int .i64 X, .int .i64 E]) ∧ Below W.heap.size W w') := Lib.hid (fun W => by have := sck_any W n a m v; rwa [hT] at this)
    have CI : Hid (∀ W : World, Calls Try.prog 32 #[.int .i64 n, .int .i64 m, .int .i64 v] W fun e w' => e = .returned (.tuple #[.int .i64 K, .int .i64 D]) ∧ Below W.heap.size W w') := Lib.hid (fun W => by have := icp_any W n m v; rwa [hC] at this)
    have CS : Hid (∀ W : World, Calls Try.prog 33 #[.int .i64 n, .int .i64 m, .int .i64 v] W fun e w' => e = .returned (.tuple #[.int .i64 K, .int .i64 D]) ∧ Below W.heap.size W w') := Lib.hid (fun W => by have := scp_any W n m v; rwa [hC] at this)
    have FA : Hid (E = 0 → D = 0 ∧ (0 ≤ n ∧ n ≤ 12) ∧ (0 ≤ K ∧ K ≤ 4096) ∧ (n = 0 → X = 0 ∧ K = 0) ∧ ckT n 8 m v = (8 ^ n.toNat * K, 0) ∧ ∃ T, ckT n a 1 v = (T, 0) ∧ tcT n a 1 = (T, 0)) := Lib.hid (fun h => by subst h; exact ck_facts hT hC)
    clear hT hC
    go_wp2_with fail
    refine (KI.out _).mono ?_
    rintro e w2 ⟨rfl, hb⟩
    replace HB := Lib.hid (bel_end HB.out hb)
    clear hb
    go_wp2_with fail
    refine (KS.out _).mono ?_
    rintro e w3 ⟨rfl, hb⟩
    replace HB := Lib.hid (bel_end HB.out hb)
    clear hb
    go_wp2_with fail
    refine (CI.out _).mono ?_
    rintro e w4 ⟨rfl, hb⟩
    replace HB := Lib.hid (bel_end HB.out hb)
    clear hb
    go_wp2_with fail
    refine (CS.out _).mono ?_
    rintro e w5 ⟨rfl, hb⟩
    replace HB := Lib.hid (bel_end HB.out hb)
    clear hb
    clear KI KS CI CS
    go_wp2_with fail
    refine (dcs13_any _ _ _ zs ((HC.out.below HB.out (Nat.le_refl _)).more HB.out.size)).mono ?_
    rintro e wq ⟨ad, cc, nn, ps, lm, lv, rfl, hn, h401, hcap, hor, hz, hb⟩
    replace HB := Lib.hid (bel_end HB.out hb)
    have HZ := Lib.hid (IntL.of hz)
    clear hb hz
    obtain ⟨⟨J, F⟩, hS⟩ : ∃ qq, csT ps lm lv = qq := ⟨_, rfl⟩
    have LI : Hid (∀ W : World, Ints .i64 W W.heap.size ad ps → Calls Try.prog 35 #[.slice ad nn cc, .int .i64 lm, .int .i64 lv] W fun e w' => e = .returned (.tuple #[.int .i64 J, .int .i64 F]) ∧ Below W.heap.size W w') := Lib.hid (fun W h => by have := ics_any W ad cc nn ps lm lv hn (by omega) h; rwa [hS] at this)
    have LS : Hid (∀ W : World, Ints .i64 W W.heap.size ad ps → Calls Try.prog 36 #[.slice ad nn cc, .int .i64 lm, .int .i64 lv] W fun e w' => e = .returned (.tuple #[.int .i64 J, .int .i64 F]) ∧ Below W.heap.size W w') := Lib.hid (fun W h => by have := scs13_b W ad cc nn ps lm lv hn (by omega) hcap h; rwa [hS] at this)
    have HF : Hid (F = 0 → 0 ≤ J ∧ J < nn ∧ nn ≤ 13 ∧ csT (ps.take (J.toNat + 1) ++ [0]) lm lv = (J, 0)) := Lib.hid (fun h => by
      subst h
      rcases hor with h13 | hzz
      · obtain ⟨f1, f2, f3⟩ := cs_stay (by omega) hS
        exact ⟨f1, by omega, h13, f3⟩
      · exact absurd (by rw [hS]) (cs_zero (m := lm) (v := lv) hzz))
    have HN := Lib.hid hn
    clear hS hor hn
    go_wp2_with fail
    refine (LI.out _ HZ.out.ints).mono ?_
    rintro e w6 ⟨rfl, hb⟩
    replace HZ := Lib.hid (HZ.out.on hb)
    replace HB := Lib.hid (bel_end HB.out hb)
    clear hb
    go_wp2_with fail
    refine (LI.out _ HZ.out.ints).mono ?_
    rintro e w7 ⟨rfl, hb⟩
    replace HZ := Lib.hid (HZ.out.on hb)
    replace HB := Lib.hid (bel_end HB.out hb)
    clear hb
    go_wp2_with fail
    refine (LS.out _ HZ.out.ints).mono ?_
    rintro e w8 ⟨rfl, hb⟩
    replace HZ := Lib.hid (HZ.out.on hb)
    replace HB := Lib.hid (bel_end HB.out hb)
    clear hb
    clear LI LS
    by_cases hF : F = 0
    case pos =>
      obtain ⟨j0, j1, j13, hst⟩ := HF.out hF
      subst hF
      obtain ⟨j, rfl⟩ : ∃ j : Nat, J = (j : Int) := ⟨J.toNat, by omega⟩
      rw [Int.toNat_natCast] at hst
      obtain ⟨L, hL⟩ : ∃ L, ps.take (j + 1) = L := ⟨_, rfl⟩
      rw [hL] at hst
      have hLn : L.length = j + 1 := by rw [← hL, List.length_take, HN.out]; omega
      have HLN := Lib.hid hLn
      obtain ⟨b, off, rfl, hbb, hcl⟩ := HZ.out.ints (by rw [HN.out]; omega)
      clear HF
      obtain ⟨N1, hN1⟩ : ∃ q, q = j + 1 := ⟨_, rfl⟩
      have hsl : ∀ w : World, (Instr.sliceAt 32 (.slice (some ⟨b, off, none⟩) nn cc) none (some (.int .i64 ((j : Int) + 1))) none).run Try.prog w = .ok (.slice (some ⟨b, off, none⟩) N1 cc) w := fun w => by have := run_pre b off nn cc (j + 1) (by omega) (by omega) w; rw [← hN1] at this; rw [← this, hN1]; rfl
      rw [← hN1] at hLn
      have HNW : Hid (∀ q u, (L.map iv4)[q]? = some u → w8.cell? ((⟨b, off, none⟩ : Addr).add q) = some u) := Lib.hid (ints_cells (B := 0) (fun q hq => by rw [← hL, List.getD_eq_getElem?_getD, List.getElem?_take, if_pos (by omega), ← List.getD_eq_getElem?_getD]; exact hcl q (by rw [HN.out]; omega)))
      have how : Hid ((w8.alloc (.cells #[] 2)).ownsRow w8.heap.size 2 1 (.slice (some ⟨w8.heap.size, 0, none⟩) 0 0) 0 []) := Lib.hid (World.ownsRow_lit w8 #[] 0 (Nat.le_refl _) (by decide) (by decide))
      have LK : Hid (∀ (W : World) (a2 : Option Addr) (c2 : Nat), Ints .i64 W W.heap.size a2 (L ++ [0]) → Calls Try.prog 35 #[.slice a2 (N1 + 1) c2, .int .i64 lm, .int .i64 lv] W fun e w' => e = .returned (.tuple #[.int .i64 (j : Int), .int .i64 0]) ∧ Below W.heap.size W w') := Lib.hid (fun W a2 c2 h => by have := ics_any W a2 c2 (N1 + 1) (L ++ [0]) lm lv (by rw [List.length_append, hLn]; rfl) (by omega) h; rwa [hst] at this)
      have HLN := Lib.hid hLn
      have n13 : N1 ≤ 13 := by omega
      have hj13 : (j : Int) ≤ 13 := by omega
      clear hst hLn hcl hL hbb hN1 j0 j1 HN
      go_wp2_with (at_builtin; refine wpList_append_own _ rfl _ _ 32 rfl w8.heap.size 2 i0 (.int .i64 0) 1 8 Try.underlying32 hi hz0 hz1 hz2 rfl (by decide) _ _ _ rfl how.out ⟨b, off, none⟩ N1 cc (L.map iv4) rfl ?qc1 ?qc2 ?qc3 ?qc4 ?qc5 ?qc6 ?_)
      case qc1 => rw [List.length_map, HLN.out, Nat.mul_one]
      case qc2 =>
        intro q u hq
        exact Lib.cell?_alloc_some _ (HNW.out q u hq)
      case qc3 => exact one_iv4
      case qc4 => (unfold maxLen; omega)
      case qc5 => omega
      case qc6 => simp
      intro v' wB hown hgrow hnil
      have HBB : Hid (Below w8.heap.size w8 wB) := Lib.hid (((Below.refl _ _).alloc (Nat.le_refl _) _).grown hgrow (by simp) (by intro k hk; simp [Value.ownBlock] at hk; omega))
      obtain ⟨g1, c1, rfl⟩ : ∃ g c', v' = .slice (some ⟨g, 0, none⟩) N1 c' := by
        rcases hown.2 with ⟨h', -⟩ | ⟨g, cap', cur, hv, -⟩
        · exact absurd h' hnil
        · exact ⟨g, cap', hv⟩
      have HR1 : Hid (RowG w8 2 1 g1 c1 N1 (L.map iv4) wB) := Lib.hid ⟨hown, HBB.out⟩
      clear hown hgrow hnil how HNW hsl
      go_wp2_with (at_builtin; refine wpList_append_lies _ rfl _ _ 32 rfl w8.heap.size 2 i0 (.int .i64 0) 1 8 Try.underlying32 hi hz0 hz1 hz2 rfl (by decide) (.slice (some ⟨g1, 0, none⟩) N1 c1) N1 (L.map iv4) rfl (HR1.out.own.alloc _) ⟨wB.heap.size, 0, none⟩ 1 1 [.int .i64 0] rfl rfl (World.news_of_block (cs := #[.int .i64 0]) (t := 2) (fr := (0, 0)) (heap_alloc_new wB _)) (by simp [Value.oneCell']) (by decide) (by unfold maxLen; omega) (by omega) (by simp; exact Nat.le_succ_of_le HR1.out.bel.size) (wB.heap.size + 1) (by simp) ?_; intro g2 c2 wS hown hgrow hat hlt9; have HS1 := Lib.hid ((HR1.out.on ((Below.refl _ _).alloc (Nat.le_refl _) _)).snoc hown hgrow); clear hown hgrow hat hlt9)
      have HA1 : Hid (RowG w8 2 1 g2 c2 (N1 + 1) ((L ++ [0]).map iv4) wS) := Lib.hid (by rw [List.map_append]; exact HS1.out)
      have HO1 := Lib.hid (ownA_row (lo := w8.heap.size) HA1.out (by rw [List.length_append, HLN.out]; rfl) (Nat.le_refl _))
      replace HB := Lib.hid (bel_end HB.out HA1.out.bel)
      clear HR1 HS1 HA1 HBB
      refine (LK.out _ _ _ HO1.out.ints).mono ?_
      rintro e w9 ⟨rfl, hb⟩
      replace HB := Lib.hid (bel_end HB.out hb)
      clear hb
      clear LK HO1 HLN n13 hj13 HZ
      go_upto_region 18 with fail
      by_cases h0 : E = 0
      case neg =>
        have hE1 : (E != 0) = true := by simpa using h0
        clear h0 FA
        go_wp2
        go_ret
        exact ⟨rfl, HB.out⟩
      case pos =>
        obtain ⟨rfl, ⟨n0, n1⟩, ⟨k0, k1⟩, hz, h8, Q, hq1, hq2⟩ := FA.out h0
        subst h0
        clear FA
        have K8 : Hid (∀ W : World, Calls Try.prog 30 #[.int .i64 n, .int .i64 8, .int .i64 m, .int .i64 v] W fun e w' => e = .returned (.tuple #[.int .i64 (8 ^ n.toNat * K), .int .i64 0]) ∧ Below W.heap.size W w') := Lib.hid (fun W => by have := ick_any W n 8 m v; rwa [h8] at this)
        have K1 : Hid (∀ W : World, Calls Try.prog 30 #[.int .i64 n, .int .i64 a, .int .i64 1, .int .i64 v] W fun e w' => e = .returned (.tuple #[.int .i64 Q, .int .i64 0]) ∧ Below W.heap.size W w') := Lib.hid (fun W => by have := ick_any W n a 1 v; rwa [hq1] at this)
        have KT : Hid (∀ W : World, Calls Try.prog 16 #[.int .i64 n, .int .i64 a, .int .i64 1] W fun e w' => e = .returned (.tuple #[.int .i64 Q, .int .i64 0]) ∧ Below W.heap.size W w') := Lib.hid (fun W => by have := itc_any W n a 1; rwa [hq2] at this)
        obtain ⟨r, rfl⟩ : ∃ r : Nat, n = (r : Int) := ⟨n.toNat, by omega⟩
        rw [Int.toNat_natCast] at K8
        have H3 : Hid (∃ R : Int, 8 ^ r * K = R) := Lib.hid ⟨_, rfl⟩
        obtain ⟨R, hR⟩ := H3.out
        rw [hR] at K8
        have HR := Lib.hid hR
        have HZ0 := Lib.hid hz
        clear h8 hq1 hq2 hR hz H3
        go_wp2_with fail
        refine (K8.out _).mono ?_
        rintro e w10 ⟨rfl, hb⟩
        replace HB := Lib.hid (bel_end HB.out hb)
        clear hb
        go_wp2_with fail
        refine (K1.out _).mono ?_
        rintro e w11 ⟨rfl, hb⟩
        replace HB := Lib.hid (bel_end HB.out hb)
        clear hb
        go_wp2_with fail
        refine (KT.out _).mono ?_
        rintro e w12 ⟨rfl, hb⟩
        replace HB := Lib.hid (bel_end HB.out hb)
        clear hb
        clear K8 K1 KT
        by_cases r0 : r = 0
        case pos =>
          obtain ⟨rfl, rfl⟩ := HZ0.out (by omega)
          subst r0
          go_wp2
          go_ret
          exact ⟨rfl, HB.out⟩
        case neg =>
          clear HZ0
          obtain ⟨sh1, sh2, sh3⟩ := sh_eq HR.out (by omega) k0 k1
          have rr : ((r : Int) == 0) = false := by rw [beq_eq_false_iff_ne]; omega
          go_wp2
          go_ret
          exact ⟨rfl, HB.out⟩
    case neg =>
      have hF2 : (F == 0) = false := by simpa using hF
      clear hF HF HZ HN
      go_upto_region 18 with fail
      by_cases h0 : E = 0
      case neg =>
        have hE1 : (E != 0) = true := by simpa using h0
        clear h0 FA
        go_wp2
        go_ret
        exact ⟨rfl, HB.out⟩
      case pos =>
        obtain ⟨rfl, ⟨n0, n1⟩, ⟨k0, k1⟩, hz, h8, Q, hq1, hq2⟩ := FA.out h0
        subst h0
        clear FA
        have K8 : Hid (∀ W : World, Calls Try.prog 30 #[.int .i64 n, .int .i64 8, .int .i64 m, .int .i64 v] W fun e w' => e = .returned (.tuple #[.int .i64 (8 ^ n.toNat * K), .int .i64 0]) ∧ Below W.heap.size W w') := Lib.hid (fun W => by have := ick_any W n 8 m v; rwa [h8] at this)
        have K1 : Hid (∀ W : World, Calls Try.prog 30 #[.int .i64 n, .int .i64 a, .int .i64 1, .int .i64 v] W fun e w' => e = .returned (.tuple #[.int .i64 Q, .int .i64 0]) ∧ Below W.heap.size W w') := Lib.hid (fun W => by have := ick_any W n a 1 v; rwa [hq1] at this)
        have KT : Hid (∀ W : World, Calls Try.prog 16 #[.int .i64 n, .int .i64 a, .int .i64 1] W fun e w' => e = .returned (.tuple #[.int .i64 Q, .int .i64 0]) ∧ Below W.heap.size W w') := Lib.hid (fun W => by have := itc_any W n a 1; rwa [hq2] at this)
        obtain ⟨r, rfl⟩ : ∃ r : Nat, n = (r : Int) := ⟨n.toNat, by omega⟩
        rw [Int.toNat_natCast] at K8
        have H3 : Hid (∃ R : Int, 8 ^ r * K = R) := Lib.hid ⟨_, rfl⟩
        obtain ⟨R, hR⟩ := H3.out
        rw [hR] at K8
        have HR := Lib.hid hR
        have HZ0 := Lib.hid hz
        clear h8 hq1 hq2 hR hz H3
        go_wp2_with fail
        refine (K8.out _).mono ?_
        rintro e w9 ⟨rfl, hb⟩
        replace HB := Lib.hid (bel_end HB.out hb)
        clear hb
        go_wp2_with fail
        refine (K1.out _).mono ?_
        rintro e w10 ⟨rfl, hb⟩
        replace HB := Lib.hid (bel_end HB.out hb)
        clear hb
        go_wp2_with fail
        refine (KT.out _).mono ?_
        rintro e w11 ⟨rfl, hb⟩
        replace HB := Lib.hid (bel_end HB.out hb)
        clear hb
        clear K8 K1 KT
        by_cases r0 : r = 0
        case pos =>
          obtain ⟨rfl, rfl⟩ := HZ0.out (by omega)
          subst r0
          go_wp2
          go_ret
          exact ⟨rfl, HB.out⟩
        case neg =>
          clear HZ0
          obtain ⟨sh1, sh2, sh3⟩ := sh_eq HR.out (by omega) k0 k1
          have rr : ((r : Int) == 0) = false := by rw [beq_eq_false_iff_ne]; omega
          go_wp2
          go_ret
          exact ⟨rfl, HB.out⟩
end Go.Proofs.Ytgdnapioboodbaa
