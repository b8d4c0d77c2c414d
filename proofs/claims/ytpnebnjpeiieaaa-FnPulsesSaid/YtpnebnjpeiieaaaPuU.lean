/- The walk of the law FnPulses over drawn data: it returns true and writes nothing that was there. -/
import Derived.Test.YtpnebnjpeiieaaaPuX
import Derived.Test.YtpnebnjpeiieaaaPuD
import Derived.Test.YtpnebnjpeiieaaaPuK
namespace Go.Proofs.Ytpnebnjpeiieaaa
open Go.ChangeShapes Go.WideShapes Go.ChangeAt Go.RowKit Go.Shelf Num
set_option linter.unusedVariables false
set_option linter.unusedSimpArgs false
/-- the laws' comparison of a list with itself -/
theorem lku_any (w : World) (a b : Option Addr) (c d : Nat) (xs : List Int) (hl : xs.length ≤ 1048576) (hx : Ints .i64 w w.heap.size a xs) (hy : Ints .i64 w w.heap.size b xs) :
    Calls Try.prog 24 #[.slice a xs.length c, .slice b xs.length d] w fun e w' => e = .returned (.bool true) ∧ Below w.heap.size w w' :=
  (lki_any w w.heap.size a b c d xs hl hx hy).mono (by rintro e w' ⟨rfl, n, rfl⟩; exact ⟨rfl, bel_drewN (Below.refl _ _) _⟩)
theorem pl_facts {bs : List Int} {w am : Int} (h : plC bs w am = 0) : ∃ wn : Nat, w = (wn : Int) ∧ 1 ≤ am ∧ am ≤ 1000 ∧ bs.length ≤ 400 ∧ wn ≤ 400 ∧ bs.length * wn ≤ 400 ∧ bitL bs ∧ plL bs w am = pulK bs wn am bs.length ∧ plC (otB bs bs.length) w am = 0 ∧ plL (otB bs bs.length) w am = (pulK bs wn am bs.length).map (fun x => -x) := by
  obtain ⟨h1, h2, h3, h4, h5, h6, h7⟩ := plC_0 h
  obtain ⟨wn, rfl⟩ : ∃ wn : Nat, w = (wn : Int) := ⟨w.toNat, by omega⟩
  rw [Int.toNat_natCast] at h7
  have hb := bitL_of h2
  have hc : plC (otB bs bs.length) (wn : Int) am = 0 := by
    have h8 := h
    unfold plC at h ⊢
    rw [otB_len, anyLack_ot hb]
    rw [h2] at h
    exact h
  refine ⟨wn, rfl, h5, h6, h1, by omega, h7, hb, ?_, hc, ?_⟩
  · unfold plL; rw [if_pos h, Int.toNat_natCast]
  · unfold plL
    rw [if_pos hc, Int.toNat_natCast, otB_len, pulK_neg wn am hb (Nat.le_refl _)]
theorem getD_neg (L : List Int) (i : Nat) : (L.map (fun x => -x)).getD i 0 = -(L.getD i 0) := by
  rw [List.getD_eq_getElem?_getD, List.getD_eq_getElem?_getD, List.getElem?_map]
  cases L[i]? <;> simp
theorem plS_facts {bs : List Int} {w am : Int} (h : plC bs w am = 0) : sigB (plL bs w am) = true := by
  obtain ⟨wn, rfl, a1, a2, -, -, h5, -, e, -⟩ := pl_facts h
  rw [e]; exact pulK_sig a1 a2 h5

set_option maxRecDepth 100000 in
set_option maxHeartbeats 8000000 in
theorem lpls (a0 : Option Addr) (len0 cap0 : Nat) (z0 : List Int) (w : World) (w0 : IsRow .u8 w a0 len0 cap0 z0) :
    Calls Try.prog 4 #[.slice a0 len0 cap0] w fun e w' => e = .returned (.bool true) ∧ Below w.heap.size w w' := by
  obtain ⟨hlen, hcode⟩ := Code8.of_row w0
  obtain ⟨zs, hzs⟩ : ∃ zs, z0.take len0 = zs := ⟨_, rfl⟩
  rw [hzs] at hlen hcode
  subst hlen
  clear hzs w0
  have HC := Lib.hid hcode
  clear hcode
  have HB := Lib.hid (Below.refl w.heap.size w)
  by_cases hbig : 4096 < zs.length
  · have hd : decide ((4096 : Int) < (zs.length : Int)) = true := by simp; omega
    go_enter Try.func4, Try.ntmps4
    go_wp2_with (go_at_call 14; refine (big_any _ _ _ _).mono ?_; rw [hd]; rintro e w' ⟨rfl, rfl⟩)
    go_ret
    exact ⟨rfl, Below.refl _ _⟩
  · have hd : decide ((4096 : Int) < (zs.length : Int)) = false := by simp; omega
    go_enter Try.func4, Try.ntmps4
    go_wp2_with (go_at_call 14; refine (big_any _ _ _ _).mono ?_; rw [hd]; rintro e w' ⟨rfl, rfl⟩)
    clear hd
    refine (dpb_any _ _ _ zs HC.out).mono ?_
    rintro e w1 ⟨pa, pc, pn, ps, wd, am, rfl, rfl, n4, -, hp, hb⟩
    replace HB := Lib.hid (HB.out.trans (hb.mono HB.out.size))
    have q1 := hb.size
    have HP := Lib.hid (IntL.of hp)
    clear hp hb
    have HLB0 := Lib.hid (fun h => (sigB_t (plS_facts (bs := ps) (w := wd) (am := am) h)).2)
    have HF := Lib.hid (fun h => pl_facts (bs := ps) (w := wd) (am := am) h)
    have l12 := plL_len ps wd am
    obtain ⟨LL, hL⟩ : ∃ x, plL ps wd am = x := ⟨_, rfl⟩
    obtain ⟨qq, hqq⟩ : ∃ x, plC ps wd am = x := ⟨_, rfl⟩
    rw [hL] at l12
    rw [hL, hqq] at HF HLB0
    have S1 : Hid (∀ (W : World) (a : Option Addr) (c : Nat), Ints .i64 W W.heap.size a ps → Calls Try.prog 28 #[.slice a ps.length c, .int .i64 wd, .int .i64 am] W fun e w' => ∃ (a' : Option Addr) (c' : Nat), e = .returned (.tuple #[.slice a' LL.length c', .int .i64 qq]) ∧ OwnA w' W.heap.size w'.heap.size a' c' LL ∧ Below W.heap.size W w') := Lib.hid (fun W a c h0 => by have := spb_any W a c ps wd am (by omega) h0; rwa [hL, hqq] at this)
    have S2 : Hid (∀ (W : World) (a : Option Addr) (c : Nat), Ints .i64 W W.heap.size a ps → Calls Try.prog 27 #[.slice a ps.length c, .int .i64 wd, .int .i64 am] W fun e w' => ∃ (a' : Option Addr) (c' : Nat), e = .returned (.tuple #[.slice a' LL.length c', .int .i64 qq]) ∧ OwnA w' W.heap.size w'.heap.size a' c' LL ∧ Below W.heap.size W w') := Lib.hid (fun W a c h0 => by have := ipb_any W a c ps wd am (by omega) h0; rwa [hL, hqq] at this)
    clear hL hqq
    go_wp2_with fail
    refine (S2.out _ _ _ HP.out.ints).mono ?_
    rintro e w2 ⟨xa, xc, rfl, ho, hb⟩
    replace HP := Lib.hid (HP.out.on hb)
    replace HB := Lib.hid (HB.out.trans (hb.mono HB.out.size))
    have q2 := hb.size
    have HX := Lib.hid ho
    clear ho hb
    go_wp2_with fail
    refine (S1.out _ _ _ HP.out.ints).mono ?_
    rintro e w3 ⟨ma, mc, rfl, ho, hb⟩
    replace HP := Lib.hid (HP.out.on hb)
    replace HX := Lib.hid (HX.out.on hb)
    replace HB := Lib.hid (HB.out.trans (hb.mono HB.out.size))
    have q3 := hb.size
    have HM := Lib.hid ho
    clear ho hb
    go_wp2_with fail
    refine (lku_any _ _ _ _ _ LL (by omega) HX.out.ints HM.out.ints).mono ?_
    rintro e w4 ⟨rfl, hb⟩
    replace HP := Lib.hid (HP.out.on hb)
    replace HX := Lib.hid (HX.out.on hb)
    replace HM := Lib.hid (HM.out.on hb)
    replace HB := Lib.hid (HB.out.trans (hb.mono HB.out.size))
    have q4 := hb.size
    clear hb
    clear S1 S2
    clear HM
    by_cases h0 : qq = 0
    case pos =>
      subst h0
      obtain ⟨wn, rfl, am1, am2, f3, f4, f5, fb, fL, fC, fM⟩ := HF.out rfl
      have HLB := Lib.hid (HLB0.out rfl)
      clear HF HLB0
      have fE := pulK_energy ps wn am
      have fS := pulK_sig (bs := ps) (w := wn) am1 am2 f5
      have fN := pulK_len (bs := ps) wn am (Nat.le_refl _)
      rw [← fL] at fE fS fN fM
      have hE : enV LL = ((ps.length * wn : Nat) : Int) * (am * am) := by unfold enV; rw [if_pos fS, fE]
      have hSg : sgC LL = 0 := by unfold sgC; rw [if_pos fS]
      obtain ⟨P1, hP1⟩ : ∃ P1 : Nat, ps.length * wn = P1 := ⟨_, rfl⟩
      have e1 : (ps.length : Int) * (wn : Int) = (P1 : Int) := by rw [← hP1, Int.natCast_mul]
      have m2 := mul_abs (a := (P1 : Int)) (n := am) (A := 400) (N := 1000) (by omega) (by omega)
      obtain ⟨P2, hP2⟩ : ∃ P2 : Int, (P1 : Int) * am = P2 := ⟨_, rfl⟩
      rw [hP2] at m2
      have m3 := mul_abs (a := P2) (n := am) (A := 400000) (N := 1000) (by omega) (by omega)
      obtain ⟨P3, hP3⟩ : ∃ P3 : Int, P2 * am = P3 := ⟨_, rfl⟩
      rw [hP3] at m3
      have hE3 : enV LL = P3 := by rw [hE, hP1, ← hP3, ← hP2, Int.mul_assoc]
      have b2 : -400000 ≤ P2 ∧ P2 ≤ 400000 := by omega
      have b3 : -400000000 ≤ P3 ∧ P3 ≤ 400000000 := by omega
      obtain ⟨b21, b22⟩ := b2
      obtain ⟨b31, b32⟩ := b3
      have hP14 : P1 ≤ 400 := by rw [← hP1]; exact f5
      have HE1 := Lib.hid (And.intro e1 (And.intro hP2 hP3))
      have HNL : Hid (LL.length = P1) := Lib.hid (by rw [fN, hP1])
      have HBT := Lib.hid fb
      have KE := Lib.hid (fun (W : World) (hz : Ints .i64 W W.heap.size xa LL) => by have := ien_any W xa xc LL (by omega) (ownA_cap HX.out) hz; rwa [hE3, hSg] at this)
      have HFC := Lib.hid fC
      have HFM := Lib.hid fM
      clear fE fS fN hE hSg e1 m2 m3 hP2 hP3 hE3 fL fC fM fb hP1
      go_wp2_with fail
      refine (KE.out _ HX.out.ints).mono ?_
      rintro e w5 ⟨rfl, hb⟩
      replace HP := Lib.hid (HP.out.on hb)
      replace HX := Lib.hid (HX.out.on hb)
      replace HB := Lib.hid (HB.out.trans (hb.mono HB.out.size))
      have q5 := hb.size
      clear hb
      obtain ⟨i0, hi, hz0, hz1, hz2⟩ := info_parts info_i64
      go_wp2_with fail
      have HR0 := Lib.hid (RowG.lit (w1 := w5) (t := 2) (m := 1) (W := w5.alloc (.cells #[] 2)) (Bk.new' rfl) (Nat.le_refl _) ((Below.refl _ _).alloc (Nat.le_refl _) _))
      go_loopw [12, 13] (fun v z wr => ∃ (k ge ce : Nat), k ≤ ps.length ∧ v = .slice (some ⟨ge, 0, none⟩) k ce ∧ z = .int .i64 (k : Int) ∧ RowG w5 2 1 ge ce k ((otB ps k).map iv4) wr) (fun _ z _ => ps.length - (intOf z).toNat)
      case atStart => exact ⟨0, w5.heap.size, 0, by omega, rfl, rfl, HR0.out⟩
      case round =>
        obtain ⟨k, ge, ce, hk, rfl, rfl, hR⟩ := hrel
        have HR := Lib.hid hR
        clear hR HR0
        by_cases hlt : k < ps.length
        case pos =>
          obtain ⟨b1, o1, ra, hB1, hc1⟩ := (HP.out.ints.below HR.out.bel).at_ hlt
          have hb2 := HBT.out k hlt
          have hsn := otB_succ ps k
          subst ra
          obtain ⟨v, hv⟩ : ∃ v, ps.getD k 0 = v := ⟨_, rfl⟩
          rw [hv] at hc1 hb2 hsn
          have v0 : 0 ≤ v := by omega
          have v1 : v ≤ 1 := by omega
          have HSN : Hid ((otB ps k).map iv4 ++ [.int .i64 (1 - v)] = (otB ps (k + 1)).map iv4) := Lib.hid (by rw [hsn, List.map_append]; rfl)
          clear hv hsn hb2
          go_wp2_with (at_builtin; refine wpList_append_lies _ rfl _ _ 24 rfl w5.heap.size 2 i0 (.int .i64 0) 1 8 Try.underlying24 hi hz0 hz1 hz2 rfl (by decide) (.slice (some ⟨ge, 0, none⟩) k ce) k ((otB ps k).map iv4) rfl (HR.out.own.alloc _) ⟨wr.heap.size, 0, none⟩ 1 1 [.int .i64 (1 - v)] rfl rfl (World.news_of_block (cs := #[.int .i64 (1 - v)]) (t := 2) (fr := (0, 0)) (heap_alloc_new wr _)) (by simp [Value.oneCell']) (by decide) (by unfold maxLen; omega) (by omega) (by simp; exact Nat.le_succ_of_le HR.out.bel.size) (wr.heap.size + 1) (by simp) ?_; intro g2 cp2 w9 hown hgrow hat hlt9; have HR9 := Lib.hid ((HR.out.on ((Below.refl _ _).alloc (Nat.le_refl _) _)).snoc hown hgrow); clear hown hgrow hat hlt9)
          rw [HSN.out] at HR9
          go_wp2_with fail
          go_roundw
          case rel => exact ⟨k + 1, g2, cp2, by omega, rfl, by go_num, HR9.out⟩
          case measure => simp [intOf]; omega
        case neg =>
          obtain rfl : k = ps.length := by omega
          have HO := Lib.hid (ownA_row HR.out (otB_len _ _) (Nat.le_refl _))
          have hb := HR.out.bel
          have hsz := hb.size
          replace HP := Lib.hid (HP.out.on hb)
          replace HX := Lib.hid (HX.out.on hb)
          replace HB := Lib.hid (HB.out.trans (hb.mono HB.out.size))
          clear hb HR
          have HMl : Hid ((LL.map (fun x => -x)).length = P1) := Lib.hid (by rw [List.length_map]; exact HNL.out)
          have S1 : Hid (∀ (W : World) (a : Option Addr) (c : Nat), Ints .i64 W W.heap.size a (otB ps ps.length) → Calls Try.prog 28 #[.slice a ps.length c, .int .i64 (wn : Int), .int .i64 am] W fun e w' => ∃ (a' : Option Addr) (c' : Nat), e = .returned (.tuple #[.slice a' P1 c', .int .i64 0]) ∧ OwnA w' W.heap.size w'.heap.size a' c' (LL.map (fun x => -x)) ∧ Below W.heap.size W w') := Lib.hid (fun W a c h0 => by have := spb_any W a c (otB ps ps.length) (wn : Int) am (by rw [otB_len]; omega) h0; rw [HFC.out, HFM.out, HMl.out, otB_len] at this; exact this)
          have S2 : Hid (∀ (W : World) (a : Option Addr) (c : Nat), Ints .i64 W W.heap.size a (otB ps ps.length) → Calls Try.prog 27 #[.slice a ps.length c, .int .i64 (wn : Int), .int .i64 am] W fun e w' => ∃ (a' : Option Addr) (c' : Nat), e = .returned (.tuple #[.slice a' P1 c', .int .i64 0]) ∧ OwnA w' W.heap.size w'.heap.size a' c' (LL.map (fun x => -x)) ∧ Below W.heap.size W w') := Lib.hid (fun W a c h0 => by have := ipb_any W a c (otB ps ps.length) (wn : Int) am (by rw [otB_len]; omega) h0; rw [HFC.out, HFM.out, HMl.out, otB_len] at this; exact this)
          go_wp2_with fail
          refine (S2.out _ _ _ HO.out.ints).mono ?_
          rintro e w6 ⟨ya, yc, rfl, ho, hb⟩
          replace HP := Lib.hid (HP.out.on hb)
          replace HX := Lib.hid (HX.out.on hb)
          replace HO := Lib.hid (HO.out.on hb)
          replace HB := Lib.hid (HB.out.trans (hb.mono HB.out.size))
          have q6 := hb.size
          have HY := Lib.hid ho
          clear ho hb
          go_wp2_with fail
          refine (S1.out _ _ _ HO.out.ints).mono ?_
          rintro e w7 ⟨za, zc, rfl, ho, hb⟩
          replace HP := Lib.hid (HP.out.on hb)
          replace HX := Lib.hid (HX.out.on hb)
          replace HO := Lib.hid (HO.out.on hb)
          replace HY := Lib.hid (HY.out.on hb)
          replace HB := Lib.hid (HB.out.trans (hb.mono HB.out.size))
          have q7 := hb.size
          have HZ := Lib.hid ho
          clear ho hb
          have KL : Hid (∀ (W : World), Ints .i64 W W.heap.size ya (LL.map (fun x => -x)) → Ints .i64 W W.heap.size za (LL.map (fun x => -x)) → Calls Try.prog 24 #[.slice ya P1 yc, .slice za P1 zc] W fun e w' => e = .returned (.bool true) ∧ Below W.heap.size W w') := Lib.hid (fun W h1 h2 => by have := lku_any W ya za yc zc (LL.map (fun x => -x)) (by rw [HMl.out]; omega) h1 h2; rwa [HMl.out] at this)
          go_wp2_with fail
          refine (KL.out _ HY.out.ints HZ.out.ints).mono ?_
          rintro e w8 ⟨rfl, hb⟩
          replace HP := Lib.hid (HP.out.on hb)
          replace HX := Lib.hid (HX.out.on hb)
          replace HO := Lib.hid (HO.out.on hb)
          replace HY := Lib.hid (HY.out.on hb)
          replace HZ := Lib.hid (HZ.out.on hb)
          replace HB := Lib.hid (HB.out.trans (hb.mono HB.out.size))
          have q8 := hb.size
          clear hb
          obtain ⟨e1, e2, e3⟩ := HE1.out
          rw [HNL.out]
          obtain ⟨W, hW⟩ : ∃ X, X = w8 := ⟨_, rfl⟩
          rw [← hW] at HX HY HB ⊢
          clear hW S1 S2 KL
          go_wp2_with fail
          clear e1 e2 e3
          go_loopw [18] (fun z wr => ∃ k : Nat, (∃ n, wr = W.drewN n) ∧ k ≤ P1 ∧ z = .int .i64 (k : Int)) (fun z _ => P1 - (intOf z).toNat)
          case atStart => exact ⟨0, ⟨0, rfl⟩, by omega, rfl⟩
          case round =>
            obtain ⟨k, ⟨nd, rfl⟩, hk, rfl⟩ := hrel
            by_cases hlt : k < P1
            · obtain ⟨b1, o1, ra, -, hc1⟩ := HX.out.ints.at_ (j := k) (by rw [HNL.out]; exact hlt)
              obtain ⟨b2, o2, rb, -, hc2⟩ := HY.out.ints.at_ (j := k) (by rw [HMl.out]; exact hlt)
              rw [getD_neg] at hc2
              subst ra rb
              have hvb : -1000000 ≤ LL.getD k 0 ∧ LL.getD k 0 ≤ 1000000 := by have := HLB.out k; omega
              obtain ⟨v, hv⟩ : ∃ v, LL.getD k 0 = v := ⟨_, rfl⟩
              rw [hv] at hc1 hc2 hvb
              obtain ⟨u, hu⟩ : ∃ u, -v = u := ⟨_, rfl⟩
              rw [hu] at hc2
              have hneg : IntKind.wrap .i64 (-u) = v := by rw [← hu, Int.neg_neg]; exact IntWalk.i64_in _ (by omega)
              clear hv hu hvb
              go_wp2
              go_quiet (fail)
              go_wp2
              go_roundw
              case rel => exact ⟨k + 1, ⟨_, rfl⟩, by omega, by go_num⟩
              case measure => simp [intOf]; omega
            · obtain rfl : k = P1 := by omega
              go_wp2
              go_ret
              exact ⟨rfl, below_drewN HB.out _⟩
    case neg =>
      have hne : (qq != 0) = true := by simpa using h0
      go_wp2
      go_ret
      exact ⟨rfl, HB.out⟩
end Go.Proofs.Ytpnebnjpeiieaaa
