/- The walk of the law of sums of intervals over drawn lists. -/
import Derived.Test.YthbcllejojnboaaLDraw
import Derived.Test.YthbcllejojnboaaPLaw
namespace Go.Proofs.Ythbcllejojnboaa
open Go.ChangeShapes Go.WideShapes Go.ChangeAt Go.RowKit Num
set_option linter.unusedVariables false
attribute [local go_sem ↓] Go.wp_at_zero Go.wp_at_succ
theorem ins_any (a b c d : Int) (h1 : c ≤ a) (h2 : b ≤ d) (w : World) :
    Calls Try.prog 26 #[.agg #[.int .i64 a, .int .i64 b], .agg #[.int .i64 c, .int .i64 d]] w fun e w' => e = .returned (.bool true) ∧ Below w.heap.size w w' := by
  go_enter Try.func26, Try.ntmps26
  go_wp2
  go_ret
  exact ⟨rfl, (by repeat (first | exact Below.refl _ _ | (refine Below.alloc ?_ (by simp <;> omega) _) | (refine Below.setCell ?_ (by simp <;> omega) _) | (refine Below.drew ?_) | (refine bel_drewN ?_ _)))⟩
theorem hul_le (ps : List (Int × Int)) : ∀ n j, j ≤ n → hulL ps n ≤ (ps.getD j (0, 0)).1 ∧ (ps.getD j (0, 0)).2 ≤ hulH ps n := by
  intro n
  induction n with
  | zero => intro j hj; obtain rfl : j = 0 := by omega
            exact ⟨Int.le_refl _, Int.le_refl _⟩
  | succ n ih =>
    intro j hj
    have e1 : hulL ps (n + 1) = mnI (hulL ps n) (ps.getD (n + 1) (0, 0)).1 := rfl
    have e2 : hulH ps (n + 1) = mxI (hulH ps n) (ps.getD (n + 1) (0, 0)).2 := rfl
    rw [e1, e2]
    unfold mnI mxI
    by_cases hjn : j ≤ n
    · have := ih j hjn
      constructor <;> split <;> omega
    · obtain rfl : j = n + 1 := by omega
      constructor <;> split <;> omega
theorem sumT_0 {ps : List (Int × Int)} (h : (sumT ps).2.2 = 0) : ierr ps = 0 ∧ sumT ps = (sumL ps ps.length, sumH ps ps.length, 0) ∧ valB (sumL ps ps.length) = true ∧ valB (sumH ps ps.length) = true := by
  by_cases hi : ierr ps = 0
  · rw [sumT_ok hi] at h ⊢
    unfold within at h ⊢
    split at h
    · rename_i hw
      rw [if_pos hw]
      rw [Bool.and_eq_true] at hw
      exact ⟨hi, rfl, hw.1, hw.2⟩
    · cases h
  · rw [sumT_bad hi] at h
    exact absurd h hi
theorem grown_below {W wr w' : World} {s : Nat} (h : W.grownBy wr (some s)) (hb : Below wr.heap.size wr w') : W.grownBy w' (some s) :=
  ⟨hb.os.trans h.os, hb.tape.trans h.tape, hb.output.trans h.output, Nat.le_trans h.size hb.size, fun k hk hne => (hb.block k (Nat.lt_of_lt_of_le hk h.size)).trans (h.block k hk hne)⟩
theorem Ivs.grown {W wr : World} {s B : Nat} {a : Option Addr} {ps : List (Int × Int)} (h : Ivs W B a ps) (hg : W.grownBy wr (some s)) (hB : B ≤ s) : Ivs wr B a ps := fun hp => by
  obtain ⟨b, off, e, hb, hc⟩ := h hp
  exact ⟨b, off, e, hb, fun j hj => ⟨cell_keep (hc j hj).1 hg (by omega), cell_keep (hc j hj).2 hg (by omega)⟩⟩
theorem dsu_any (w : World) (a : Option Addr) (cap : Nat) (zs : List Int) (h : Code8 w w.heap.size a zs) :
    Calls Try.prog 21 #[.slice a zs.length cap] w fun e w' => ∃ (b : Option Addr) (c : Nat) (ps : List (Int × Int)), (e = .returned (.slice b ps.length c)) ∧ (ps.length ≤ 201 ∧ ps.length ≤ c) ∧ Ivs w' w'.heap.size b ps ∧ Below w.heap.size w w' := by
  have H := Lib.hid h
  clear h
  go_enter Try.func21, Try.ntmps21
  go_wp2_with fail
  refine (from_any _ _ _ zs H.out).mono ?_
  rintro e w1 ⟨s, rfl, hs, hsrc, hb⟩
  have B1 := Lib.hid hb
  have S1 := Lib.hid hsrc
  clear hb hsrc
  go_wp2_with fail
  refine (dls_any _ _ S1.out).mono ?_
  rintro e w2 ⟨b, c, ps, rfl, h1, h2, hz, hsrc, hg⟩
  have HF : Hid (∃ (b' : Option Addr) (c' : Nat) (ps' : List (Int × Int)), (Ending.returned (.slice b ps.length c) = .returned (.slice b' ps'.length c')) ∧ (ps'.length ≤ 201 ∧ ps'.length ≤ c') ∧ Ivs w2 w2.heap.size b' ps' ∧ Below w.heap.size w w2) := Lib.hid ⟨b, c, ps, rfl, ⟨h1, h2⟩, hz, below_src B1.out hg hs (Nat.le_refl _)⟩
  clear h1 h2 hz hsrc hg
  go_wp2
  go_ret
  exact HF.out
set_option maxRecDepth 100000 in
set_option maxHeartbeats 8000000 in
theorem lsums (a0 : Option Addr) (len0 cap0 : Nat) (z0 : List Int) (w : World) (w0 : IsRow .u8 w a0 len0 cap0 z0) :
    Calls Try.prog 4 #[.slice a0 len0 cap0] w fun e w' => e = .returned (.bool true) ∧ Below w.heap.size w w' := by
  obtain ⟨hlen, hcode⟩ := Code8.of_row w0
  obtain ⟨zs, hzs⟩ : ∃ zs, z0.take len0 = zs := ⟨_, rfl⟩
  rw [hzs] at hlen hcode
  subst hlen
  clear hzs w0
  have HC := Lib.hid hcode
  clear hcode
  by_cases hbig : 4096 < zs.length
  · have hd : decide ((4096 : Int) < (zs.length : Int)) = true := by simp; omega
    go_enter Try.func4, Try.ntmps4
    go_wp2_with (go_at_call 20; refine (big_any _ _ _ _).mono ?_; rw [hd]; rintro e w' ⟨rfl, rfl⟩)
    go_ret
    exact ⟨rfl, Below.refl _ _⟩
  · have hd : decide ((4096 : Int) < (zs.length : Int)) = false := by simp; omega
    go_enter Try.func4, Try.ntmps4
    go_wp2_with (go_at_call 20; refine (big_any _ _ _ _).mono ?_; rw [hd]; rintro e w' ⟨rfl, rfl⟩)
    clear hd
    refine (dsu_any _ _ _ zs HC.out).mono ?_
    rintro e w1 ⟨b, c, ps, rfl, ⟨hl, hcap⟩, hz, hb⟩
    have B1 := Lib.hid hb
    have Z1 := Lib.hid hz
    clear hb hz
    have hl2 : ps.length ≤ 1048576 := by omega
    obtain ⟨T, hT⟩ : ∃ T, sumT ps = T := ⟨_, rfl⟩
    have HT := Lib.hid hT
    clear hT
    obtain ⟨l, h, c1⟩ := T
    obtain ⟨E, hE⟩ : ∃ E, encT ps = E := ⟨_, rfl⟩
    have HE := Lib.hid hE
    clear hE
    obtain ⟨el, eh, c2⟩ := E
    go_wp2_with fail
    refine (ism_any _ _ _ ps hl2 Z1.out).mono ?_
    rw [HT.out]
    rintro e w2 ⟨rfl, hb⟩
    have Z2 := Lib.hid ((Z1.out.below hb).below ((Below.refl _ _).alloc (o := .cells #[.int .i64 l, .int .i64 h] 25) hb.size))
    have hs12 : w1.heap.size ≤ w2.heap.size := hb.size
    have B2 := Lib.hid (bel_end B1.out hb)
    clear hb
    go_wp2_with fail
    refine (ssm_any _ _ _ ps hl2 (Z2.out.more (by simp; omega))).mono ?_
    rw [HT.out]
    rintro e w3 ⟨rfl, hb⟩
    have PA := Lib.hid ((Pair.new w2 l h 25).keep hb)
    have Z3 := Lib.hid ((Z2.out.below (hb.mono (by simp; omega))).below ((Below.refl _ _).alloc (o := .cells #[.int .i64 l, .int .i64 h] 25) (by have := hb.size; simp at this; omega)))
    have hs13 : w1.heap.size ≤ w3.heap.size := by have := hb.size; simp at this; omega
    have B3 := Lib.hid (bel_end (B2.out.alloc B2.out.size (.cells #[.int .i64 l, .int .i64 h] 25)) hb)
    clear hb
    go_wp2_with fail
    refine (ien_any _ _ _ ps hl2 hcap (Z3.out.more (by simp; omega))).mono ?_
    rw [HE.out]
    rintro e w4 ⟨rfl, hb⟩
    have PA4 := Lib.hid ((PA.out.alloc _).keep hb)
    have PB4 := Lib.hid ((Pair.new w3 l h 25).keep hb)
    have Z4 := Lib.hid ((Z3.out.below (hb.mono (by simp; omega))).below ((Below.refl _ _).alloc (o := .cells #[.int .i64 el, .int .i64 eh] 25) (by have := hb.size; simp at this; omega)))
    have hs14 : w1.heap.size ≤ w4.heap.size := by have := hb.size; simp at this; omega
    have B4 := Lib.hid (bel_end (B3.out.alloc B3.out.size (.cells #[.int .i64 l, .int .i64 h] 25)) hb)
    clear hb PA
    go_wp2_with fail
    refine (sen_any _ _ _ ps hl2 (Z4.out.more (by simp; omega))).mono ?_
    rw [HE.out]
    rintro e w5 ⟨rfl, hb⟩
    have PA5 := Lib.hid (((PA4.out.alloc _).keep hb).alloc (.cells #[.int .i64 el, .int .i64 eh] 25))
    have PB5 := Lib.hid (((PB4.out.alloc _).keep hb).alloc (.cells #[.int .i64 el, .int .i64 eh] 25))
    have PC5 := Lib.hid (((Pair.new w4 el eh 25).keep hb).alloc (.cells #[.int .i64 el, .int .i64 eh] 25))
    have PD5 := Lib.hid (Pair.new w5 el eh 25)
    have Z5 := Lib.hid ((Z4.out.below (hb.mono (by simp; omega))).below ((Below.refl _ _).alloc (o := .cells #[.int .i64 el, .int .i64 eh] 25) (by have := hb.size; simp at this; omega)))
    have hs15 : w1.heap.size ≤ w5.heap.size := by have := hb.size; simp at this; omega
    have B5 := Lib.hid (bel_end (B4.out.alloc B4.out.size (.cells #[.int .i64 el, .int .i64 eh] 25)) hb)
    clear hb PA4 PB4
    obtain ⟨a1, a2⟩ := PA5.out
    obtain ⟨b1, b2⟩ := PB5.out
    obtain ⟨d1, d2⟩ := PC5.out
    by_cases hc : c1 = 0
    · subst hc
      obtain ⟨hi, hsum, hvl, hvh⟩ := sumT_0 (show (sumT ps).2.2 = 0 by rw [HT.out])
      have hlh : l = sumL ps ps.length ∧ h = sumH ps ps.length := by
        have hs := HT.out.symm.trans hsum
        simp only [Prod.mk.injEq] at hs
        exact ⟨hs.1, hs.2.1⟩
      have HLH := Lib.hid hlh
      have HI := Lib.hid hi
      have HV := Lib.hid (And.intro hvl hvh)
      clear hlh hi hsum hvl hvh
      obtain ⟨W, hW⟩ : ∃ W, W = w5.alloc (.cells #[.int .i64 el, .int .i64 eh] 25) := ⟨_, rfl⟩
      have BW : Hid (Below w.heap.size w W) := Lib.hid (by rw [hW]; exact B5.out.alloc B5.out.size _)
      have hWs : w1.heap.size ≤ W.heap.size := by rw [hW]; simp; omega
      go_wp2_with fail
      rw [← hW]
      rw [← hW] at PA5 PC5 Z5
      clear hW a1 a2 b1 b2 d1 d2 PB5 PD5
      have ga := PA5.out.lt
      have gc := PC5.out.lt
      refine (roll_any _ _ _ zs _ (Code8.more (HC.out.below BW.out (Nat.le_refl _)) BW.out.size)).mono ?_
      rintro e w7 ⟨s, rfl, hs, hdice, hb⟩
      have PA := Lib.hid (PA5.out.keep hb)
      have PC := Lib.hid (PC5.out.keep hb)
      have Z7 := Lib.hid (Z5.out.below (hb.mono hWs))
      have B7 := Lib.hid (bel_end BW.out hb)
      have hws : w.heap.size ≤ s := Nat.le_trans BW.out.size hs
      have hw1s : w1.heap.size ≤ s := Nat.le_trans hWs hs
      have HD := Lib.hid hdice
      clear hb hdice PA5 PC5 Z5
      obtain ⟨hlen, hv⟩ := ierr_0 HI.out
      have HAV := Lib.hid hv
      clear hv
      go_wp2_with fail
      go_loopw [13, 14] (fun t i wr => ∃ (k : Nat) (q : Int), k ≤ ps.length ∧ i = .int .i64 k ∧ t = .int .i64 q ∧ (sumL ps k ≤ q ∧ q ≤ sumH ps k) ∧ Dice wr s ∧ w7.grownBy wr (some s)) (fun _ i _ => ps.length - (intOf i).toNat)
      case atStart => exact ⟨0, 0, by omega, rfl, rfl, ⟨Int.le_refl _, Int.le_refl _⟩, HD.out, grown_refl _ _⟩
      case round =>
        obtain ⟨k, q, hk, rfl, rfl, hq, hdr, hgr⟩ := hrel
        have HQ := Lib.hid hq
        have HG := Lib.hid hgr
        have hbd := sums_bd HAV.out k hk
        obtain ⟨q1, q2⟩ := hq
        have q3 : -300000000000000 ≤ q := by omega
        have q4 : q ≤ 300000000000000 := by omega
        clear q1 q2 hbd hgr
        by_cases hlt : k < ps.length
        · obtain ⟨bb, off, x, y, rfl, hB, hxy, hc1, hc2⟩ := (Z7.out.grown HG.out hw1s).at_ hlt
          have hvx := vldB_t (allV_at HAV.out hlt)
          rw [hxy] at hvx
          obtain ⟨x1, x2, y1, y2, xy⟩ := hvx
          have HX := Lib.hid hxy
          have hddr := hdr.drew
          have i0 : (0 : Int) ≤ (k : Int) := by omega
          have i1 : IntKind.i64.wrap (y - x) = y - x := IntWalk.i64_in _ (by omega)
          have i2 : IntKind.i64.wrap (y - x + 1) = y - x + 1 := IntWalk.i64_in _ (by omega)
          have i3 : IntKind.i64.wrap (q + x) = q + x := IntWalk.i64_in _ (by omega)
          have hne : bb ≠ s := by omega
          have hE0 : c2 = 0 ∧ el ≤ x ∧ y ≤ eh := by
            have h1 := encT_ok HI.out (show ¬ ps.length = 0 by omega)
            have h2 := HE.out.symm.trans h1
            simp only [Prod.mk.injEq] at h2
            have h3 := hul_le ps (ps.length - 1) k (by omega)
            rw [hxy] at h3
            rw [h2.1, h2.2.1]
            exact ⟨h2.2.2, h3⟩
          obtain ⟨e0, e1, e2⟩ := hE0
          have ec : (c2 == 0) = true := by simpa using e0
          clear hxy e0
          go_wp2_with fail
          go_region_held3 (fun w' => w'.cell? ⟨bb, off + k * 2, none⟩ = some (.int .i64 x) ∧ w'.cell? ⟨bb, off + k * 2 + 1, none⟩ = some (.int .i64 y))
            (first
              | (exact ⟨hc1, hc2⟩)
              | (go_split_ands; exact ⟨cell_keep (by assumption) hg hne, cell_keep (by assumption) hg hne⟩))
            (first
              | (go_at_call 25; ((with_reducible refine (bel_any _ _ (y - x + 1) (by omega) (by assumption)).mono ?_); rintro e wq ⟨r, rfl, hr0, hr1, hdq, hg⟩); have hgq := Lib.hid hg))
          clear i1 i2 i3 hddr
          have hgw : wr.grownBy wq (some s) := ⟨hgq.out.os, hgq.out.tape, hgq.out.output, hgq.out.size, hgq.out.block⟩
          have HGQ := Lib.hid (grown_trans HG.out hgw)
          have PCq := Lib.hid ((PC.out.grown HG.out (by omega)).grown hgw (by omega))
          have n1 : wq.cell? ⟨bb, off + k * 2, none⟩ = some (.int .i64 x) := cell_keep hc1 hgw hne
          have n2 : wq.cell? ⟨bb, off + k * 2 + 1, none⟩ = some (.int .i64 y) := cell_keep hc2 hgw hne
          obtain ⟨n3, n4⟩ := PCq.out
          have HDQ := Lib.hid hdq
          have e3 : IntKind.i64.wrap (q + x + r) = q + x + r := IntWalk.i64_in _ (by omega)
          have HK : Hid (sumL ps (k + 1) ≤ q + x + r ∧ q + x + r ≤ sumH ps (k + 1)) := Lib.hid (by
            have f1 : sumL ps (k + 1) = sumL ps k + (ps.getD k (0, 0)).1 := rfl
            have f2 : sumH ps (k + 1) = sumH ps k + (ps.getD k (0, 0)).2 := rfl
            rw [f1, f2, HX.out]
            have := HQ.out
            constructor
            · show sumL ps k + x ≤ _; omega
            · show _ ≤ sumH ps k + y; omega)
          have hgsz := HGQ.out.size
          rw [e3]
          obtain ⟨q', hq'⟩ : ∃ q', q + x + r = q' := ⟨_, rfl⟩
          have HQ' := Lib.hid hq'
          rw [hq']
          clear hq' e3 hdq hg hgw hc1 hc2 hr0 hr1 hgq
          try clear hHeld
          go_wp2_with fail
          go_region_held3 (fun w' => w'.cell? ⟨bb, off + k * 2, none⟩ = some (.int .i64 x) ∧ w'.cell? ⟨bb, off + k * 2 + 1, none⟩ = some (.int .i64 y) ∧ w'.cell? ⟨w4.heap.size, 0, none⟩ = some (.int .i64 el) ∧ w'.cell? ⟨w4.heap.size, 1, none⟩ = some (.int .i64 eh))
            (first
              | (exact ⟨n1, n2, n3, n4⟩)
              | (go_split_ands; exact ⟨keep1 (by assumption) hb, keep1 (by assumption) hb, keep1 (by assumption) hb, keep1 (by assumption) hb⟩))
            (first
              | (go_at_call 26; ((with_reducible refine (ins_any _ _ _ _ e1 e2 _).mono ?_); rintro e wz ⟨rfl, hb⟩)))
          have hbz : Below wq.heap.size wq wz := ⟨hb.os, hb.tape, hb.output, hb.size, hb.block⟩
          have HBZ := Lib.hid hbz
          clear hbz hb n1 n2 n3 n4
          go_wp2
          go_roundw
          case rel => exact ⟨k + 1, q', by omega, by go_num, rfl, by rw [← HQ'.out]; exact HK.out, HDQ.out.below HBZ.out, grown_below HGQ.out HBZ.out⟩
          case measure => simp [intOf]; omega
        · obtain rfl : k = ps.length := by omega
          have PAr := Lib.hid (PA.out.grown HG.out (by omega))
          have hhn : hnB l h q = true := by
            unfold hnB vldB hasB
            rw [HLH.out.1, HLH.out.2, HV.out.1, HV.out.2, decide_eq_true HQ.out.1, decide_eq_true HQ.out.2, decide_eq_true (Int.le_trans HQ.out.1 HQ.out.2)]; rfl
          have HN := Lib.hid hhn
          have B8 := Lib.hid (below_src B7.out HG.out hws (Nat.le_refl _))
          clear hhn hdr
          obtain ⟨p0, p1⟩ := PAr.out
          go_wp2_with fail
          refine (ihn_any _ _ _ _).mono ?_
          rw [HN.out]
          rintro e w9 ⟨rfl, hb⟩
          have B9 := Lib.hid (bel_end B8.out hb)
          clear hb
          go_wp2
          go_ret
          exact ⟨rfl, B9.out⟩
    · have hcn : (c1 != 0) = true := by simpa using hc
      go_wp2
      go_ret
      exact ⟨rfl, B5.out.alloc B5.out.size _⟩
end Go.Proofs.Ythbcllejojnboaa
