/- The walk of the law of texts of fractions over drawn ones. -/
import Derived.Test.YtkiadgmolkpgfabDoorSRead
import Derived.Test.YtkiadgmolkpgfabDoorRDraw2
import Derived.Test.YtkiadgmolkpgfabDoorDmg
import Derived.Test.YtkiadgmolkpgfabDoorPair
namespace Go.Proofs.YtkiadgmolkpgfabDoor
open Go.ChangeShapes Go.WideShapes Go.ChangeAt Go.RowKit Num
set_option linter.unusedVariables false
theorem ratT_small (a b : Int) : (ratT a b).size ≤ 50 := by
  cases h : ratB a b
  · rw [ratT_no h]; decide
  · obtain ⟨a1, a2, b1, b2, _⟩ := ratB_t h
    have s1 := numS_size (x := a) (by omega)
    have s2 := numS_size (x := b) (by omega)
    rw [ratT_ok h, ByteArray.size_append, ByteArray.size_append]
    have : (ByteArray.mk #[47]).size = 1 := rfl
    omega
def StrDrawn (w : World) (e : Ending) (w' : World) : Prop := ∃ t : ByteArray, e = .returned (.string t) ∧ t.size ≤ 2000 ∧ Below w.heap.size w w'
theorem drd_any (w : World) (a : Option Addr) (cap : Nat) (zs : List Int) (h : Code8 w w.heap.size a zs) :
    Calls Tryd.prog 30 #[.slice a zs.length cap] w (StrDrawn w) := by
  have H := Lib.hid h
  clear h
  go_enter Tryd.func30, Tryd.ntmps30
  go_wp2_with fail
  refine (from_any _ _ _ zs H.out).mono ?_
  rintro e w1 ⟨s, rfl, hs, hsrc, hb⟩
  have S1 := Lib.hid hsrc
  have B1 := Lib.hid hb
  clear hsrc hb
  go_wp2_with fail
  refine (drr_any _ _ S1.out).mono ?_
  rintro e w2 ⟨x, y, rfl, hsrc, hg⟩
  have S2 := Lib.hid hsrc
  have B2 := Lib.hid (B1.out.trans (below_of_grown hg hs B1.out.size))
  clear hsrc hg
  go_wp2_with fail
  refine (stx_any x y _).mono ?_
  rintro e w3 ⟨rfl, hb⟩
  have S3 := Lib.hid (S2.out.bel hb)
  have B3 := Lib.hid (B2.out.trans (hb.mono B2.out.size))
  clear hb
  have hsz := ratT_small x y
  go_wp2_with fail
  refine (nxt_any _ _ _ S3.out).mono ?_
  rintro e w4 ⟨n, rfl, hn0, hn1, -, hsrc, hg⟩
  have S4 := Lib.hid hsrc
  have B4 := Lib.hid (B3.out.trans (below_of_grown hg hs B3.out.size))
  clear hsrc hg hn1
  by_cases y0 : n = 0
  · subst y0
    go_wp2_with fail
    refine (dmg_any _ _ _ S4.out (by omega)).mono ?_
    rintro e w5 ⟨t, rfl, hts, hsrc, hg⟩
    have B5 := Lib.hid (B4.out.trans (below_of_grown hg hs B4.out.size))
    clear hsrc hg
    go_wp2_with fail
    go_ret
    exact ⟨t, rfl, by omega, B5.out⟩
  · have b0 : (n == 0) = false := by simpa using y0
    go_wp2_with fail
    go_ret
    exact ⟨_, rfl, by omega, B4.out⟩
theorem rat_some {a b x y : Int} {k : Bool} (h : RR (ratT a b) x y k) : (k = true ∧ x = a ∧ y = b ∧ ¬ (ratT a b).size = 0) ∨ (k = false ∧ x = 0 ∧ y = 0 ∧ ratT a b = ⟨#[]⟩) := by
  cases hr : ratB a b
  · rcases h with ⟨rfl, hx, e⟩ | ⟨rfl, rfl, rfl, _⟩
    · rw [ratT_no hr] at e
      have := congrArg ByteArray.size e
      rw [ratT_ok hx, ByteArray.size_append, ByteArray.size_append] at this
      have h1 : (ByteArray.mk #[47]).size = 1 := rfl
      have h2 : (ByteArray.mk #[]).size = 0 := rfl
      omega
    · exact Or.inr ⟨rfl, rfl, rfl, ratT_no hr⟩
  · obtain ⟨⟨e1, e2⟩, e3⟩ := RR.unique h (Or.inl ⟨rfl, hr, rfl⟩)
    refine Or.inl ⟨e3, e1, e2, ?_⟩
    rw [ratT_ok hr, ByteArray.size_append, ByteArray.size_append]
    have h1 : (ByteArray.mk #[47]).size = 1 := rfl
    omega
theorem ne_empty {s : ByteArray} (h : ¬ s.size = 0) : s.toList.isEmpty = false := by
  rw [ByteArray.toList_eq]
  cases hl : s.data.toList with
  | nil => exact absurd (by have := congrArg List.length hl; simpa using this) h
  | cons a r => rfl
theorem cmp_anti (a b c d : Int) : cmpV c d a b = -(cmpV a b c d) ∧ cmpC c d a b = cmpC a b c d := by
  unfold cmpV cmpC
  rw [Bool.and_comm (ratB c d)]
  cases (ratB a b && ratB c d)
  · exact ⟨rfl, rfl⟩
  · exact ⟨sgn_anti _ _, rfl⟩
theorem cmp_cases (a b c d : Int) : cmpV a b c d = -1 ∨ cmpV a b c d = 0 ∨ cmpV a b c d = 1 := by
  unfold cmpV sgn
  split
  · split
    · exact Or.inl rfl
    · split
      · exact Or.inr (Or.inr rfl)
      · exact Or.inr (Or.inl rfl)
  · exact Or.inr (Or.inl rfl)
set_option maxRecDepth 100000 in
set_option maxHeartbeats 16000000 in
theorem lrtxs (a0 : Option Addr) (len0 cap0 : Nat) (z0 : List Int) (w : World) (w0 : IsRow .u8 w a0 len0 cap0 z0) (ht : Pow10 w) (h1 : ∃ tp p, w.var? Tryd.prog "strconv.ErrSyntax" = some #[.iface tp p]) (h2 : ∃ tp p, w.var? Tryd.prog "strconv.ErrRange" = some #[.iface tp p]) (hm : MaxCell w) :
    Calls Tryd.prog 6 #[.slice a0 len0 cap0] w fun e w' => e = .returned (.bool true) ∧ Below w.heap.size w w' := by
  have HT := Lib.hid ht
  have HE := Lib.hid (errs_of h1 h2)
  have HM := Lib.hid hm
  clear ht h1 h2 hm
  obtain ⟨hlen, hcode⟩ := Code8.of_row w0
  obtain ⟨zs, hzs⟩ : ∃ zs, z0.take len0 = zs := ⟨_, rfl⟩
  rw [hzs] at hlen hcode
  subst hlen
  clear hzs w0
  have HC := Lib.hid hcode
  clear hcode
  by_cases hbig : 4096 < zs.length
  · have hd : decide ((4096 : Int) < (zs.length : Int)) = true := by simp; omega
    go_enter Tryd.func6, Tryd.ntmps6
    go_wp2_with (go_at_call 8; refine (big_any _ _ _ _).mono ?_; rw [hd]; rintro e w' ⟨rfl, rfl⟩)
    go_ret
    exact ⟨rfl, Below.refl _ _⟩
  · have hd : decide ((4096 : Int) < (zs.length : Int)) = false := by simp; omega
    go_enter Tryd.func6, Tryd.ntmps6
    go_wp2_with (go_at_call 8; refine (big_any _ _ _ _).mono ?_; rw [hd]; rintro e w' ⟨rfl, rfl⟩)
    clear hd
    refine (drtx_any _ _ _ zs HC.out).mono ?_
    rintro e w1 ⟨a, b, rfl, hb⟩
    have B1 := Lib.hid hb
    clear hb
    have BA := Lib.hid (B1.out.alloc B1.out.size (.cells #[.int .i64 a, .int .i64 b] 45))
    go_wp2_with fail
    refine (irtx_any _ _ _ (HT.out.later BA.out)).mono ?_
    rintro e w2 ⟨rfl, hb⟩
    have PA_2 := Lib.hid ((Pair.new w1 a b 45).keep hb)
    have B2 := Lib.hid (bel_end (B1.out.alloc B1.out.size (.cells #[.int .i64 a, .int .i64 b] 45)) hb)
    clear hb
    clear BA
    have hsz := ratT_small a b
    obtain ⟨t, htt⟩ : ∃ t, ratT a b = t := ⟨_, rfl⟩
    have HTT := Lib.hid htt
    rw [htt] at hsz
    rw [htt]
    clear htt
    have BA := B2
    go_wp2_with fail
    refine (ird_any t _ (by omega) (HT.out.later BA.out) (HE.out.later BA.out) (HM.out.later BA.out)).mono ?_
    rintro e w3 ⟨x, y, ok, rfl, hr, hb⟩
    have PA_3 := Lib.hid (PA_2.out.keep hb)
    have B3 := Lib.hid (bel_end B2.out hb)
    clear hb
    clear PA_2
    clear BA
    have R1 := Lib.hid (rat_some (a := a) (b := b) (by rw [HTT.out]; exact hr))
    clear hr
    have BA := Lib.hid (B3.out.alloc B3.out.size (.cells #[.int .i64 x, .int .i64 y] 45))
    go_wp2_with fail
    refine (drd_any _ _ _ zs (Code8.more (HC.out.below BA.out (Nat.le_refl _)) BA.out.size)).mono ?_
    rintro e w4 ⟨s, rfl, hs, hb⟩
    have PA_4 := Lib.hid ((PA_3.out.alloc _).keep hb)
    have PX_4 := Lib.hid ((Pair.new w3 x y 45).keep hb)
    have B4 := Lib.hid (bel_end (B3.out.alloc B3.out.size (.cells #[.int .i64 x, .int .i64 y] 45)) hb)
    clear hb
    clear PA_3
    clear BA
    have BA := B4
    go_wp2_with fail
    refine (ird_any s _ (by omega) (HT.out.later BA.out) (HE.out.later BA.out) (HM.out.later BA.out)).mono ?_
    rintro e w5 ⟨p, q, one, rfl, hr, hb⟩
    have PA_5 := Lib.hid (PA_4.out.keep hb)
    have PX_5 := Lib.hid (PX_4.out.keep hb)
    have B5 := Lib.hid (bel_end B4.out hb)
    clear hb
    clear PA_4 PX_4
    clear BA
    have R2 := Lib.hid hr
    clear hr
    go_wp2_with fail
    refine (srd_any s _ (by omega)).mono ?_
    rintro e w6 ⟨p', q', two, rfl, hr, hb⟩
    have PA_6 := Lib.hid ((PA_5.out.alloc _).keep hb)
    have PX_6 := Lib.hid ((PX_5.out.alloc _).keep hb)
    have PY_6 := Lib.hid ((Pair.new w5 p q 45).keep hb)
    have B6 := Lib.hid (bel_end (B5.out.alloc B5.out.size (.cells #[.int .i64 p, .int .i64 q] 45)) hb)
    clear hb
    clear PA_5 PX_5
    obtain ⟨⟨rfl, rfl⟩, rfl⟩ := RR.unique hr R2.out
    clear hr
    have BA := Lib.hid (B6.out.alloc B6.out.size (.cells #[.int .i64 p', .int .i64 q'] 45))
    go_wp2_with fail
    refine (dcr_any _ _ _ zs (Code8.more (HC.out.below BA.out (Nat.le_refl _)) BA.out.size)).mono ?_
    rintro e w7 ⟨c, d, u, v, rfl, hb⟩
    have PA_7 := Lib.hid ((PA_6.out.alloc _).keep hb)
    have PX_7 := Lib.hid ((PX_6.out.alloc _).keep hb)
    have PY_7 := Lib.hid ((PY_6.out.alloc _).keep hb)
    have PZ_7 := Lib.hid ((Pair.new w6 p' q' 45).keep hb)
    have B7 := Lib.hid (bel_end (B6.out.alloc B6.out.size (.cells #[.int .i64 p', .int .i64 q'] 45)) hb)
    clear hb
    clear PA_6 PX_6 PY_6
    clear BA
    obtain ⟨e1, e2⟩ := cmp_anti c d u v
    have hcs := cmp_cases c d u v
    obtain ⟨k, hk⟩ : ∃ k, cmpV c d u v = k := ⟨_, rfl⟩
    obtain ⟨bad, hbad⟩ : ∃ k, cmpC c d u v = k := ⟨_, rfl⟩
    rw [hk] at e1 hcs
    rw [hbad] at e2
    have HK := Lib.hid (And.intro hk hbad)
    have HK2 := Lib.hid (And.intro e1 e2)
    have hk1 : -1 ≤ k ∧ k ≤ 1 := by omega
    obtain ⟨k1, k2⟩ := hk1
    clear hk hbad e1 e2 hcs
    go_wp2_with fail
    refine (icr_is HK.out.1 HK.out.2 _).mono ?_
    rintro e w8 ⟨rfl, hb⟩
    have PA_8 := Lib.hid (((PA_7.out.alloc _).alloc _).keep hb)
    have PX_8 := Lib.hid (((PX_7.out.alloc _).alloc _).keep hb)
    have PY_8 := Lib.hid (((PY_7.out.alloc _).alloc _).keep hb)
    have PZ_8 := Lib.hid (((PZ_7.out.alloc _).alloc _).keep hb)
    have PC_8 := Lib.hid (((Pair.new w7 c d 45).alloc _).keep hb)
    have PD_8 := Lib.hid ((Pair.new2 w7 _ u v 45).keep hb)
    have B8 := Lib.hid (bel_end (bel_end B7.out (below_refl2 _ _ _)) hb)
    clear hb
    clear PA_7 PX_7 PY_7 PZ_7
    obtain ⟨uC0, uC1⟩ := PC_8.out
    have gC := PC_8.out.lt
    obtain ⟨uD0, uD1⟩ := PD_8.out
    have gD := PD_8.out.lt
    go_wp2_with fail
    refine (scr_is HK.out.1 HK.out.2 _).mono ?_
    rintro e w9 ⟨rfl, hb⟩
    have PA_9 := Lib.hid (PA_8.out.keep hb)
    have PX_9 := Lib.hid (PX_8.out.keep hb)
    have PY_9 := Lib.hid (PY_8.out.keep hb)
    have PZ_9 := Lib.hid (PZ_8.out.keep hb)
    have PC_9 := Lib.hid (PC_8.out.keep hb)
    have PD_9 := Lib.hid (PD_8.out.keep hb)
    have B9 := Lib.hid (bel_end B8.out hb)
    clear hb
    clear uC0 uC1 gC uD0 uD1 gD
    clear PA_8 PX_8 PY_8 PZ_8 PC_8 PD_8
    obtain ⟨uC0, uC1⟩ := PC_9.out
    have gC := PC_9.out.lt
    obtain ⟨uD0, uD1⟩ := PD_9.out
    have gD := PD_9.out.lt
    go_wp2_with fail
    refine (icr_is HK2.out.1 HK2.out.2 _).mono ?_
    rintro e w10 ⟨rfl, hb⟩
    have PA_10 := Lib.hid (PA_9.out.keep hb)
    have PX_10 := Lib.hid (PX_9.out.keep hb)
    have PY_10 := Lib.hid (PY_9.out.keep hb)
    have PZ_10 := Lib.hid (PZ_9.out.keep hb)
    have PC_10 := Lib.hid (PC_9.out.keep hb)
    have PD_10 := Lib.hid (PD_9.out.keep hb)
    have B10 := Lib.hid (bel_end B9.out hb)
    clear hb
    clear uC0 uC1 gC uD0 uD1 gD
    clear PA_9 PX_9 PY_9 PZ_9 PC_9 PD_9
    obtain ⟨uA0, uA1⟩ := PA_10.out
    have gA := PA_10.out.lt
    go_wp2_with fail
    refine (stx_any a b _).mono ?_
    rintro e w11 ⟨rfl, hb⟩
    have PA_11 := Lib.hid (PA_10.out.keep hb)
    have PX_11 := Lib.hid (PX_10.out.keep hb)
    have PY_11 := Lib.hid (PY_10.out.keep hb)
    have PZ_11 := Lib.hid (PZ_10.out.keep hb)
    have PC_11 := Lib.hid (PC_10.out.keep hb)
    have PD_11 := Lib.hid (PD_10.out.keep hb)
    have B11 := Lib.hid (bel_end B10.out hb)
    clear hb
    clear uA0 uA1 gA
    clear PA_10 PX_10 PY_10 PZ_10 PC_10 PD_10
    rw [HTT.out]
    obtain ⟨uA0, uA1⟩ := PA_11.out
    have gA := PA_11.out.lt
    obtain ⟨uX0, uX1⟩ := PX_11.out
    have gX := PX_11.out.lt
    obtain ⟨uY0, uY1⟩ := PY_11.out
    have gY := PY_11.out.lt
    obtain ⟨uZ0, uZ1⟩ := PZ_11.out
    have gZ := PZ_11.out.lt
    rcases R1.out with ⟨rfl, rfl, rfl, hne⟩ | ⟨rfl, rfl, rfl, he⟩
    · rw [HTT.out] at hne
      have he := ne_empty hne
      have he2 : ¬ t.toList = [] := fun h => by rw [h] at he; simp at he
      clear hne
      cases two
      all_goals
        go_wp2
        go_ret
        exact ⟨rfl, B11.out⟩
    · rw [HTT.out] at he
      subst he
      have he : (ByteArray.mk #[]).toList = [] := by rw [ByteArray.toList_eq]
      cases two
      all_goals
        go_wp2
        go_ret
        exact ⟨rfl, B11.out⟩
end Go.Proofs.YtkiadgmolkpgfabDoor
