/- The walk of the law of texts of metres over drawn numbers and texts. -/
import Derived.Test.YtadgkhpdckocmaaDoorReadI
import Derived.Test.YtadgkhpdckocmaaDoorDmg
namespace Go.Proofs.YtadgkhpdckocmaaDoor
open Go.ChangeShapes Go.WideShapes Go.ChangeAt Go.RowKit Num
set_option linter.unusedVariables false
theorem Code8.of_row {w : World} {a : Option Addr} {len cap : Nat} {zs : List Int} (h : IsRow .u8 w a len cap zs) : (zs.take len).length = len ∧ Code8 w w.heap.size a (zs.take len) := by
  obtain ⟨h1, h2, h3, h4⟩ := Ints.of_row h
  refine ⟨h2, h3, by omega, fun j hj => ?_⟩
  have hm : (zs.take len).getD j 0 ∈ zs.take len := by
    rw [List.getD_eq_getElem?_getD, List.getElem?_eq_getElem hj]; exact List.getElem_mem hj
  exact bounds_u8 (h4 _ hm)
theorem big_any (w : World) (a : Option Addr) (n c : Nat) :
    Calls Tryd.prog 6 #[.slice a n c] w fun e w' => e = .returned (.bool (decide (4096 < (n : Int)))) ∧ w = w' := by
  go_enter Tryd.func6, Tryd.ntmps6
  go_wp2
  go_ret
  exact ⟨rfl, rfl⟩
theorem Src.below {w w' : World} {s : Nat} (h : Src w s) (hb : Below w.heap.size w w') : Src w' s := by
  have hlt := h.lt
  obtain ⟨a, cap, zs, k, seed, hblk, hc, rest⟩ := h
  exact ⟨a, cap, zs, k, seed, (hb.block s hlt).trans hblk, hc.below (hb.mono (Nat.le_of_lt hlt)) (Nat.le_refl _), rest⟩
theorem metT_small (x : Int) : (metT x).size ≤ 1000 := by
  cases h : valB x
  · rw [metT_no h]; decide
  · have hb := valB_t h
    have a := dstr_size (n := x.natAbs / 100) (by omega)
    have b := dstr_size (n := x.natAbs / 10 % 10) (by omega)
    have c := dstr_size (n := x.natAbs % 10) (by omega)
    by_cases g : x < 0
    · rw [metT_neg h g]; simp only [ByteArray.size_append]; have : (ByteArray.mk #[45]).size = 1 := rfl; have : (ByteArray.mk #[46]).size = 1 := rfl; omega
    · rw [metT_pos h g]; simp only [ByteArray.size_append]; have : (ByteArray.mk #[]).size = 0 := rfl; have : (ByteArray.mk #[46]).size = 1 := rfl; omega

def OneDrawn (w : World) (e : Ending) (w' : World) : Prop := ∃ x : Int, e = .returned (.int .i64 x) ∧ Below w.heap.size w w'
theorem dmt_any (w : World) (a : Option Addr) (cap : Nat) (zs : List Int) (h : Code8 w w.heap.size a zs) :
    Calls Tryd.prog 7 #[.slice a zs.length cap] w (OneDrawn w) := by
  have H := Lib.hid h
  clear h
  go_enter Tryd.func7, Tryd.ntmps7
  go_wp2_with fail
  refine (from_any _ _ _ zs H.out).mono ?_
  rintro e w1 ⟨s, rfl, hs, hsrc, hb⟩
  have S1 := Lib.hid hsrc
  have B1 := Lib.hid hb
  clear hsrc hb
  go_wp2_with fail
  refine (dv_any _ _ S1.out).mono ?_
  rintro e w2 ⟨x, rfl, wx, hsrc, hg⟩
  have B2 := Lib.hid (B1.out.trans (below_of_grown hg hs B1.out.size))
  clear hsrc hg wx
  go_wp2_with fail
  go_ret
  exact ⟨x, rfl, B2.out⟩
def StrDrawn (w : World) (e : Ending) (w' : World) : Prop := ∃ t : ByteArray, e = .returned (.string t) ∧ t.size ≤ 2000 ∧ Below w.heap.size w w'
theorem drm_any (w : World) (a : Option Addr) (cap : Nat) (zs : List Int) (h : Code8 w w.heap.size a zs) :
    Calls Tryd.prog 10 #[.slice a zs.length cap] w (StrDrawn w) := by
  have H := Lib.hid h
  clear h
  go_enter Tryd.func10, Tryd.ntmps10
  go_wp2_with fail
  refine (from_any _ _ _ zs H.out).mono ?_
  rintro e w1 ⟨s, rfl, hs, hsrc, hb⟩
  have S1 := Lib.hid hsrc
  have B1 := Lib.hid hb
  clear hsrc hb
  go_wp2_with fail
  refine (dv_any _ _ S1.out).mono ?_
  rintro e w2 ⟨x, rfl, wx, hsrc, hg⟩
  have S2 := Lib.hid hsrc
  have B2 := Lib.hid (B1.out.trans (below_of_grown hg hs B1.out.size))
  clear hsrc hg wx
  go_wp2_with fail
  refine (smt_any x _).mono ?_
  rintro e w3 ⟨rfl, hb⟩
  have S3 := Lib.hid (S2.out.below hb)
  have B3 := Lib.hid (B2.out.trans (hb.mono B2.out.size))
  clear hb
  have hsz := metT_small x
  go_wp2_with fail
  refine (nxt_any _ _ _ S3.out).mono ?_
  rintro e w4 ⟨y, rfl, hy0, hy1, -, hsrc, hg⟩
  have S4 := Lib.hid hsrc
  have B4 := Lib.hid (B3.out.trans (below_of_grown hg hs B3.out.size))
  clear hsrc hg hy1
  by_cases y0 : y = 0
  · subst y0
    go_wp2_with fail
    refine (dmg_any _ _ _ S4.out (by omega)).mono ?_
    rintro e w5 ⟨t, rfl, hts, hsrc, hg⟩
    have B5 := Lib.hid (B4.out.trans (below_of_grown hg hs B4.out.size))
    clear hsrc hg
    go_wp2_with fail
    go_ret
    exact ⟨t, rfl, by omega, B5.out⟩
  · have b0 : (y == 0) = false := by simpa using y0
    go_wp2_with fail
    go_ret
    exact ⟨_, rfl, by omega, B4.out⟩

set_option maxHeartbeats 4000000 in
theorem lmet (a0 : Option Addr) (len0 cap0 : Nat) (z0 : List Int) (w : World) (w0 : IsRow .u8 w a0 len0 cap0 z0) (ht : Pow10 w) (h1 : ∃ tp p, w.var? Tryd.prog "strconv.ErrSyntax" = some #[.iface tp p]) (h2 : ∃ tp p, w.var? Tryd.prog "strconv.ErrRange" = some #[.iface tp p]) :
    Calls Tryd.prog 3 #[.slice a0 len0 cap0] w fun e w' => e = .returned (.bool true) ∧ Below w.heap.size w w' := by
  have HT := Lib.hid ht
  have HE := Lib.hid (errs_of h1 h2)
  obtain ⟨hlen, hcode⟩ := Code8.of_row w0
  obtain ⟨zs, hzs⟩ : ∃ zs, z0.take len0 = zs := ⟨_, rfl⟩
  rw [hzs] at hlen hcode
  subst hlen
  clear hzs w0 ht h1 h2
  have HC := Lib.hid hcode
  clear hcode
  by_cases hbig : 4096 < zs.length
  · have hd : decide ((4096 : Int) < (zs.length : Int)) = true := by simp; omega
    go_enter Tryd.func3, Tryd.ntmps3
    go_wp2_with (go_at_call 6; refine (big_any _ _ _ _).mono ?_; rw [hd]; rintro e w' ⟨rfl, rfl⟩)
    go_ret
    exact ⟨rfl, Below.refl _ _⟩
  · have hd : decide ((4096 : Int) < (zs.length : Int)) = false := by simp; omega
    go_enter Tryd.func3, Tryd.ntmps3
    go_wp2_with (go_at_call 6; refine (big_any _ _ _ _).mono ?_; rw [hd]; rintro e w' ⟨rfl, rfl⟩)
    clear hd
    refine (dmt_any _ _ _ zs HC.out).mono ?_
    rintro e w1 ⟨n, rfl, hb⟩
    have B1 := Lib.hid hb
    clear hb
    go_wp2_with fail
    refine (imt_any n _ (HT.out.later B1.out)).mono ?_
    rintro e w2 ⟨rfl, hb⟩
    have B2 := Lib.hid (B1.out.trans (hb.mono B1.out.size))
    clear hb
    go_wp2_with fail
    refine (irm_any (metT n) _ (by have := metT_small n; omega) (HT.out.later B2.out) (HE.out.later B2.out)).mono ?_
    rintro e w3 ⟨x, ok, rfl, hr, hb⟩
    have R3 := Lib.hid hr
    have B3 := Lib.hid (B2.out.trans (hb.mono B2.out.size))
    clear hr hb
    go_wp2_with fail
    refine (drm_any _ _ _ zs (HC.out.below B3.out (Nat.le_refl _) |>.more B3.out.size)).mono ?_
    rintro e w4 ⟨s, rfl, hs, hb⟩
    have B4 := Lib.hid (B3.out.trans (hb.mono B3.out.size))
    clear hb
    go_wp2_with fail
    refine (irm_any s _ (by omega) (HT.out.later B4.out) (HE.out.later B4.out)).mono ?_
    rintro e w5 ⟨y, one, rfl, hr, hb⟩
    have R5 := Lib.hid hr
    have B5 := Lib.hid (B4.out.trans (hb.mono B4.out.size))
    clear hr hb
    go_wp2_with fail
    refine (srm_any s _ (by omega)).mono ?_
    rintro e w6 ⟨z, two, rfl, hr, hb⟩
    obtain ⟨rfl, rfl⟩ := RM.unique hr R5.out
    have B6 := Lib.hid (B5.out.trans (hb.mono B5.out.size))
    clear hr hb
    go_wp2_with fail
    refine (smt_any n _).mono ?_
    rintro e w7 ⟨rfl, hb⟩
    have B7 := Lib.hid (B6.out.trans (hb.mono B6.out.size))
    clear hb
    have hyes : ∀ s z, RM s z true → ((metT z).toList == s.toList) = true := fun s z h => by
      rcases h with ⟨_, _, e⟩ | ⟨h, _⟩
      · rw [e]; simp
      · cases h
    have HY := Lib.hid hyes
    clear hyes
    cases hv : valB n
    · obtain ⟨rfl, rfl⟩ := RM.unique R3.out (by rw [metT_no hv]; exact rm_nil)
      have HV := Lib.hid (metT_no hv)
      rw [metT_no hv]
      have he : (ByteArray.mk #[]).toList = [] := by rw [ByteArray.toList_eq]
      cases two
      · go_wp2_with fail
        go_ret
        exact ⟨rfl, B7.out⟩
      · have hq := HY.out _ _ R5.out
        go_wp2_with fail
        refine (imt_any z _ (HT.out.later B7.out)).mono ?_
        rintro e w8 ⟨rfl, hb⟩
        have B8 := Lib.hid (B7.out.trans (hb.mono B7.out.size))
        clear hb
        go_wp2_with fail
        go_ret
        exact ⟨rfl, B8.out⟩
    · obtain ⟨rfl, rfl⟩ := RM.unique R3.out (Or.inl ⟨rfl, hv, rfl⟩)
      have he : (metT x).toList.isEmpty = false := ne_of_size (metT_size hv)
      have he2 : ¬ (metT x).toList = [] := fun h => by rw [h] at he; simp at he
      cases two
      · go_wp2_with fail
        go_ret
        exact ⟨rfl, B7.out⟩
      · have hq := HY.out _ _ R5.out
        go_wp2_with fail
        refine (imt_any z _ (HT.out.later B7.out)).mono ?_
        rintro e w8 ⟨rfl, hb⟩
        have B8 := Lib.hid (B7.out.trans (hb.mono B7.out.size))
        clear hb
        go_wp2_with fail
        go_ret
        exact ⟨rfl, B8.out⟩
end Go.Proofs.YtadgkhpdckocmaaDoor
