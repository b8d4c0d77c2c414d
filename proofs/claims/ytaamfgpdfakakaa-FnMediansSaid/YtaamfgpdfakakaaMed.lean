/- Contracts of MedianOf, the program's and the model's. -/
import Derived.Test.YtaamfgpdfakakaaSorted
import Derived.Test.YtaamfgpdfakakaaShelf
import Derived.Test.YtaamfgpdfakakaaQuot
import Derived.Sort.OwnSortedInts
namespace Go.Proofs.Ytaamfgpdfakakaa
open Go.ChangeShapes Go.WideShapes Go.ChangeAt Go.RowKit Num
set_option linter.unusedVariables false
/-- a list, sorted -/
def srtL (zs : List Int) : List Int := zs.mergeSort fun x y => decide (x ≤ y)
theorem srtL_eq {L zs : List Int} (hs : L.Pairwise (· ≤ ·)) (hp : L.Perm (zs.take zs.length)) : L = srtL zs := by
  rw [List.take_length] at hp
  have h1 : (srtL zs).Pairwise (· ≤ ·) := by
    have := List.pairwise_mergeSort (le := fun x y : Int => decide (x ≤ y)) (by intro a b c; simp; omega) (by intro a b; simp; omega) zs
    exact this.imp (by intro a b h; simpa using h)
  exact List.Perm.eq_of_pairwise (fun a b _ _ h h' => Int.le_antisymm h h') hs h1 (hp.trans (List.mergeSort_perm _ _).symm)
theorem srtL_len (zs : List Int) : (srtL zs).length = zs.length := List.length_mergeSort _
def allB (zs : List Int) : Bool := zs.all valB
theorem allB_t {zs : List Int} (h : ∀ j, j < zs.length → valB (zs.getD j 0) = true) : allB zs = true := by
  unfold allB
  rw [List.all_eq_true]
  intro x hx
  obtain ⟨j, hj, rfl⟩ := List.getElem_of_mem hx
  have := h j hj
  rwa [List.getD_eq_getElem?_getD, List.getElem?_eq_getElem hj] at this
theorem allB_f {zs : List Int} {j : Nat} (hj : j < zs.length) (h : valB (zs.getD j 0) = false) : allB zs = false := by
  unfold allB
  rw [List.all_eq_false]
  refine ⟨zs[j], List.getElem_mem hj, ?_⟩
  rw [List.getD_eq_getElem?_getD, List.getElem?_eq_getElem hj] at h
  simpa using h
theorem cells_iv {w : World} {b off : Nat} {zs : List Int} (h : ∀ j, j < zs.length → w.cell? ⟨b, off + j, none⟩ = some (.int .i64 (zs.getD j 0))) : ∀ j u, (zs.map iv)[j]? = some u → w.cell? ⟨b, off + j, none⟩ = some u := by
  intro j u hu
  rw [List.getElem?_map] at hu
  rcases Nat.lt_or_ge j zs.length with hj | hj
  · rw [List.getElem?_eq_getElem hj] at hu
    simp only [Option.map_some, Option.some.injEq] at hu
    subst hu
    rw [h j hj, List.getD_eq_getElem?_getD, List.getElem?_eq_getElem hj]; rfl
  · rw [List.getElem?_eq_none hj] at hu; simp at hu
def medE (zs : List Int) : Int := if 200 < zs.length then 3 else if allB zs then (if zs.length = 0 then 4 else 0) else 2
def medV (zs : List Int) : Int := if 200 < zs.length then 0 else if allB zs then (if zs.length = 0 then 0 else (srtL zs).getD ((zs.length - 1) / 2) 0) else 0

theorem smd_any (w : World) (a : Option Addr) (cap0 : Nat) (zs : List Int) (hl : zs.length ≤ 1048576) (hz : Ints .i64 w w.heap.size a zs) :
    Calls Try.prog 26 #[.slice a zs.length cap0] w fun e w' => e = .returned (.tuple #[.int .i64 (medV zs), .int .i64 (medE zs)]) ∧ Below w.heap.size w w' := by
  have HV : Hid (medV zs = _) := Lib.hid (medV.eq_1 zs)
  have HE : Hid (medE zs = _) := Lib.hid (medE.eq_1 zs)
  by_cases hbig : 200 < zs.length
  · go_enter Try.func26, Try.ntmps26
    go_wp2
    go_ret2
    exact ⟨ret_int2 (by rw [HV.out]; simp [hbig]) (by rw [HE.out]; simp [hbig]), Below.refl _ _⟩
  · go_enter Try.func26, Try.ntmps26
    go_wp2
    go_loop [4] (fun i => ∃ k : Nat, k ≤ zs.length ∧ i = .int .i64 k ∧ ∀ j, j < k → valB (zs.getD j 0) = true) (fun i => zs.length - (intOf i).toNat)
    case atStart => exact ⟨0, by omega, rfl, fun j hj => by omega⟩
    case round =>
      obtain ⟨k, hk, rfl, hr⟩ := hrel
      have HR := Lib.hid hr
      clear hr
      have HZ := Lib.hid hz
      by_cases hlt : k < zs.length
      · obtain ⟨b, off, rfl, hB, hc⟩ := hz.at_ hlt
        clear hz
        obtain ⟨x, hx⟩ : ∃ x, zs.getD k 0 = x := ⟨_, rfl⟩
        rw [hx] at hc
        have HX := Lib.hid hx
        clear hx
        by_cases hv : valB x = true
        · have HW := hv
          clear hv
          go_wp2_with (go_at_call 76; refine (isl_any _ _).mono ?_; rw [HW]; rintro e w' ⟨rfl, rfl⟩)
          go_round
          case rel => exact ⟨k + 1, by omega, by go_num, fun j hj => by
            by_cases hjk : j = k
            · rw [hjk, HX.out]; exact HW
            · exact HR.out j (by omega)⟩
          case measure => simp [intOf]; omega
        · have hv0 : valB x = false := by simpa using hv
          have HW := hv0
          clear hv hv0
          go_wp2_with (go_at_call 76; refine (isl_any _ _).mono ?_; rw [HW]; rintro e w' ⟨rfl, rfl⟩)
          go_ret2
          have ha := allB_f hlt (by rw [HX.out]; exact HW)
          exact ⟨ret_int2 (by rw [HV.out]; simp [hbig, ha]) (by rw [HE.out]; simp [hbig, ha]), Below.refl _ _⟩
      · obtain rfl : k = zs.length := by omega
        have ha := allB_t HR.out
        by_cases h0 : zs.length = 0
        · go_wp2
          go_ret2
          exact ⟨ret_int2 (by rw [HV.out]; simp [ha, h0]) (by rw [HE.out]; simp [ha, h0]), Below.refl _ _⟩
        · clear hz
          obtain ⟨h, hh⟩ : ∃ h, (zs.length - 1) / 2 = h := ⟨_, rfl⟩
          have hlth : h < zs.length := by omega
          have hdiv : ((zs.length : Int) - 1).tdiv 2 = (h : Int) := by
            rw [Int.tdiv_eq_ediv_of_nonneg (by omega)]; omega
          have hdiv2 : ((zs.length : Int) - 1) / 2 = (h : Int) := by omega
          have hz2' : (zs.length == 0) = false := by simpa using h0
          obtain ⟨m, hm⟩ : ∃ m, (srtL zs).getD h 0 = m := ⟨_, rfl⟩
          have hV2 : m = medV zs := by rw [HV.out, ← hm, ← hh]; simp [ha, h0, hbig]
          have hE2 : 0 = medE zs := by rw [HE.out]; simp [ha, h0, hbig]
          have HHL : Hid (h < (srtL zs).length) := Lib.hid (by rw [srtL_len]; exact hlth)
          have HM := Lib.hid hm
          have HV2 := Lib.hid hV2
          have HE2 := Lib.hid hE2
          have HR3 : Hid (h < zs.length) := Lib.hid hlth
          clear hm hV2 hE2 hh HR
          go_wp2_with (go_at_call 77; refine (srt_any _ _ _ zs (by omega) HZ.out).mono ?_; rintro e w' ⟨v, rfl, g, cap1, L, rfl, hown, hs, hp, hb⟩; obtain rfl := srtL_eq hs hp; have hcm := own_cell hown HHL.out; (rw [HM.out] at hcm); (rw [srtL_len]); have HB3 := Lib.hid hb; clear hown hs hp hb)
          go_ret2
          exact ⟨ret_int2 HV2.out HE2.out, HB3.out⟩

set_option maxHeartbeats 4000000 in
set_option maxRecDepth 1000000 in
theorem imd_any (w : World) (a : Option Addr) (cap0 : Nat) (zs : List Int) (hl : zs.length ≤ 1048576) (hz : Ints .i64 w w.heap.size a zs) :
    Calls Try.prog 25 #[.slice a zs.length cap0] w fun e w' => e = .returned (.tuple #[.int .i64 (medV zs), .int .i64 (medE zs)]) ∧ Below w.heap.size w w' := by
  have HV : Hid (medV zs = _) := Lib.hid (medV.eq_1 zs)
  have HE : Hid (medE zs = _) := Lib.hid (medE.eq_1 zs)
  by_cases hbig : 200 < zs.length
  · go_enter Try.func25, Try.ntmps25
    go_wp2
    go_ret2
    exact ⟨ret_int2 (by rw [HV.out]; simp [hbig]) (by rw [HE.out]; simp [hbig]), Below.refl _ _⟩
  · go_enter Try.func25, Try.ntmps25
    go_wp2
    go_loop [12] (fun i => ∃ k : Nat, k ≤ zs.length ∧ i = .int .i64 k ∧ ∀ j, j < k → valB (zs.getD j 0) = true) (fun i => zs.length - (intOf i).toNat)
    case atStart => exact ⟨0, by omega, rfl, fun j hj => by omega⟩
    case round =>
      obtain ⟨k, hk, rfl, hr⟩ := hrel
      have HR := Lib.hid hr
      clear hr
      have HZ := Lib.hid hz
      by_cases hlt : k < zs.length
      · obtain ⟨b, off, rfl, hB, hc⟩ := hz.at_ hlt
        clear hz
        obtain ⟨x, hx⟩ : ∃ x, zs.getD k 0 = x := ⟨_, rfl⟩
        rw [hx] at hc
        have HX := Lib.hid hx
        clear hx
        by_cases hv : valB x = true
        · have HW := hv
          clear hv
          go_wp2_with (go_at_call 73; refine (isv_any _ _).mono ?_; rw [HW]; rintro e w' ⟨rfl, rfl⟩)
          go_round
          case rel => exact ⟨k + 1, by omega, by go_num, fun j hj => by
            by_cases hjk : j = k
            · rw [hjk, HX.out]; exact HW
            · exact HR.out j (by omega)⟩
          case measure => simp [intOf]; omega
        · have hv0 : valB x = false := by simpa using hv
          have HW := hv0
          clear hv hv0
          go_wp2_with (go_at_call 73; refine (isv_any _ _).mono ?_; rw [HW]; rintro e w' ⟨rfl, rfl⟩)
          go_ret2
          have ha := allB_f hlt (by rw [HX.out]; exact HW)
          exact ⟨ret_int2 (by rw [HV.out]; simp [hbig, ha]) (by rw [HE.out]; simp [hbig, ha]), Below.refl _ _⟩
      · obtain rfl : k = zs.length := by omega
        have ha := allB_t HR.out
        by_cases h0 : zs.length = 0
        · go_wp2
          go_ret2
          exact ⟨ret_int2 (by rw [HV.out]; simp [ha, h0]) (by rw [HE.out]; simp [ha, h0]), Below.refl _ _⟩
        · clear hz
          obtain ⟨h, hh⟩ : ∃ h, (zs.length - 1) / 2 = h := ⟨_, rfl⟩
          have hlth : h < zs.length := by omega
          have hdiv : ((zs.length : Int) - 1).tdiv 2 = (h : Int) := by
            rw [Int.tdiv_eq_ediv_of_nonneg (by omega)]; omega
          have hdiv2 : ((zs.length : Int) - 1) / 2 = (h : Int) := by omega
          have hz2' : (zs.length == 0) = false := by simpa using h0
          obtain ⟨m, hm⟩ : ∃ m, (srtL zs).getD h 0 = m := ⟨_, rfl⟩
          have hV2 : m = medV zs := by rw [HV.out, ← hm, ← hh]; simp [ha, h0, hbig]
          have hE2 : 0 = medE zs := by rw [HE.out]; simp [ha, h0, hbig]
          have HHL : Hid (h < (srtL zs).length) := Lib.hid (by rw [srtL_len]; exact hlth)
          have HM := Lib.hid hm
          have HV2 := Lib.hid hV2
          have HE2 := Lib.hid hE2
          have HR3 : Hid (h < zs.length) := Lib.hid hlth
          clear hm hV2 hE2 hh HR
          obtain ⟨b, off, rfl, hB, hcl⟩ := HZ.out (by omega)
          obtain ⟨i0, hi, hz0, hz1, hz2⟩ := info_parts info_i64
          go_wp2_with (go_at_call 74; refine (AnyE.slices_Clone (ρ := Try.laysclone_ren) { Try.laysclone with } i0 (.int .i64 0) 1 8 hi hz0 hz1 hz2 rfl (by decide) Try.sizeOf2 b off zs.length cap0 (zs.map iv) _ (by simp) (by unfold maxLen; omega) (by omega) (cells_iv hcl) one_iv).mono ?_; rintro e w1 ⟨v1, rfl, hown, hne, hb1⟩)
          rcases hown.2 with ⟨hv1, _⟩ | ⟨g, cap1, cur, rfl, hbase, hheap, h1, h2, h3, h4⟩
          · exact absurd hv1 hne
          rw [Nat.mul_one] at h4
          have hH := holds_of_blockI (ss := zs) hheap h4
          have hown2 := fun (n : Nat) (os : Array Obj) => ownsRow_sortedI (n := n) (os := os) (ts := srtL zs) (srtL_len zs) hbase hheap h1 h2 h3
          have hbel := fun (n : Nat) (os : Array Obj) => Below.grown hb1 (grownBy_sortedI (w := w1) (g := g) (n := n) (os := os) (srtL zs).toArray) hb1.size (fun k e => by injection e; omega)
          have hg1 : g < w1.heap.size := (Array.getElem?_eq_some_iff.1 hheap).1
          refine (AnyM.slices_Sort_int Try.layssort g 0 cap1 zs w1 hH hg1 (by omega)).mono ?_
          rintro e w2 ⟨rfl, n, os, hw2⟩
          have HO : Hid (w2.ownsRow w.heap.size 2 1 (.slice (some ⟨g, 0, none⟩) zs.length cap1) zs.length ((srtL zs).map iv)) := Lib.hid (by rw [hw2]; exact hown2 n os)
          have HB2 : Hid (Below w.heap.size w w2) := Lib.hid (by rw [hw2]; exact hbel n os)
          clear hw2 hown2 hbel hH hheap h4 h3 h2 hown hb1 hne
          have hcm : w2.cell? ⟨g, h, none⟩ = some (.int .i64 ((srtL zs).getD h 0)) := by
            have := HO.out
            rw [← srtL_len zs] at this
            exact own_cell this HHL.out
          rw [HM.out] at hcm
          go_wp2
          go_ret2
          exact ⟨ret_int2 HV2.out HE2.out, HB2.out⟩
end Go.Proofs.Ytaamfgpdfakakaa
