/- The walk of the law of scaled intervals over drawn ones. -/
import Derived.Test.YtaamfgpdfakakaaSDraw
import Derived.Test.YtaamfgpdfakakaaScal
import Derived.Test.YtaamfgpdfakakaaDice
import Derived.Test.YtaamfgpdfakakaaQLaw
import Derived.Test.YtaamfgpdfakakaaTwo
namespace Go.Proofs.Ytaamfgpdfakakaa
open Go.ChangeShapes Go.WideShapes Go.ChangeAt Go.RowKit Num
set_option linter.unusedVariables false
attribute [local go_sem ↓] Go.wp_at_zero Go.wp_at_succ
theorem scT_facts {a b n d : Int} (h : (scT a b n d).2.2 = 0) : (-1000000000000 ≤ a ∧ a ≤ 1000000000000 ∧ -1000000000000 ≤ b ∧ b ≤ 1000000000000 ∧ a ≤ b) ∧ (-1000000 ≤ n ∧ n ≤ 1000000) ∧ (1 ≤ d ∧ d ≤ 1000000) ∧
    scT a b n d = ((min (a * n) (b * n)).fdiv d, cdiv (max (a * n) (b * n)) d, 0) ∧ valB (scT a b n d).1 = true ∧ valB (scT a b n d).2.1 = true := by
  unfold scT at h ⊢
  split at h
  · rename_i hv
    split at h
    · rename_i hh
      rw [Bool.and_eq_true] at hh
      rw [if_pos hv, if_pos (by rw [Bool.and_eq_true]; exact hh)]
      unfold within at h ⊢
      split at h
      · rename_i hw
        rw [if_pos hw]
        rw [Bool.and_eq_true] at hw
        exact ⟨vldB_t hv, hasB_t hh.1, hasB_t hh.2, rfl, hw.1, hw.2⟩
      · cases h
    · cases h
  · cases h
/-- a number of the interval, times the factor, lies between the bounds times the divisor -/
theorem scaled_in {a b n d k : Int} (hd : 0 < d) (h1 : a ≤ k) (h2 : k ≤ b) : (min (a * n) (b * n)).fdiv d * d ≤ k * n ∧ k * n ≤ cdiv (max (a * n) (b * n)) d * d := by
  have e : ∀ x : Int, x.fdiv d * d ≤ x := by
    intro x
    rw [Int.fdiv_eq_ediv_of_nonneg _ (by omega)]
    exact Int.ediv_mul_le x (by omega)
  have f : ∀ x : Int, x ≤ cdiv x d * d := by
    intro x
    have := e (-x)
    unfold cdiv
    rw [Int.neg_mul]
    omega
  have hlo : min (a * n) (b * n) ≤ k * n ∧ k * n ≤ max (a * n) (b * n) := by
    by_cases hn : 0 ≤ n
    · have := Int.mul_le_mul_of_nonneg_right h1 hn
      have := Int.mul_le_mul_of_nonneg_right h2 hn
      omega
    · have := Int.mul_le_mul_of_nonpos_right h1 (show n ≤ 0 by omega)
      have := Int.mul_le_mul_of_nonpos_right h2 (show n ≤ 0 by omega)
      omega
  have := e (min (a * n) (b * n))
  have := f (max (a * n) (b * n))
  omega

set_option maxRecDepth 100000 in
set_option maxHeartbeats 4000000 in
theorem lscal (a0 : Option Addr) (len0 cap0 : Nat) (z0 : List Int) (w : World) (w0 : IsRow .u8 w a0 len0 cap0 z0) :
    Calls Try.prog 9 #[.slice a0 len0 cap0] w fun e w' => e = .returned (.bool true) ∧ Below w.heap.size w w' := by
  obtain ⟨hlen, hcode⟩ := Code8.of_row w0
  obtain ⟨zs, hzs⟩ : ∃ zs, z0.take len0 = zs := ⟨_, rfl⟩
  rw [hzs] at hlen hcode
  subst hlen
  clear hzs w0
  have HC := Lib.hid hcode
  clear hcode
  by_cases hbig : 4096 < zs.length
  · have hd : decide ((4096 : Int) < (zs.length : Int)) = true := by simp; omega
    go_enter Try.func9, Try.ntmps9
    go_wp2_with (go_at_call 18; refine (big_any _ _ _ _).mono ?_; rw [hd]; rintro e w' ⟨rfl, rfl⟩)
    go_ret
    exact ⟨rfl, Below.refl _ _⟩
  · have hd : decide ((4096 : Int) < (zs.length : Int)) = false := by simp; omega
    go_enter Try.func9, Try.ntmps9
    go_wp2_with (go_at_call 18; refine (big_any _ _ _ _).mono ?_; rw [hd]; rintro e w' ⟨rfl, rfl⟩)
    clear hd
    refine (dsc_any _ _ _ zs HC.out).mono ?_
    rintro e w1 ⟨x, y, n, d, rfl, hb⟩
    have B1 := Lib.hid hb
    clear hb
    obtain ⟨T, hT⟩ : ∃ T, scT x y n d = T := ⟨_, rfl⟩
    have HT := Lib.hid hT
    clear hT
    go_wp2_with fail
    refine (isc_any _ _ _ _ _).mono ?_
    rw [HT.out]
    rintro e w2 ⟨rfl, hb⟩
    have x0 : w2.cell? ⟨w1.heap.size, 0, none⟩ = some (.int .i64 x) := (hb.cell (p := ⟨w1.heap.size, 0, none⟩) (by simp)).trans (by simp [go_sem])
    have x1 : w2.cell? ⟨w1.heap.size, 1, none⟩ = some (.int .i64 y) := (hb.cell (p := ⟨w1.heap.size, 1, none⟩) (by simp)).trans (by simp [go_sem])
    have s2 : w1.heap.size < w2.heap.size := by have := hb.size; simp at this; omega
    have B2 := Lib.hid (bel_end (B1.out.alloc B1.out.size (.cells #[.int .i64 x, .int .i64 y] 42)) hb)
    clear hb
    go_wp2_with fail
    refine (ssc_any _ _ _ _ _).mono ?_
    rw [HT.out]
    rintro e w3 ⟨rfl, hb⟩
    have y0 : w3.cell? ⟨w2.heap.size, 0, none⟩ = some (.int .i64 T.1) := (hb.cell (p := ⟨w2.heap.size, 0, none⟩) (by simp)).trans (by simp [go_sem])
    have y1 : w3.cell? ⟨w2.heap.size, 1, none⟩ = some (.int .i64 T.2.1) := (hb.cell (p := ⟨w2.heap.size, 1, none⟩) (by simp)).trans (by simp [go_sem])
    have s3 : w2.heap.size < w3.heap.size := by have := hb.size; simp at this; omega
    have z0 : w3.cell? ⟨w1.heap.size, 0, none⟩ = some (.int .i64 x) := (hb.cell (p := ⟨w1.heap.size, 0, none⟩) (by simp; omega)).trans (by go_simp)
    have z1 : w3.cell? ⟨w1.heap.size, 1, none⟩ = some (.int .i64 y) := (hb.cell (p := ⟨w1.heap.size, 1, none⟩) (by simp; omega)).trans (by go_simp)
    have s13 : w1.heap.size < w3.heap.size := by omega
    have B3 := Lib.hid (bel_end (B2.out.alloc B2.out.size (.cells #[.int .i64 T.1, .int .i64 T.2.1] 42)) hb)
    clear hb x0 x1
    obtain ⟨l, h, c⟩ := T
    simp only [] at y0 y1
    by_cases hc : c = 0
    · subst hc
      obtain ⟨⟨a1, a2, b1, b2, ab⟩, ⟨n1, n2⟩, ⟨d1, d2⟩, hsc, hvl, hvh⟩ := scT_facts (show (scT x y n d).2.2 = 0 by rw [HT.out])
      rw [HT.out] at hvl hvh
      obtain ⟨l1, l2⟩ := valB_t hvl
      obtain ⟨h1, h2⟩ := valB_t hvh
      have HS := Lib.hid hsc
      clear hsc hvl hvh
      go_wp2
      obtain ⟨W, hW⟩ : ∃ W, W = w3.alloc (.cells #[.int .i64 l, .int .i64 h] 42) := ⟨_, rfl⟩
      rw [← hW]
      have p0 : W.cell? ⟨w1.heap.size, 0, none⟩ = some (.int .i64 x) := by rw [hW]; go_simp
      have p1 : W.cell? ⟨w1.heap.size, 1, none⟩ = some (.int .i64 y) := by rw [hW]; go_simp
      have p2 : W.cell? ⟨w2.heap.size, 0, none⟩ = some (.int .i64 l) := by rw [hW]; go_simp
      have p3 : W.cell? ⟨w2.heap.size, 1, none⟩ = some (.int .i64 h) := by rw [hW]; go_simp
      have BW : Below w.heap.size w W := by rw [hW]; exact B3.out.alloc B3.out.size _
      have hw3 : w.heap.size ≤ w3.heap.size := B3.out.size
      have hWs : w3.heap.size < W.heap.size := by rw [hW]; simp
      clear hW y0 y1 z0 z1
      have i1 : IntKind.i64.wrap (y - x) = y - x := IntWalk.i64_in _ (by omega)
      have i2 : IntKind.i64.wrap (y - x + 1) = y - x + 1 := IntWalk.i64_in _ (by omega)
      go_region_held3 (fun w' => w'.cell? ⟨w1.heap.size, 0, none⟩ = some (.int .i64 x) ∧ w'.cell? ⟨w1.heap.size, 1, none⟩ = some (.int .i64 y) ∧
          w'.cell? ⟨w2.heap.size, 0, none⟩ = some (.int .i64 l) ∧ w'.cell? ⟨w2.heap.size, 1, none⟩ = some (.int .i64 h) ∧ Below w.heap.size w w')
        (first
          | (exact ⟨p0, p1, p2, p3, BW.drew⟩)
          | (go_split_ands; exact ⟨keep1 (by assumption) hb, keep1 (by assumption) hb, keep1 (by assumption) hb, keep1 (by assumption) hb, bel_end (by assumption) hb⟩)
          | (go_split_ands; exact ⟨cell_keep (by assumption) hg (by omega), cell_keep (by assumption) hg (by omega), cell_keep (by assumption) hg (by omega), cell_keep (by assumption) hg (by omega), below_src (by assumption) hg (by omega) (Nat.le_refl _)⟩))
        (first
          | (go_at_call 38; refine (roll_any _ _ _ zs _ (Code8.more (HC.out.below BW.drew (Nat.le_refl _)) BW.drew.size)).mono ?_; rintro e wq ⟨s, rfl, hs, hdice, hb⟩; have hs2 := Nat.lt_of_lt_of_le hWs hs)
          | (go_at_call 39; refine (bel_any _ _ _ (by omega) (by assumption)).mono ?_; rintro e wr ⟨r, rfl, hr0, hr1, -, hg⟩; clear hb))
      clear i1 i2
      go_split_ands
      have BR : Hid (Below w.heap.size w wr) := Lib.hid (by assumption)
      have hin := scaled_in (a := x) (b := y) (n := n) (d := d) (k := x + r) (by omega) (by omega) (by omega)
      have hlh : l = (min (x * n) (y * n)).fdiv d ∧ h = cdiv (max (x * n) (y * n)) d := by
        have hs := HT.out.symm.trans HS.out
        simp only [Prod.mk.injEq] at hs
        exact ⟨hs.1, hs.2.1⟩
      rw [← hlh.1, ← hlh.2] at hin
      have mk := mul_abs (a := x + r) (n := n) (A := 1000000000000) (N := 1000000) (by omega) (by omega)
      have ml := mul_abs (a := l) (n := d) (A := 1000000000000) (N := 1000000) (by omega) (by omega)
      have mh := mul_abs (a := h) (n := d) (A := 1000000000000) (N := 1000000) (by omega) (by omega)
      have e1 : IntKind.i64.wrap (x + r) = x + r := IntWalk.i64_in _ (by omega)
      have e2 : IntKind.i64.wrap ((x + r) * n) = (x + r) * n := IntWalk.i64_in _ (by omega)
      rw [e1, e2]
      obtain ⟨q, hq⟩ : ∃ q, (x + r) * n = q := ⟨_, rfl⟩
      rw [hq] at hin mk ⊢
      have l3 : -1000000000000000000 ≤ l * d := by omega
      have l4 : l * d ≤ 1000000000000000000 := by omega
      have h3 : -1000000000000000000 ≤ h * d := by omega
      have h4 : h * d ≤ 1000000000000000000 := by omega
      obtain ⟨g1, g2⟩ := hin
      clear hq mk ml mh e1 e2 hlh
      go_wp2
      go_ret
      exact ⟨rfl, BR.out⟩
    · have hcn : (c != 0) = true := by simpa using hc
      go_wp2
      go_ret
      exact ⟨rfl, B3.out.alloc B3.out.size _⟩
end Go.Proofs.Ytaamfgpdfakakaa
