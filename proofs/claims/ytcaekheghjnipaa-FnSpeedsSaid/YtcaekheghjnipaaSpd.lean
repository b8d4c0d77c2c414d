/- Contracts of SpeedAt, the program's and the model's. -/
import Derived.Test.YtcaekheghjnipaaLys
import Derived.Test.YtcaekheghjnipaaBas
import Derived.Deep.RegionHeld3
import Derived.Deep.DeepCutAuto
import Derived.Deep.DrawnRows
import Derived.Outline
namespace Go.Proofs.Ytcaekheghjnipaa
open Go.ChangeShapes Go.WideShapes Go.ChangeAt Go.RowKit Go.Shelf Num
set_option linter.unusedVariables false
attribute [local go_sem ↓] Go.wp_at_zero Go.wp_at_succ
/-- the rise to a depth in a layer, its thickness -/
def spR (zs ys : List Int) (x : Int) (k : Nat) : Int := (ys.getD (k + 1) 0 - ys.getD k 0) * (x - zs.getD k 0)
def spH (zs : List Int) (k : Nat) : Int := zs.getD (k + 1) 0 - zs.getD k 0
/-- the speed at a depth, rounded down and up, and the code -/
def spT (zs ys : List Int) (x : Int) : Int × Int × Int :=
  if prfB zs ys && hdB zs x then (ys.getD (layN zs x) 0 + (spR zs ys x (layN zs x)).fdiv (spH zs (layN zs x)), ys.getD (layN zs x) 0 + cdiv (spR zs ys x (layN zs x)) (spH zs (layN zs x)), 0) else (0, 0, cdT (prfB zs ys) (hdB zs x))
theorem spT_t {zs ys : List Int} {x : Int} (h : prfB zs ys = true) (g : hdB zs x = true) : spT zs ys x = (ys.getD (layN zs x) 0 + (spR zs ys x (layN zs x)).fdiv (spH zs (layN zs x)), ys.getD (layN zs x) 0 + cdiv (spR zs ys x (layN zs x)) (spH zs (layN zs x)), 0) := by unfold spT; rw [h, g]; rfl
theorem spT_f {zs ys : List Int} {x : Int} (h : prfB zs ys = false) : spT zs ys x = (0, 0, 1) := by unfold spT; rw [h]; rfl
theorem spT_g {zs ys : List Int} {x : Int} (h : prfB zs ys = true) (g : hdB zs x = false) : spT zs ys x = (0, 0, 2) := by unfold spT; rw [h, g]; rfl
/-- bounds of the rise and of the rounded quotients -/
theorem sp_bd {y0 y1 z0 z1 x : Int} (h1 : 1300000 ≤ y0) (h2 : y0 ≤ 1700000) (h3 : 1300000 ≤ y1) (h4 : y1 ≤ 1700000) (h5 : 0 ≤ z0) (h6 : z0 < z1) (h7 : z1 ≤ 1000000) (h8 : z0 ≤ x) (h9 : x ≤ z1) :
    -400000000000 ≤ (y1 - y0) * (x - z0) ∧ (y1 - y0) * (x - z0) ≤ 400000000000 := by
  have := mul_abs (a := y1 - y0) (n := x - z0) (A := 400000) (N := 1000000) (by omega) (by omega)
  omega
theorem fdv_bd {a b : Int} (hb : 0 < b) : -(a.natAbs : Int) ≤ a.fdiv b ∧ a.fdiv b ≤ (a.natAbs : Int) := by
  rw [Int.fdiv_eq_ediv_of_nonneg _ (by omega)]
  constructor
  · rw [Int.le_ediv_iff_mul_le hb]
    rcases Int.natAbs_eq a with h | h
    · have : -(a.natAbs : Int) * b ≤ 0 := by rw [Int.neg_mul]; have := Int.mul_nonneg (Int.natCast_nonneg a.natAbs) (Int.le_of_lt hb); omega
      omega
    · have : (a.natAbs : Int) * 1 ≤ (a.natAbs : Int) * b := Int.mul_le_mul_of_nonneg_left (by omega) (Int.natCast_nonneg _)
      rw [Int.neg_mul]; omega
  · refine Int.le_trans (Int.ediv_le_ediv hb (show a ≤ (a.natAbs : Int) by omega)) ?_
    exact Int.ediv_le_self _ (Int.natCast_nonneg _)

theorem fdiv_in {a b N : Int} (hb : 0 < b) (h1 : -N ≤ a) (h2 : a ≤ N) : -N ≤ a.fdiv b ∧ a.fdiv b ≤ N := by
  have := fdv_bd (a := a) hb; omega
theorem cdiv_in {a b N : Int} (hb : 0 < b) (h1 : -N ≤ a) (h2 : a ≤ N) : -N ≤ cdiv a b ∧ cdiv a b ≤ N := by
  unfold cdiv
  have := fdv_bd (a := -a) hb; omega
/-- a callee that reads and draws, in a region that draws -/
theorem st_call {P : Program} {f : FuncId} {args : Array Value} {w : World} {v : Value} {n : Nat} (h : Calls P f args (w.drewN n) fun e w' => e = .returned v ∧ w.drewN n = w') : Calls P f args (w.drewN n) fun e w2 => e = .returned v ∧ ∃ m, w2 = w.drewN m :=
  h.mono fun e w' ⟨he, hw⟩ => ⟨he, n, hw.symm⟩
theorem st_call2 {P : Program} {f : FuncId} {args : Array Value} {w : World} {v : Value} {a n : Nat} (h : Calls P f args (w.drewN (a + n)) fun e w' => e = .returned v ∧ w.drewN (a + n) = w') : Calls P f args (w.drewN (a + n)) fun e w2 => e = .returned v ∧ ∃ m, w2 = w.drewN (a + m) :=
  h.mono fun e w' ⟨he, hw⟩ => ⟨he, n, hw.symm⟩
/-- a boxed value of two cells, read in a later world -/
theorem keep2 {W w2 : World} {m : Nat} {v0 v1 : Value} (c0 : W.cell? ⟨m, 0, none⟩ = some v0) (c1 : W.cell? ⟨m, 1, none⟩ = some v1) (h : Below W.heap.size W w2) :
    w2.cell? ⟨m, 0, none⟩ = some v0 ∧ w2.cell? ⟨m, 1, none⟩ = some v1 ∧ Below W.heap.size W w2 := ⟨kc1 c0 h, kc1 c1 h, h⟩
/-- two knots in blocks of their own -/
def Kn2 (W wx : World) (s t : Value) (z0 y0 z1 y1 : Int) : Prop :=
  ∃ g h : Nat, s = .pointer (some ⟨g, 0, none⟩) ∧ t = .pointer (some ⟨h, 0, none⟩) ∧ wx.cell? ⟨g, 0, none⟩ = some (.int .i64 z0) ∧ wx.cell? ⟨g, 1, none⟩ = some (.int .i64 y0) ∧ wx.cell? ⟨h, 0, none⟩ = some (.int .i64 z1) ∧ wx.cell? ⟨h, 1, none⟩ = some (.int .i64 y1) ∧ Below W.heap.size W wx

set_option maxRecDepth 100000 in
set_option maxHeartbeats 4000000 in
theorem ispd_ok (w : World) (a b : Option Addr) (c d : Nat) (zs ys : List Int) (x : Int) (hp : Prof w w.heap.size a b zs ys) (hv : prfB zs ys = true) (hh : hdB zs x = true) :
    Calls Try.prog 51 #[.agg #[.slice a zs.length c, .slice b ys.length d], .int .i64 x] w fun e w' => e = .returned (.tuple #[.agg #[.int .i64 (spT zs ys x).1, .int .i64 (spT zs ys x).2.1], .int .i64 (spT zs ys x).2.2]) ∧ Below w.heap.size w w' := by
  have HT := Lib.hid (spT_t hv hh)
  have HP := Lib.hid hp
  have lz := hp.lz
  have HO := Lib.hid (Okp.of hv)
  have hd := hdB_t hh
  have HV := Lib.hid hv
  have HH := Lib.hid hh
  clear hp hv hh
  have hk := layN_lt HO.out hd.2
  have l1 := layN_le HO.out hd.1
  have l2 := layN_ge HO.out hd.2
  obtain ⟨k, hk'⟩ : ∃ k, layN zs x = k := ⟨_, rfl⟩
  rw [hk'] at hk l1 l2 HT
  have HK := Lib.hid hk'
  have s1 := HO.out.slo k (by omega)
  have s2 := HO.out.shi k
  have s3 := HO.out.slo (k + 1) hk
  have s4 := HO.out.shi (k + 1)
  have z1 := HO.out.lo k
  have z2 := HO.out.step k hk
  have z3 := HO.out.hi (k + 1)
  have K0 := Lib.hid (fun (W : World) (hb : Below w.heap.size w W) => kat_any W a b c d zs ys k (HP.out.on hb) HO.out.len (by omega))
  have K1 : Hid (∀ (W : World), Below w.heap.size w W → Calls Try.prog 83 #[.agg #[.slice a zs.length c, .slice b ys.length d], .int .i64 (IntKind.wrap .i64 ((k : Int) + 1))] W fun e w' => e = .returned (.agg #[.int .i64 (zs.getD (k + 1) 0), .int .i64 (ys.getD (k + 1) 0)]) ∧ Below W.heap.size W w') :=
    Lib.hid (fun W hb => by rw [IntWalk.i64_in _ (by omega), show ((k : Int) + 1) = ((k + 1 : Nat) : Int) by omega]; exact kat_any W a b c d zs ys (k + 1) (HP.out.on hb) HO.out.len hk)
  unfold spR spH at HT
  obtain ⟨d0, hd0⟩ : ∃ q, zs.getD k 0 = q := ⟨_, rfl⟩
  obtain ⟨d1, hd1⟩ : ∃ q, zs.getD (k + 1) 0 = q := ⟨_, rfl⟩
  obtain ⟨v0, hv0⟩ : ∃ q, ys.getD k 0 = q := ⟨_, rfl⟩
  obtain ⟨v1, hv1⟩ : ∃ q, ys.getD (k + 1) 0 = q := ⟨_, rfl⟩
  rw [hd0, hd1, hv0, hv1] at HT
  rw [hd0] at l1 z1 z2
  rw [hd1] at l2 z2 z3
  rw [hv0] at s1 s2
  rw [hv1] at s3 s4
  rw [hd0, hv0] at K0
  rw [hd1, hv1] at K1
  clear hd0 hd1 hv0 hv1 hd hk'
  obtain ⟨b1, b2⟩ := sp_bd s1 s2 s3 s4 z1 z2 z3 l1 l2
  obtain ⟨f1, f2⟩ := fdiv_in (a := (v1 - v0) * (x - d0)) (b := d1 - d0) (N := 400000000000) (by omega) (by omega) (by omega)
  obtain ⟨f3, f4⟩ := cdiv_in (a := (v1 - v0) * (x - d0)) (b := d1 - d0) (N := 400000000000) (by omega) (by omega) (by omega)
  go_enter Try.func51, Try.ntmps51
  go_wp2_with fail
  obtain ⟨W, hW⟩ : ∃ W, W = (w.alloc (.cells #[.slice a zs.length c, .slice b ys.length d] 42)).alloc (.cells #[.int .i64 0, .int .i64 0] 47) := ⟨_, rfl⟩
  have bP : Bk W w.heap.size #[.slice a zs.length c, .slice b ys.length d] 42 := by rw [hW]; exact (Bk.new' rfl).alloc _
  have bR : Bk W (w.heap.size + 1) #[.int .i64 0, .int .i64 0] 47 := by rw [hW]; exact Bk.new' (by simp)
  have HB : Hid (Below w.heap.size w W) := Lib.hid (by rw [hW]; exact (by repeat (first | exact Below.refl _ _ | (refine Below.alloc ?_ (by simp <;> omega) _) | (refine Below.setCell ?_ (by simp <;> omega) _) | (refine Below.drew ?_) | (refine bel_drewN ?_ _))))
  rw [← hW]
  clear hW
  refine (eod_any _ _ _ _ _ zs ys _ (HP.out.on HB.out)).mono ?_
  rw [HV.out, HH.out, show cdT true true = 0 from rfl]
  rintro e w1 ⟨rfl, hb⟩
  replace bP := bP.on hb
  replace bR := bR.on hb
  replace HB := Lib.hid (bel_end HB.out hb)
  have c0 := bP.cell 0 rfl
  have c1 := bP.cell 1 rfl
  clear hb
  go_wp2_with fail
  refine (lat_any _ _ _ _ _ zs ys _ (HP.out.on HB.out) HO.out.len).mono ?_
  rw [HK.out]
  rintro e w2 ⟨rfl, hb⟩
  replace bP := bP.on hb
  replace bR := bR.on hb
  replace HB := Lib.hid (bel_end HB.out hb)
  clear hb c0 c1
  have c0 := bP.cell 0 rfl
  have c1 := bP.cell 1 rfl
  have p0 := bP.lt
  go_upto_region 5 with fail
  go_cut [8, 9] (fun s t wx => Kn2 w2 wx s t d0 v0 d1 v1)
  case first =>
    go_region_held3 (fun w' => w'.cell? ⟨w.heap.size, 0, none⟩ = some (.slice a zs.length c) ∧ w'.cell? ⟨w.heap.size, 1, none⟩ = some (.slice b ys.length d) ∧ Below w2.heap.size w2 w')
      (first
        | (exact keep2 c0 c1 (Below.refl _ w2).drew)
        | (go_split_ands; exact keep2 c0 c1 (bel_in hb (by assumption) (Nat.le_refl _)))
        | (go_split_ands; exact keep2 c0 c1 (bel_al (by assumption) (Nat.le_refl _)))
        | (go_split_ands; refine keep2 c0 c1 ?_; (repeat (first | (with_reducible exact hkB) | (refine Below.alloc ?_ (by first | omega | (simp; done) | (simp; omega)) _) | (refine Below.setCell ?_ (by first | omega | (simp; done) | (simp; omega)) _)))))
      (first
        | (go_at_call 83; (with_reducible refine Calls.mono (K0.out _ (bel_end HB.out ?hq)) ?_); (case hq => (go_split_ands; assumption)); rintro e wA ⟨rfl, hbA⟩; have hkB := bel_in hbA (by go_split_ands; assumption) (Nat.le_refl _); have hnA := hkB.size; (first | (have nn := nk2d hbA; obtain ⟨n1, n2⟩ := nn) | (have n1 := nk1d hbA) | skip); (try (have n10 := n1.cell 0 rfl; have n11 := n1.cell 1 rfl; have n1f0 := n1.frozen 0; have n1f1 := n1.frozen 1; have n1l := n1.lt; have n1n := Nat.ne_of_lt n1l; have n1m := Nat.ne_of_gt n1l)); (try (have n20 := n2.cell 0 rfl; have n21 := n2.cell 1 rfl; have n2f0 := n2.frozen 0; have n2f1 := n2.frozen 1; have n2l := n2.lt; have n2n := Nat.ne_of_lt n2l; have n2m := Nat.ne_of_gt n2l)))
        | (go_at_call 83; (with_reducible refine Calls.mono (K1.out _ (bel_end HB.out ?hq)) ?_); (case hq => (go_split_ands; assumption)); rintro e wB ⟨rfl, hbB⟩; have hkB := bel_in hbB (by go_split_ands; assumption) (Nat.le_refl _); have hnB := hkB.size; (first | (have m1 := n1.on hbB; have m2 := n2.on hbB) | (have m1 := ck1 hbB n1) | (have m1 := n1.on hbB) | skip); (first | (have nn := nk2 hbB; obtain ⟨p1, p2⟩ := nn) | (have p1 := nk1 hbB) | skip); (try (have m10 := m1.cell 0 rfl; have m11 := m1.cell 1 rfl; have m1f0 := m1.frozen 0; have m1f1 := m1.frozen 1; have m1l := m1.lt; have m1n := Nat.ne_of_lt m1l; have m1m := Nat.ne_of_gt m1l)); (try (have m20 := m2.cell 0 rfl; have m21 := m2.cell 1 rfl; have m2f0 := m2.frozen 0; have m2f1 := m2.frozen 1; have m2l := m2.lt; have m2n := Nat.ne_of_lt m2l; have m2m := Nat.ne_of_gt m2l)); (try (have p10 := p1.cell 0 rfl; have p11 := p1.cell 1 rfl; have p1f0 := p1.frozen 0; have p1f1 := p1.frozen 1; have p1l := p1.lt; have p1n := Nat.ne_of_lt p1l; have p1m := Nat.ne_of_gt p1l)); (try (have p20 := p2.cell 0 rfl; have p21 := p2.cell 1 rfl; have p2f0 := p2.frozen 0; have p2f1 := p2.frozen 1; have p2l := p2.lt; have p2n := Nat.ne_of_lt p2l; have p2m := Nat.ne_of_gt p2l))))
    all_goals (go_wp2_with fail; go_meet; go_split_ands)
    all_goals (refine ⟨_, _, rfl, rfl, ?_, ?_, ?_, ?_, ?_⟩)
    all_goals first | (with_reducible assumption) | (go_simp; done) | (simp [go_sem, *]; done) | (repeat (first | (with_reducible exact hkB) | (refine Below.alloc ?_ (by first | omega | (simp; done) | (simp; omega)) _) | (refine Below.setCell ?_ (by first | omega | (simp; done) | (simp; omega)) _)))
  case rest =>
    obtain ⟨g, h, rfl, rfl, x0, x1, x2, x3, hb⟩ := hcut
    replace bR := bR.on hb
    replace HB := Lib.hid (bel_end HB.out hb)
    have r0 := bR.cell 0 rfl
    have r1 := bR.cell 1 rfl
    have rf0 := bR.frozen 0
    have rf1 := bR.frozen 1
    have gl := World.block_lt_of_cell? _ _ x0
    have hl := World.block_lt_of_cell? _ _ x2
    dsimp only at gl hl
    clear hb c0 c1 bP K0 K1
    go_wp2_with fail
    go_quiet ((go_at_call 84; exact st_call (fq_any _ _ (by omega) (by omega) (by omega) (by omega) (by omega) _)))
    go_wp2_with fail
    go_quiet ((go_at_call 85; exact st_call2 (cq_any _ _ (by omega) (by omega) (by omega) (by omega) (by omega) _)))
    go_wp2
    exact bodyPost_ret (v := .tuple #[.agg #[.int .i64 (v0 + ((v1 - v0) * (x - d0)).fdiv (d1 - d0)), .int .i64 (v0 + cdiv ((v1 - v0) * (x - d0)) (d1 - d0))], .int .i64 0]) (by simp [results, Try.results51, go_sem, r0, r1]) rfl ⟨resT_of HT.out, ((bel_drewN HB.out _).setCell (by simp) _).setCell (by simp) _⟩

theorem ispd_no (w : World) (a b : Option Addr) (c d : Nat) (zs ys : List Int) (x q : Int) (hp : Prof w w.heap.size a b zs ys) (hq : cdT (prfB zs ys) (hdB zs x) = q) (h0 : ¬ q = 0) (hT : spT zs ys x = (0, 0, q)) :
    Calls Try.prog 51 #[.agg #[.slice a zs.length c, .slice b ys.length d], .int .i64 x] w fun e w' => e = .returned (.tuple #[.agg #[.int .i64 (spT zs ys x).1, .int .i64 (spT zs ys x).2.1], .int .i64 (spT zs ys x).2.2]) ∧ Below w.heap.size w w' := by
  have HT := Lib.hid hT
  have HP := Lib.hid hp
  have HQ := Lib.hid hq
  clear hp hq hT
  go_enter Try.func51, Try.ntmps51
  go_wp2_with fail
  obtain ⟨W, hW⟩ : ∃ W, W = (w.alloc (.cells #[.slice a zs.length c, .slice b ys.length d] 42)).alloc (.cells #[.int .i64 0, .int .i64 0] 47) := ⟨_, rfl⟩
  have bR : Bk W (w.heap.size + 1) #[.int .i64 0, .int .i64 0] 47 := by rw [hW]; exact Bk.new' (by simp)
  have HB : Hid (Below w.heap.size w W) := Lib.hid (by rw [hW]; exact (by repeat (first | exact Below.refl _ _ | (refine Below.alloc ?_ (by simp <;> omega) _) | (refine Below.setCell ?_ (by simp <;> omega) _) | (refine Below.drew ?_) | (refine bel_drewN ?_ _))))
  rw [← hW]
  clear hW
  refine (eod_any _ _ _ _ _ zs ys _ (HP.out.on HB.out)).mono ?_
  rw [HQ.out]
  rintro e w1 ⟨rfl, hb⟩
  replace bR := bR.on hb
  replace HB := Lib.hid (bel_end HB.out hb)
  have r0 := bR.cell 0 rfl
  have r1 := bR.cell 1 rfl
  have rf0 := bR.frozen 0
  have rf1 := bR.frozen 1
  have hq0 : (q != 0) = true := by simpa using h0
  clear hb h0
  go_wp2
  exact bodyPost_ret (v := .tuple #[.agg #[.int .i64 0, .int .i64 0], .int .i64 q]) (by simp [results, Try.results51, go_sem, r0, r1]) rfl ⟨resT_of HT.out, (HB.out.setCell (by simp) _).setCell (by simp) _⟩
theorem ispd_any (w : World) (a b : Option Addr) (c d : Nat) (zs ys : List Int) (x : Int) (hp : Prof w w.heap.size a b zs ys) :
    Calls Try.prog 51 #[.agg #[.slice a zs.length c, .slice b ys.length d], .int .i64 x] w fun e w' => e = .returned (.tuple #[.agg #[.int .i64 (spT zs ys x).1, .int .i64 (spT zs ys x).2.1], .int .i64 (spT zs ys x).2.2]) ∧ Below w.heap.size w w' := by
  cases hv : prfB zs ys
  · exact ispd_no w a b c d zs ys x 1 hp (by rw [hv]; rfl) (by omega) (spT_f hv)
  · cases hh : hdB zs x
    · exact ispd_no w a b c d zs ys x 2 hp (by rw [hv, hh]; rfl) (by omega) (spT_g hv hh)
    · exact ispd_ok w a b c d zs ys x hp hv hh

theorem sspd_no (w : World) (a b : Option Addr) (c d : Nat) (zs ys : List Int) (x q : Int) (hp : Prof w w.heap.size a b zs ys) (hq : cdT (prfB zs ys) (hdB zs x) = q) (h0 : ¬ q = 0) (hT : spT zs ys x = (0, 0, q)) :
    Calls Try.prog 52 #[.agg #[.slice a zs.length c, .slice b ys.length d], .int .i64 x] w fun e w' => e = .returned (.tuple #[.agg #[.int .i64 (spT zs ys x).1, .int .i64 (spT zs ys x).2.1], .int .i64 (spT zs ys x).2.2]) ∧ Below w.heap.size w w' := by
  have HT := Lib.hid hT
  have HP := Lib.hid hp
  have HQ := Lib.hid hq
  clear hp hq hT
  go_enter Try.func52, Try.ntmps52
  go_wp2_with fail
  obtain ⟨W, hW⟩ : ∃ W, W = (w.alloc (.cells #[.slice a zs.length c, .slice b ys.length d] 42)).alloc (.cells #[.int .i64 0, .int .i64 0] 47) := ⟨_, rfl⟩
  have bR : Bk W (w.heap.size + 1) #[.int .i64 0, .int .i64 0] 47 := by rw [hW]; exact Bk.new' (by simp)
  have HB : Hid (Below w.heap.size w W) := Lib.hid (by rw [hW]; exact (by repeat (first | exact Below.refl _ _ | (refine Below.alloc ?_ (by simp <;> omega) _) | (refine Below.setCell ?_ (by simp <;> omega) _) | (refine Below.drew ?_) | (refine bel_drewN ?_ _))))
  rw [← hW]
  clear hW
  refine (scd_any _ _ _ _ _ zs ys _ (HP.out.on HB.out)).mono ?_
  rw [HQ.out]
  rintro e w1 ⟨rfl, hb⟩
  replace bR := bR.on hb
  replace HB := Lib.hid (bel_end HB.out hb)
  have r0 := bR.cell 0 rfl
  have r1 := bR.cell 1 rfl
  have rf0 := bR.frozen 0
  have rf1 := bR.frozen 1
  have hq0 : (q != 0) = true := by simpa using h0
  clear hb h0
  go_wp2
  exact bodyPost_ret (v := .tuple #[.agg #[.int .i64 0, .int .i64 0], .int .i64 q]) (by simp [results, Try.results52, go_sem, r0, r1]) rfl ⟨resT_of HT.out, (HB.out.setCell (by simp) _).setCell (by simp) _⟩

set_option maxRecDepth 100000 in
set_option maxHeartbeats 4000000 in
theorem sspd_ok (w : World) (a b : Option Addr) (c d : Nat) (zs ys : List Int) (x : Int) (hp : Prof w w.heap.size a b zs ys) (hv : prfB zs ys = true) (hh : hdB zs x = true) :
    Calls Try.prog 52 #[.agg #[.slice a zs.length c, .slice b ys.length d], .int .i64 x] w fun e w' => e = .returned (.tuple #[.agg #[.int .i64 (spT zs ys x).1, .int .i64 (spT zs ys x).2.1], .int .i64 (spT zs ys x).2.2]) ∧ Below w.heap.size w w' := by
  have HT := Lib.hid (spT_t hv hh)
  have HP := Lib.hid hp
  have lz := hp.lz
  have ly := hp.ly
  have HO := Lib.hid (Okp.of hv)
  have hd := hdB_t hh
  have HD := Lib.hid hd
  have HV := Lib.hid hv
  have HH := Lib.hid hh
  clear hp hv hh
  have hk := layN_lt HO.out hd.2
  have l1 := layN_le HO.out hd.1
  have l2 := layN_ge HO.out hd.2
  obtain ⟨k, hk'⟩ : ∃ k, layN zs x = k := ⟨_, rfl⟩
  rw [hk'] at hk l1 l2 HT
  have HK := Lib.hid hk'
  have s1 := HO.out.slo k (by omega)
  have s2 := HO.out.shi k
  have s3 := HO.out.slo (k + 1) hk
  have s4 := HO.out.shi (k + 1)
  have z1 := HO.out.lo k
  have z2 := HO.out.step k hk
  have z3 := HO.out.hi (k + 1)
  have hky : k + 1 < ys.length := by rw [HO.out.len]; exact hk
  have C : Hid (∃ p o p' o', a = some ⟨p, o, none⟩ ∧ b = some ⟨p', o', none⟩ ∧ p' < w.heap.size ∧ w.cell? ⟨p, o + k, none⟩ = some (.int .i64 (zs.getD k 0)) ∧ w.cell? ⟨p, o + (k + 1), none⟩ = some (.int .i64 (zs.getD (k + 1) 0)) ∧ w.cell? ⟨p', o' + k, none⟩ = some (.int .i64 (ys.getD k 0)) ∧ w.cell? ⟨p', o' + (k + 1), none⟩ = some (.int .i64 (ys.getD (k + 1) 0))) := Lib.hid (by
    obtain ⟨p, o, e1, _, h1⟩ := HP.out.dz (by omega)
    obtain ⟨p', o', e2, hlp, h2⟩ := HP.out.sy (by omega)
    exact ⟨p, o, p', o', e1, e2, hlp, h1 k (by omega), h1 (k + 1) hk, h2 k (by omega), h2 (k + 1) hky⟩)
  unfold spR spH at HT
  obtain ⟨d0, hd0⟩ : ∃ q, zs.getD k 0 = q := ⟨_, rfl⟩
  obtain ⟨d1, hd1⟩ : ∃ q, zs.getD (k + 1) 0 = q := ⟨_, rfl⟩
  obtain ⟨v0, hv0⟩ : ∃ q, ys.getD k 0 = q := ⟨_, rfl⟩
  obtain ⟨v1, hv1⟩ : ∃ q, ys.getD (k + 1) 0 = q := ⟨_, rfl⟩
  rw [hd0, hd1, hv0, hv1] at HT C
  rw [hd0] at l1 z1 z2
  rw [hd1] at l2 z2 z3
  rw [hv0] at s1 s2
  rw [hv1] at s3 s4
  clear hd0 hd1 hv0 hv1 hd hk'
  obtain ⟨b1, b2⟩ := sp_bd s1 s2 s3 s4 z1 z2 z3 l1 l2
  obtain ⟨f1, f2⟩ := fdiv_in (a := (v1 - v0) * (x - d0)) (b := d1 - d0) (N := 400000000000) (by omega) (by omega) (by omega)
  obtain ⟨f3, f4⟩ := cdiv_in (a := (v1 - v0) * (x - d0)) (b := d1 - d0) (N := 400000000000) (by omega) (by omega) (by omega)
  obtain ⟨p, o, p', o', rfl, rfl, hlp, h1, h2, h3, h4⟩ := C.out
  clear C
  go_enter Try.func52, Try.ntmps52
  go_wp2_with fail
  obtain ⟨W, hW⟩ : ∃ W, W = (w.alloc (.cells #[.slice (some ⟨p, o, none⟩) zs.length c, .slice (some ⟨p', o', none⟩) ys.length d] 42)).alloc (.cells #[.int .i64 0, .int .i64 0] 47) := ⟨_, rfl⟩
  have bP : Bk W w.heap.size #[.slice (some ⟨p, o, none⟩) zs.length c, .slice (some ⟨p', o', none⟩) ys.length d] 42 := by rw [hW]; exact (Bk.new' rfl).alloc _
  have bR : Bk W (w.heap.size + 1) #[.int .i64 0, .int .i64 0] 47 := by rw [hW]; exact Bk.new' (by simp)
  have HB : Hid (Below w.heap.size w W) := Lib.hid (by rw [hW]; exact (by repeat (first | exact Below.refl _ _ | (refine Below.alloc ?_ (by simp <;> omega) _) | (refine Below.setCell ?_ (by simp <;> omega) _) | (refine Below.drew ?_) | (refine bel_drewN ?_ _))))
  rw [← hW]
  clear hW
  refine (scd_any _ _ _ _ _ zs ys _ (HP.out.on HB.out)).mono ?_
  rw [HV.out, HH.out, show cdT true true = 0 from rfl]
  rintro e w1 ⟨rfl, hb⟩
  replace bP := bP.on hb
  replace bR := bR.on hb
  replace HB := Lib.hid (bel_end HB.out hb)
  have c0 := bP.cell 0 rfl
  have c1 := bP.cell 1 rfl
  clear hb
  go_wp2_with fail
  refine (sly_any _ _ _ _ _ zs ys _ (HP.out.on HB.out) HO.out HD.out.2).mono ?_
  rw [HK.out]
  rintro e w2 ⟨rfl, hb⟩
  replace bP := bP.on hb
  replace bR := bR.on hb
  replace HB := Lib.hid (bel_end HB.out hb)
  replace h1 := kc1 h1 HB.out
  replace h2 := kc1 h2 HB.out
  replace h3 := kc1 h3 HB.out
  replace h4 := kc1 h4 HB.out
  clear hb c0 c1
  have c0 := bP.cell 0 rfl
  have c1 := bP.cell 1 rfl
  have i1 : (0 : Int) ≤ (k : Int) + 1 := by omega
  have i2 : ((k : Int) + 1).toNat = k + 1 := by omega
  have i3 : (k : Int) + 1 < (zs.length : Int) := by omega
  have i4 : (k : Int) + 1 < (ys.length : Int) := by omega
  have i5 : (k : Int) < (zs.length : Int) := by omega
  have i6 : (k : Int) < (ys.length : Int) := by omega
  go_wp2_with fail
  go_quiet (fail)
  go_wp2_with fail
  have r0 := bR.cell 0 rfl
  have r1 := bR.cell 1 rfl
  have rf0 := bR.frozen 0
  have rf1 := bR.frozen 1
  obtain ⟨W3, hW⟩ : ∃ W, W = w2.drewN nq := ⟨_, rfl⟩
  replace c0 : W3.cell? ⟨w.heap.size, 0, none⟩ = some (.slice (some ⟨p, o, none⟩) zs.length c) := by rw [hW]; exact c0
  replace c1 : W3.cell? ⟨w.heap.size, 1, none⟩ = some (.slice (some ⟨p', o', none⟩) ys.length d) := by rw [hW]; exact c1
  replace h3 : W3.cell? ⟨p', o' + k, none⟩ = some (.int .i64 v0) := by rw [hW]; exact h3
  replace r0 : W3.cell? ⟨w.heap.size + 1, 0, none⟩ = some (.int .i64 0) := by rw [hW]; exact r0
  replace r1 : W3.cell? ⟨w.heap.size + 1, 1, none⟩ = some (.int .i64 0) := by rw [hW]; exact r1
  replace rf0 : W3.frozen? ⟨w.heap.size + 1, 0, none⟩ = false := by rw [hW]; exact rf0
  replace rf1 : W3.frozen? ⟨w.heap.size + 1, 1, none⟩ = false := by rw [hW]; exact rf1
  replace HB : Hid (Below w.heap.size w W3) := Lib.hid (by rw [hW]; exact bel_drewN HB.out _)
  have hp' : ¬ p' = w.heap.size + 1 := by omega
  rw [← hW]
  clear hW h1 h2 h4 bR bP
  go_region_held3 (fun w' => w'.cell? ⟨w.heap.size, 0, none⟩ = some (.slice (some ⟨p, o, none⟩) zs.length c) ∧ w'.cell? ⟨w.heap.size, 1, none⟩ = some (.slice (some ⟨p', o', none⟩) ys.length d) ∧ w'.cell? ⟨p', o' + k, none⟩ = some (.int .i64 v0))
    (first
      | (exact ⟨c0, c1, h3⟩)
      | (go_split_ands; exact ⟨by assumption, by assumption, by assumption⟩)
      | (go_split_ands; refine ⟨?_, ?_, ?_⟩ <;> (simp [go_sem, *]; done)))
    (first
      | (go_at_call 88; refine (lfl_any _ _ (by omega) (by omega) (by omega) (by omega) (by omega) _).mono ?_; rintro e w' ⟨rfl, rfl⟩)
      | (go_at_call 89; refine (lce_any _ _ (by omega) (by omega) (by omega) (by omega) (by omega) _).mono ?_; rintro e w' ⟨rfl, rfl⟩))
  go_wp2
  have e1 : IntKind.wrap .i64 (v0 + ((v1 - v0) * (x - d0)).fdiv (d1 - d0)) = v0 + ((v1 - v0) * (x - d0)).fdiv (d1 - d0) := IntWalk.i64_in _ (by omega)
  have e2 : IntKind.wrap .i64 (v0 + cdiv ((v1 - v0) * (x - d0)) (d1 - d0)) = v0 + cdiv ((v1 - v0) * (x - d0)) (d1 - d0) := IntWalk.i64_in _ (by omega)
  exact bodyPost_ret (v := .tuple #[.agg #[.int .i64 (v0 + ((v1 - v0) * (x - d0)).fdiv (d1 - d0)), .int .i64 (v0 + cdiv ((v1 - v0) * (x - d0)) (d1 - d0))], .int .i64 0]) (by simp [results, Try.results52, go_sem, r0, r1, e1, e2]) rfl ⟨resT_of HT.out, (HB.out.drew.setCell (by simp) _).setCell (by simp) _⟩
theorem sspd_any (w : World) (a b : Option Addr) (c d : Nat) (zs ys : List Int) (x : Int) (hp : Prof w w.heap.size a b zs ys) :
    Calls Try.prog 52 #[.agg #[.slice a zs.length c, .slice b ys.length d], .int .i64 x] w fun e w' => e = .returned (.tuple #[.agg #[.int .i64 (spT zs ys x).1, .int .i64 (spT zs ys x).2.1], .int .i64 (spT zs ys x).2.2]) ∧ Below w.heap.size w w' := by
  cases hv : prfB zs ys
  · exact sspd_no w a b c d zs ys x 1 hp (by rw [hv]; rfl) (by omega) (spT_f hv)
  · cases hh : hdB zs x
    · exact sspd_no w a b c d zs ys x 2 hp (by rw [hv, hh]; rfl) (by omega) (spT_g hv hh)
    · exact sspd_ok w a b c d zs ys x hp hv hh
end Go.Proofs.Ytcaekheghjnipaa
