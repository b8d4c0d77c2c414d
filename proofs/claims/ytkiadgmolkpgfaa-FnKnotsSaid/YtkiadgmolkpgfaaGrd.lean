/- Contracts of GradientOf, the program's and the model's. -/
import Derived.Test.YtkiadgmolkpgfaaSpd
import Derived.Test.YtkiadgmolkpgfaaRat2
namespace Go.Proofs.Ytkiadgmolkpgfaa
open Go.ChangeShapes Go.WideShapes Go.ChangeAt Go.RowKit Go.Shelf Num
set_option linter.unusedVariables false
attribute [local go_sem ↓] Go.wp_at_zero Go.wp_at_succ
/-- the gradient of a layer, and the code -/
def grT (zs ys : List Int) (x : Int) : Int × Int × Int :=
  if prfB zs ys && hlB zs x then madT (ys.getD (x.toNat + 1) 0 - ys.getD x.toNat 0) (zs.getD (x.toNat + 1) 0 - zs.getD x.toNat 0) else (0, 0, cdT (prfB zs ys) (hlB zs x))
theorem grT_t {zs ys : List Int} {k : Nat} (h : prfB zs ys = true) (g : hlB zs (k : Int) = true) : grT zs ys (k : Int) = madT (ys.getD (k + 1) 0 - ys.getD k 0) (zs.getD (k + 1) 0 - zs.getD k 0) := by unfold grT; rw [h, g]; rfl
theorem grT_f {zs ys : List Int} {x : Int} (h : prfB zs ys = false) : grT zs ys x = (0, 0, 1) := by unfold grT; rw [h]; rfl
theorem grT_g {zs ys : List Int} {x : Int} (h : prfB zs ys = true) (g : hlB zs x = false) : grT zs ys x = (0, 0, 2) := by unfold grT; rw [h, g]; rfl
theorem gr_ok {y0 y1 z0 z1 : Int} (h1 : 1300000 ≤ y0) (h2 : y0 ≤ 1700000) (h3 : 1300000 ≤ y1) (h4 : y1 ≤ 1700000) (h5 : 0 ≤ z0) (h6 : z0 < z1) (h7 : z1 ≤ 1000000) : madT (y1 - y0) (z1 - z0) = mkT (y1 - y0) (z1 - z0) := by
  refine madT_ok ?_
  unfold dcode
  rw [valB_mk (by omega) (by omega), valB_mk (by omega) (by omega)]
  have : (z1 - z0 == 0) = false := by simp; omega
  rw [this]; rfl

theorem igrd_no (w : World) (a b : Option Addr) (c d : Nat) (zs ys : List Int) (x : Int) (q : Int) (hp : Prof w w.heap.size a b zs ys) (hq : cdT (prfB zs ys) (hlB zs x) = q) (h0 : ¬ q = 0) (hT : grT zs ys x = (0, 0, q)) :
    Calls Try.prog 22 #[.agg #[.slice a zs.length c, .slice b ys.length d], .int .i64 x] w fun e w' => e = .returned (.tuple #[.agg #[.int .i64 (grT zs ys x).1, .int .i64 (grT zs ys x).2.1], .int .i64 (grT zs ys x).2.2]) ∧ Below w.heap.size w w' := by
  have HT := Lib.hid hT
  have HP := Lib.hid hp
  have HQ := Lib.hid hq
  clear hp hT
  go_enter Try.func22, Try.ntmps22
  go_wp2_with fail
  obtain ⟨W, hW⟩ : ∃ W, W = (w.alloc (.cells #[.slice a zs.length c, .slice b ys.length d] 26)).alloc (.cells #[.int .i64 0, .int .i64 0] 38) := ⟨_, rfl⟩
  have bR : Bk W (w.heap.size + 1) #[.int .i64 0, .int .i64 0] 38 := by rw [hW]; exact Bk.new' (by simp)
  have HB : Hid (Below w.heap.size w W) := Lib.hid (by rw [hW]; exact (by repeat (first | exact Below.refl _ _ | (refine Below.alloc ?_ (by simp <;> omega) _) | (refine Below.setCell ?_ (by simp <;> omega) _) | (refine Below.drew ?_) | (refine bel_drewN ?_ _))))
  rw [← hW]
  clear hW hq
  refine (eol_any _ _ _ _ _ zs ys _ (HP.out.on HB.out)).mono ?_
  rw [HQ.out]
  rintro e w1 ⟨rfl, hb⟩
  replace bR := bR.on hb
  replace HB := Lib.hid (bel_end HB.out hb)
  have r0 := bR.cell 0 rfl
  have r1 := bR.cell 1 rfl
  have rf0 := bR.frozen 0
  have rf1 := bR.frozen 1
  have hq0 : (q != 0) = true := by simpa using h0
  clear hb h0
  go_wp2
  exact bodyPost_ret (v := .tuple #[.agg #[.int .i64 0, .int .i64 0], .int .i64 q]) (by simp [results, Try.results22, go_sem, r0, r1]) rfl ⟨resT_of HT.out, (HB.out.setCell (by simp) _).setCell (by simp) _⟩

theorem sgrd_no (w : World) (a b : Option Addr) (c d : Nat) (zs ys : List Int) (x : Int) (q : Int) (hp : Prof w w.heap.size a b zs ys) (hq : cdT (prfB zs ys) (hlB zs x) = q) (h0 : ¬ q = 0) (hT : grT zs ys x = (0, 0, q)) :
    Calls Try.prog 23 #[.agg #[.slice a zs.length c, .slice b ys.length d], .int .i64 x] w fun e w' => e = .returned (.tuple #[.agg #[.int .i64 (grT zs ys x).1, .int .i64 (grT zs ys x).2.1], .int .i64 (grT zs ys x).2.2]) ∧ Below w.heap.size w w' := by
  have HT := Lib.hid hT
  have HP := Lib.hid hp
  have HQ := Lib.hid hq
  clear hp hT
  go_enter Try.func23, Try.ntmps23
  go_wp2_with fail
  obtain ⟨W, hW⟩ : ∃ W, W = (w.alloc (.cells #[.slice a zs.length c, .slice b ys.length d] 26)).alloc (.cells #[.int .i64 0, .int .i64 0] 38) := ⟨_, rfl⟩
  have bR : Bk W (w.heap.size + 1) #[.int .i64 0, .int .i64 0] 38 := by rw [hW]; exact Bk.new' (by simp)
  have HB : Hid (Below w.heap.size w W) := Lib.hid (by rw [hW]; exact (by repeat (first | exact Below.refl _ _ | (refine Below.alloc ?_ (by simp <;> omega) _) | (refine Below.setCell ?_ (by simp <;> omega) _) | (refine Below.drew ?_) | (refine bel_drewN ?_ _))))
  rw [← hW]
  clear hW hq
  refine (skc_any _ _ _ _ _ zs ys _ _ (by omega) (by omega) (HP.out.on HB.out)).mono ?_
  rw [inB_hl, HQ.out]
  rintro e w1 ⟨rfl, hb⟩
  replace bR := bR.on hb
  replace HB := Lib.hid (bel_end HB.out hb)
  have r0 := bR.cell 0 rfl
  have r1 := bR.cell 1 rfl
  have rf0 := bR.frozen 0
  have rf1 := bR.frozen 1
  have hq0 : (q != 0) = true := by simpa using h0
  clear hb h0
  go_wp2
  exact bodyPost_ret (v := .tuple #[.agg #[.int .i64 0, .int .i64 0], .int .i64 q]) (by simp [results, Try.results23, go_sem, r0, r1]) rfl ⟨resT_of HT.out, (HB.out.setCell (by simp) _).setCell (by simp) _⟩

set_option maxRecDepth 100000 in
set_option maxHeartbeats 4000000 in
theorem igrd_ok (w : World) (a b : Option Addr) (c d : Nat) (zs ys : List Int) (x : Int) (hp : Prof w w.heap.size a b zs ys) (hv : prfB zs ys = true) (hh : hlB zs x = true) :
    Calls Try.prog 22 #[.agg #[.slice a zs.length c, .slice b ys.length d], .int .i64 x] w fun e w' => e = .returned (.tuple #[.agg #[.int .i64 (grT zs ys x).1, .int .i64 (grT zs ys x).2.1], .int .i64 (grT zs ys x).2.2]) ∧ Below w.heap.size w w' := by
  have HP := Lib.hid hp
  have lz := hp.lz
  have ly := hp.ly
  have HO := Lib.hid (Okp.of hv)
  have hd := hlB_t hh
  obtain ⟨k, rfl⟩ : ∃ k : Nat, x = (k : Int) := ⟨x.toNat, by omega⟩
  have HT := Lib.hid (grT_t hv hh)
  have HV := Lib.hid hv
  have HH := Lib.hid hh
  have hk : k + 1 < zs.length := by omega
  clear hp hv hh hd
  have s1 := HO.out.slo k (by omega)
  have s2 := HO.out.shi k
  have s3 := HO.out.slo (k + 1) hk
  have s4 := HO.out.shi (k + 1)
  have z1 := HO.out.lo k
  have z2 := HO.out.step k hk
  have z3 := HO.out.hi (k + 1)
  have K0 := Lib.hid (fun (W : World) (hb : Below w.heap.size w W) => kat_any W a b c d zs ys k (HP.out.on hb) HO.out.len (by omega))
  have K1 : Hid (∀ (W : World), Below w.heap.size w W → Calls Try.prog 43 #[.agg #[.slice a zs.length c, .slice b ys.length d], .int .i64 (IntKind.wrap .i64 ((k : Int) + 1))] W fun e w' => e = .returned (.agg #[.int .i64 (zs.getD (k + 1) 0), .int .i64 (ys.getD (k + 1) 0)]) ∧ Below W.heap.size W w') :=
    Lib.hid (fun W hb => by rw [IntWalk.i64_in _ (by omega), show ((k : Int) + 1) = ((k + 1 : Nat) : Int) by omega]; exact kat_any W a b c d zs ys (k + 1) (HP.out.on hb) HO.out.len hk)
  obtain ⟨d0, hd0⟩ : ∃ q, zs.getD k 0 = q := ⟨_, rfl⟩
  obtain ⟨d1, hd1⟩ : ∃ q, zs.getD (k + 1) 0 = q := ⟨_, rfl⟩
  obtain ⟨v0, hv0⟩ : ∃ q, ys.getD k 0 = q := ⟨_, rfl⟩
  obtain ⟨v1, hv1⟩ : ∃ q, ys.getD (k + 1) 0 = q := ⟨_, rfl⟩
  rw [hd0, hd1, hv0, hv1] at HT
  rw [hd0] at z1 z2
  rw [hd1] at z2 z3
  rw [hv0] at s1 s2
  rw [hv1] at s3 s4
  rw [hd0, hv0] at K0
  rw [hd1, hv1] at K1
  clear hd0 hd1 hv0 hv1
  go_enter Try.func22, Try.ntmps22
  go_wp2_with fail
  obtain ⟨W, hW⟩ : ∃ W, W = (w.alloc (.cells #[.slice a zs.length c, .slice b ys.length d] 26)).alloc (.cells #[.int .i64 0, .int .i64 0] 38) := ⟨_, rfl⟩
  have bP : Bk W w.heap.size #[.slice a zs.length c, .slice b ys.length d] 26 := by rw [hW]; exact (Bk.new' rfl).alloc _
  have bR : Bk W (w.heap.size + 1) #[.int .i64 0, .int .i64 0] 38 := by rw [hW]; exact Bk.new' (by simp)
  have HB : Hid (Below w.heap.size w W) := Lib.hid (by rw [hW]; exact (by repeat (first | exact Below.refl _ _ | (refine Below.alloc ?_ (by simp <;> omega) _) | (refine Below.setCell ?_ (by simp <;> omega) _) | (refine Below.drew ?_) | (refine bel_drewN ?_ _))))
  rw [← hW]
  clear hW
  refine (eol_any _ _ _ _ _ zs ys _ (HP.out.on HB.out)).mono ?_
  rw [HV.out, HH.out, show cdT true true = 0 from rfl]
  rintro e w2 ⟨rfl, hb⟩
  replace bP := bP.on hb
  replace bR := bR.on hb
  replace HB := Lib.hid (bel_end HB.out hb)
  have c0 := bP.cell 0 rfl
  have c1 := bP.cell 1 rfl
  have p0 := bP.lt
  clear hb
  go_upto_region 4 with fail
  go_cut [7, 8] (fun s t wx => Kn2 w2 wx s t d0 v0 d1 v1)
  case first =>
    go_region_held3 (fun w' => w'.cell? ⟨w.heap.size, 0, none⟩ = some (.slice a zs.length c) ∧ w'.cell? ⟨w.heap.size, 1, none⟩ = some (.slice b ys.length d) ∧ Below w2.heap.size w2 w')
      (first
        | (exact keep2 c0 c1 (Below.refl _ w2).drew)
        | (go_split_ands; exact keep2 c0 c1 (bel_in hb (by assumption) (Nat.le_refl _)))
        | (go_split_ands; exact keep2 c0 c1 (bel_al (by assumption) (Nat.le_refl _)))
        | (go_split_ands; refine keep2 c0 c1 ?_; (repeat (first | (with_reducible exact hkB) | (refine Below.alloc ?_ (by first | omega | (simp; done) | (simp; omega)) _) | (refine Below.setCell ?_ (by first | omega | (simp; done) | (simp; omega)) _)))))
      (first
        | (go_at_call 43; (with_reducible refine Calls.mono (K0.out _ (bel_end HB.out ?hq)) ?_); (case hq => (go_split_ands; assumption)); rintro e wA ⟨rfl, hbA⟩; have hkB := bel_in hbA (by go_split_ands; assumption) (Nat.le_refl _); have hnA := hkB.size; (first | (have nn := nk2d hbA; obtain ⟨n1, n2⟩ := nn) | (have n1 := nk1d hbA) | skip); (try (have n10 := n1.cell 0 rfl; have n11 := n1.cell 1 rfl; have n1f0 := n1.frozen 0; have n1f1 := n1.frozen 1; have n1l := n1.lt; have n1n := Nat.ne_of_lt n1l; have n1m := Nat.ne_of_gt n1l)); (try (have n20 := n2.cell 0 rfl; have n21 := n2.cell 1 rfl; have n2f0 := n2.frozen 0; have n2f1 := n2.frozen 1; have n2l := n2.lt; have n2n := Nat.ne_of_lt n2l; have n2m := Nat.ne_of_gt n2l)))
        | (go_at_call 43; (with_reducible refine Calls.mono (K1.out _ (bel_end HB.out ?hq)) ?_); (case hq => (go_split_ands; assumption)); rintro e wB ⟨rfl, hbB⟩; have hkB := bel_in hbB (by go_split_ands; assumption) (Nat.le_refl _); have hnB := hkB.size; (first | (have m1 := n1.on hbB; have m2 := n2.on hbB) | (have m1 := ck1 hbB n1) | (have m1 := n1.on hbB) | skip); (first | (have nn := nk2 hbB; obtain ⟨p1, p2⟩ := nn) | (have p1 := nk1 hbB) | skip); (try (have m10 := m1.cell 0 rfl; have m11 := m1.cell 1 rfl; have m1f0 := m1.frozen 0; have m1f1 := m1.frozen 1; have m1l := m1.lt; have m1n := Nat.ne_of_lt m1l; have m1m := Nat.ne_of_gt m1l)); (try (have m20 := m2.cell 0 rfl; have m21 := m2.cell 1 rfl; have m2f0 := m2.frozen 0; have m2f1 := m2.frozen 1; have m2l := m2.lt; have m2n := Nat.ne_of_lt m2l; have m2m := Nat.ne_of_gt m2l)); (try (have p10 := p1.cell 0 rfl; have p11 := p1.cell 1 rfl; have p1f0 := p1.frozen 0; have p1f1 := p1.frozen 1; have p1l := p1.lt; have p1n := Nat.ne_of_lt p1l; have p1m := Nat.ne_of_gt p1l)); (try (have p20 := p2.cell 0 rfl; have p21 := p2.cell 1 rfl; have p2f0 := p2.frozen 0; have p2f1 := p2.frozen 1; have p2l := p2.lt; have p2n := Nat.ne_of_lt p2l; have p2m := Nat.ne_of_gt p2l))))
    all_goals (go_wp2_with fail; go_meet; go_split_ands)
    all_goals (refine ⟨_, _, rfl, rfl, ?_, ?_, ?_, ?_, ?_⟩)
    all_goals first | (with_reducible assumption) | (go_simp; done) | (simp [go_sem, *]; done) | (repeat (first | (with_reducible exact hkB) | (refine Below.alloc ?_ (by first | omega | (simp; done) | (simp; omega)) _) | (refine Below.setCell ?_ (by first | omega | (simp; done) | (simp; omega)) _)))
  case rest =>
    obtain ⟨g, h, rfl, rfl, x0, x1, x2, x3, hb⟩ := hcut
    replace bR := bR.on hb
    replace HB := Lib.hid (bel_end HB.out hb)
    have gl := World.block_lt_of_cell? _ _ x0
    have hl := World.block_lt_of_cell? _ _ x2
    dsimp only at gl hl
    clear hb c0 c1 bP K0 K1
    go_wp2_with fail
    refine (imk_any _ _ _).mono ?_
    obtain ⟨T, hT⟩ : ∃ T, madT (v1 - v0) (d1 - d0) = T := ⟨_, rfl⟩
    rw [hT] at HT ⊢
    clear hT
    rintro e w3 ⟨rfl, hb⟩
    replace bR := bR.on hb
    replace HB := Lib.hid (bel_end HB.out hb)
    have r0 := bR.cell 0 rfl
    have r1 := bR.cell 1 rfl
    have rf0 := bR.frozen 0
    have rf1 := bR.frozen 1
    clear hb
    go_wp2
    exact bodyPost_ret (v := .tuple #[.agg #[.int .i64 T.1, .int .i64 T.2.1], .int .i64 T.2.2]) (by simp [results, Try.results22, go_sem, r0, r1]) rfl ⟨resT_of HT.out, (HB.out.setCell (by simp) _).setCell (by simp) _⟩

set_option maxRecDepth 100000 in
set_option maxHeartbeats 4000000 in
theorem sgrd_ok (w : World) (a b : Option Addr) (c d : Nat) (zs ys : List Int) (x : Int) (hp : Prof w w.heap.size a b zs ys) (hv : prfB zs ys = true) (hh : hlB zs x = true) :
    Calls Try.prog 23 #[.agg #[.slice a zs.length c, .slice b ys.length d], .int .i64 x] w fun e w' => e = .returned (.tuple #[.agg #[.int .i64 (grT zs ys x).1, .int .i64 (grT zs ys x).2.1], .int .i64 (grT zs ys x).2.2]) ∧ Below w.heap.size w w' := by
  have HP := Lib.hid hp
  have lz := hp.lz
  have ly := hp.ly
  have HO := Lib.hid (Okp.of hv)
  have hd := hlB_t hh
  obtain ⟨k, rfl⟩ : ∃ k : Nat, x = (k : Int) := ⟨x.toNat, by omega⟩
  have HT := Lib.hid (grT_t hv hh)
  have HV := Lib.hid hv
  have HH := Lib.hid hh
  have hk : k + 1 < zs.length := by omega
  clear hp hv hh hd
  have s1 := HO.out.slo k (by omega)
  have s2 := HO.out.shi k
  have s3 := HO.out.slo (k + 1) hk
  have s4 := HO.out.shi (k + 1)
  have z1 := HO.out.lo k
  have z2 := HO.out.step k hk
  have z3 := HO.out.hi (k + 1)
  have hky : k + 1 < ys.length := by rw [HO.out.len]; exact hk
  have C : Hid (∃ p o p' o', a = some ⟨p, o, none⟩ ∧ b = some ⟨p', o', none⟩ ∧ p < w.heap.size ∧ p' < w.heap.size ∧ w.cell? ⟨p, o + k, none⟩ = some (.int .i64 (zs.getD k 0)) ∧ w.cell? ⟨p, o + (k + 1), none⟩ = some (.int .i64 (zs.getD (k + 1) 0)) ∧ w.cell? ⟨p', o' + k, none⟩ = some (.int .i64 (ys.getD k 0)) ∧ w.cell? ⟨p', o' + (k + 1), none⟩ = some (.int .i64 (ys.getD (k + 1) 0))) := Lib.hid (by
    obtain ⟨p, o, e1, hlp, h1⟩ := HP.out.dz (by omega)
    obtain ⟨p', o', e2, hlq, h2⟩ := HP.out.sy (by omega)
    exact ⟨p, o, p', o', e1, e2, hlp, hlq, h1 k (by omega), h1 (k + 1) hk, h2 k (by omega), h2 (k + 1) hky⟩)
  obtain ⟨d0, hd0⟩ : ∃ q, zs.getD k 0 = q := ⟨_, rfl⟩
  obtain ⟨d1, hd1⟩ : ∃ q, zs.getD (k + 1) 0 = q := ⟨_, rfl⟩
  obtain ⟨v0, hv0⟩ : ∃ q, ys.getD k 0 = q := ⟨_, rfl⟩
  obtain ⟨v1, hv1⟩ : ∃ q, ys.getD (k + 1) 0 = q := ⟨_, rfl⟩
  rw [hd0, hd1, hv0, hv1] at HT C
  rw [hd0] at z1 z2
  rw [hd1] at z2 z3
  rw [hv0] at s1 s2
  rw [hv1] at s3 s4
  rw [gr_ok s1 s2 s3 s4 z1 z2 z3] at HT
  clear hd0 hd1 hv0 hv1
  obtain ⟨p, o, p', o', rfl, rfl, hlp, hlq, h1, h2, h3, h4⟩ := C.out
  clear C
  go_enter Try.func23, Try.ntmps23
  go_wp2_with fail
  obtain ⟨W, hW⟩ : ∃ W, W = (w.alloc (.cells #[.slice (some ⟨p, o, none⟩) zs.length c, .slice (some ⟨p', o', none⟩) ys.length d] 26)).alloc (.cells #[.int .i64 0, .int .i64 0] 38) := ⟨_, rfl⟩
  have bP : Bk W w.heap.size #[.slice (some ⟨p, o, none⟩) zs.length c, .slice (some ⟨p', o', none⟩) ys.length d] 26 := by rw [hW]; exact (Bk.new' rfl).alloc _
  have bR : Bk W (w.heap.size + 1) #[.int .i64 0, .int .i64 0] 38 := by rw [hW]; exact Bk.new' (by simp)
  have HB : Hid (Below w.heap.size w W) := Lib.hid (by rw [hW]; exact (by repeat (first | exact Below.refl _ _ | (refine Below.alloc ?_ (by simp <;> omega) _) | (refine Below.setCell ?_ (by simp <;> omega) _) | (refine Below.drew ?_) | (refine bel_drewN ?_ _))))
  rw [← hW]
  clear hW
  refine (skc_any _ _ _ _ _ zs ys _ _ (by omega) (by omega) (HP.out.on HB.out)).mono ?_
  rw [inB_hl, HV.out, HH.out, show cdT true true = 0 from rfl]
  rintro e w2 ⟨rfl, hb⟩
  replace bP := bP.on hb
  replace bR := bR.on hb
  replace HB := Lib.hid (bel_end HB.out hb)
  replace h1 := kc1 h1 HB.out
  replace h2 := kc1 h2 HB.out
  replace h3 := kc1 h3 HB.out
  replace h4 := kc1 h4 HB.out
  clear hb
  have c0 := bP.cell 0 rfl
  have c1 := bP.cell 1 rfl
  have r0 := bR.cell 0 rfl
  have r1 := bR.cell 1 rfl
  have rf0 := bR.frozen 0
  have rf1 := bR.frozen 1
  have i1 : (0 : Int) ≤ (k : Int) + 1 := by omega
  have i2 : ((k : Int) + 1).toNat = k + 1 := by omega
  have i3 : (k : Int) + 1 < (zs.length : Int) := by omega
  have i4 : (k : Int) + 1 < (ys.length : Int) := by omega
  have i5 : (k : Int) < (zs.length : Int) := by omega
  have i6 : (k : Int) < (ys.length : Int) := by omega
  have ew : IntKind.wrap .i64 ((k : Int) + 1) = (k : Int) + 1 := IntWalk.i64_in _ (by omega)
  have n1 : ¬ p' = w.heap.size + 1 := by omega
  have n2 : ¬ p = w.heap.size + 1 := by omega
  have LM : Hid (∀ W, Calls Try.prog 57 #[.int .i64 (IntKind.wrap .i64 (v1 - v0)), .int .i64 (IntKind.wrap .i64 (d1 - d0))] W fun e w' => e = .returned (.tuple #[.agg #[.int .i64 (mkT (v1 - v0) (d1 - d0)).1, .int .i64 (mkT (v1 - v0) (d1 - d0)).2.1], .int .i64 (mkT (v1 - v0) (d1 - d0)).2.2]) ∧ Below W.heap.size W w') := Lib.hid (fun W => by
    rw [IntWalk.i64_in (v1 - v0) (by omega), IntWalk.i64_in (d1 - d0) (by omega)]
    exact lmk_any _ _ (by omega) (by omega) (by omega) (by omega) (by omega) W)
  obtain ⟨T, hT⟩ : ∃ T, mkT (v1 - v0) (d1 - d0) = T := ⟨_, rfl⟩
  rw [hT] at HT LM
  clear hT bP bR
  go_wp2_with fail
  go_region_held3 (fun w' => w'.cell? ⟨w.heap.size, 0, none⟩ = some (.slice (some ⟨p, o, none⟩) zs.length c) ∧ w'.cell? ⟨w.heap.size, 1, none⟩ = some (.slice (some ⟨p', o', none⟩) ys.length d) ∧ w'.cell? ⟨p, o + k, none⟩ = some (.int .i64 d0) ∧ w'.cell? ⟨p, o + (k + 1), none⟩ = some (.int .i64 d1) ∧ w'.cell? ⟨p', o' + k, none⟩ = some (.int .i64 v0) ∧ w'.cell? ⟨p', o' + (k + 1), none⟩ = some (.int .i64 v1))
    (first
      | (exact ⟨c0, c1, h1, h2, h3, h4⟩)
      | (go_split_ands; exact ⟨by assumption, by assumption, by assumption, by assumption, by assumption, by assumption⟩)
      | (exact ⟨kc1 (show w2.drew.cell? _ = _ from c0) hbL, kc1 (show w2.drew.cell? _ = _ from c1) hbL, kc1 (show w2.drew.cell? _ = _ from h1) hbL, kc1 (show w2.drew.cell? _ = _ from h2) hbL, kc1 (show w2.drew.cell? _ = _ from h3) hbL, kc1 (show w2.drew.cell? _ = _ from h4) hbL⟩)
      | (go_split_ands; refine ⟨?_, ?_, ?_, ?_, ?_, ?_⟩ <;> (simp [go_sem, *]; done)))
    (first
      | (go_at_call 57; (with_reducible refine Calls.mono (LM.out _) ?_); rintro e wL ⟨rfl, hbL⟩; have q0 := kc1 (show w2.drew.cell? _ = _ from r0) hbL; have q1 := kc1 (show w2.drew.cell? _ = _ from r1) hbL; have qf0 := kcf (show w2.drew.frozen? _ = _ from rf0) (show w2.drew.cell? _ = _ from r0) hbL; have qf1 := kcf (show w2.drew.frozen? _ = _ from rf1) (show w2.drew.cell? _ = _ from r1) hbL)
      | (go_at_call 57; trace_state; fail))
  go_wp2
  exact bodyPost_ret (v := .tuple #[.agg #[.int .i64 T.1, .int .i64 T.2.1], .int .i64 T.2.2]) (by simp [results, Try.results23, go_sem, q0, q1]) rfl ⟨resT_of HT.out, ((bel_end HB.out (bel_end (Below.refl _ _).drew hbL)).setCell (by simp) _).setCell (by simp) _⟩

theorem igrd_any (w : World) (a b : Option Addr) (c d : Nat) (zs ys : List Int) (x : Int) (hp : Prof w w.heap.size a b zs ys) :
    Calls Try.prog 22 #[.agg #[.slice a zs.length c, .slice b ys.length d], .int .i64 x] w fun e w' => e = .returned (.tuple #[.agg #[.int .i64 (grT zs ys x).1, .int .i64 (grT zs ys x).2.1], .int .i64 (grT zs ys x).2.2]) ∧ Below w.heap.size w w' := by
  cases hv : prfB zs ys
  · exact igrd_no w a b c d zs ys x 1 hp (by rw [hv]; rfl) (by omega) (grT_f hv)
  · cases hh : hlB zs x
    · exact igrd_no w a b c d zs ys x 2 hp (by rw [hv, hh]; rfl) (by omega) (grT_g hv hh)
    · exact igrd_ok w a b c d zs ys x hp hv hh

theorem sgrd_any (w : World) (a b : Option Addr) (c d : Nat) (zs ys : List Int) (x : Int) (hp : Prof w w.heap.size a b zs ys) :
    Calls Try.prog 23 #[.agg #[.slice a zs.length c, .slice b ys.length d], .int .i64 x] w fun e w' => e = .returned (.tuple #[.agg #[.int .i64 (grT zs ys x).1, .int .i64 (grT zs ys x).2.1], .int .i64 (grT zs ys x).2.2]) ∧ Below w.heap.size w w' := by
  cases hv : prfB zs ys
  · exact sgrd_no w a b c d zs ys x 1 hp (by rw [hv]; rfl) (by omega) (grT_f hv)
  · cases hh : hlB zs x
    · exact sgrd_no w a b c d zs ys x 2 hp (by rw [hv, hh]; rfl) (by omega) (grT_g hv hh)
    · exact sgrd_ok w a b c d zs ys x hp hv hh
end Go.Proofs.Ytkiadgmolkpgfaa
