import Derived.Test.YtgecbfbmmbfnmaaGreatArcR
import Derived.Test.YtgecbfbmmbfnmaaGreatRayS
import Derived.Test.YtgecbfbmmbfnmaaGreatCorn
import Derived.Deep.RegionHeld3
import Derived.Deep.DeepCutAuto
import Derived.Deep.RegionWith
import Derived.Test.YtgecbfbmmbfnmaaGreatBas
namespace Go.Proofs.YtgecbfbmmbfnmaaGreat
section
/- Contracts of the program's arcs: the verdict, the rise, the way, the depth of turning, the radius. -/
open Go.ChangeShapes Go.WideShapes Go.ChangeAt Go.RowKit Go.Shelf Num
set_option linter.unusedVariables false
/-- eight cells of a block and what lies below a world -/
theorem at8 {W w2 : World} {m : Nat} {v0 v1 v2 v3 v4 v5 v6 v7 : Value} {t : TypeId} (h : Bk W m #[v0, v1, v2, v3, v4, v5, v6, v7] t) (hb : Below W.heap.size W w2) :
    w2.cell? ⟨m, 0, none⟩ = some v0 ∧ w2.cell? ⟨m, 1, none⟩ = some v1 ∧ w2.cell? ⟨m, 2, none⟩ = some v2 ∧ w2.cell? ⟨m, 3, none⟩ = some v3 ∧ w2.cell? ⟨m, 4, none⟩ = some v4 ∧ w2.cell? ⟨m, 5, none⟩ = some v5 ∧ w2.cell? ⟨m, 6, none⟩ = some v6 ∧ w2.cell? ⟨m, 7, none⟩ = some v7 ∧ Below W.heap.size W w2 :=
  ⟨(h.on hb).cell 0 rfl, (h.on hb).cell 1 rfl, (h.on hb).cell 2 rfl, (h.on hb).cell 3 rfl, (h.on hb).cell 4 rfl, (h.on hb).cell 5 rfl, (h.on hb).cell 6 rfl, (h.on hb).cell 7 rfl, hb⟩
theorem at4w {W w2 : World} {m n : Nat} {v0 v1 v2 v3 v4 v5 v6 v7 u0 u1 : Value} {t t' : TypeId} (h : Bk W m #[v0, v1, v2, v3, v4, v5, v6, v7] t) (g : Bk W n #[u0, u1] t') (hb : Below W.heap.size W w2) :
    w2.cell? ⟨m, 6, none⟩ = some v6 ∧ w2.cell? ⟨m, 7, none⟩ = some v7 ∧ w2.cell? ⟨n, 0, none⟩ = some u0 ∧ w2.cell? ⟨n, 1, none⟩ = some u1 ∧ Below W.heap.size W w2 :=
  ⟨(h.on hb).cell 6 rfl, (h.on hb).cell 7 rfl, (g.on hb).cell 0 rfl, (g.on hb).cell 1 rfl, hb⟩
theorem fld_depth (w : World) (z u : Int) : (Instr.field 146 (.agg #[.int .i64 z, .int .i64 u]) 0).run Tryz.prog w = .ok (.int .i64 z) w := by
  have ht : Tryz.prog.underlying 146 = some (.struct (Tryz.prog.fieldsOf 146)) := by kernel_rfl
  simp [Instr.field, asAgg, go_sem]
theorem exa_any (x : Int) (w : World) :
    Calls Tryz.prog 40 #[.int .i64 x] w fun e w' => e = .returned (.agg #[.int .i64 x, .int .i64 x]) ∧ Below w.heap.size w w' := by
  go_enter Tryz.func40, Tryz.ntmps40
  go_wp2
  exact bodyPost_ret (v := .agg #[.int .i64 x, .int .i64 x]) (by simp [results, Tryz.results40, go_sem]) rfl ⟨rfl, (by repeat (first | exact Below.refl _ _ | (refine Below.alloc ?_ (by simp <;> omega) _) | (refine Below.setCell ?_ (by simp <;> omega) _) | (refine Below.drew ?_) | (refine bel_drewN ?_ _)))⟩
theorem vldB_le {a b : Int} (h : a ≤ b) : vldB a b = (valB a && valB b) := by unfold vldB; rw [decide_eq_true h, Bool.and_true]
set_option maxHeartbeats 1000000 in
theorem wlm_any (a b : Int) (h : a ≤ b) (w : World) :
    Calls Tryz.prog 55 #[.agg #[.int .i64 a, .int .i64 b]] w fun e w' => e = .returned (.tuple #[.agg #[.int .i64 (lim a b).1, .int .i64 (lim a b).2.1], .int .i64 (lim a b).2.2]) ∧ Below w.heap.size w w' := by
  have hv := vldB_le h
  cases hc : vldB a b
  · have HT : Hid (lim a b = (0, 0, 3)) := Lib.hid (by unfold lim; rw [← hv, hc]; rfl)
    have HC := Lib.hid hc
    clear hv hc h
    go_enter Tryz.func55, Tryz.ntmps55
    go_wp2_with (go_at_call 71; refine (vld_any _ _ _).mono ?_; rw [HC.out]; rintro e w' ⟨rfl, rfl⟩)
    exact bodyPost_ret (v := .tuple #[.agg #[.int .i64 0, .int .i64 0], .int .i64 3]) (by simp [results, Tryz.results55, go_sem]) rfl ⟨resT_of HT.out, (by repeat (first | exact Below.refl _ _ | (refine Below.alloc ?_ (by simp <;> omega) _) | (refine Below.setCell ?_ (by simp <;> omega) _) | (refine Below.drew ?_) | (refine bel_drewN ?_ _)))⟩
  · have HT : Hid (lim a b = (a, b, 0)) := Lib.hid (by unfold lim; rw [← hv, hc]; rfl)
    have HC := Lib.hid hc
    clear hv hc h
    go_enter Tryz.func55, Tryz.ntmps55
    go_wp2_with (go_at_call 71; refine (vld_any _ _ _).mono ?_; rw [HC.out]; rintro e w' ⟨rfl, rfl⟩)
    exact bodyPost_ret (v := .tuple #[.agg #[.int .i64 a, .int .i64 b], .int .i64 0]) (by simp [results, Tryz.results55, go_sem]) rfl ⟨resT_of HT.out, (by repeat (first | exact Below.refl _ _ | (refine Below.alloc ?_ (by simp <;> omega) _) | (refine Below.setCell ?_ (by simp <;> omega) _) | (refine Below.drew ?_) | (refine bel_drewN ?_ _)))⟩

set_option maxRecDepth 100000 in
set_option maxHeartbeats 2000000 in
theorem avd_any (w : World) (a b : Option Addr) (ca cb : Nat) (zs ys : List Int) (i n f : Nat) (c s h : Int) (hp : Prof w w.heap.size a b zs ys) (r : RyOk zs ys i c s h) (hn : n < zs.length) (hf : f < zs.length) :
    Calls Tryz.prog 81 #[.agg #[.slice a zs.length ca, .slice b ys.length cb, .int .i64 (i : Int), .int .i64 c, .int .i64 s, .int .i64 h, .int .i64 (n : Int), .int .i64 (f : Int)]] w fun e w' => e = .returned (.int .i64 (vdV ys i c h n f)) ∧ Below w.heap.size w w' := by
  have HP := Lib.hid hp
  have Kn : Hid (∀ W : World, Below w.heap.size w W → Calls Tryz.prog 87 #[.agg #[.slice a zs.length ca, .slice b ys.length cb, .int .i64 (i : Int), .int .i64 c, .int .i64 s, .int .i64 h], .int .i64 (n : Int)] W fun e w' => e = .returned (.bool (crB ys (i : Int) c h (n : Int))) ∧ Below W.heap.size W w') := Lib.hid (fun W hb => rcc_any W a b ca cb zs ys i n c s h (HP.out.on hb) r.ok r.hi hn r.od)
  have Kf : Hid (∀ W : World, Below w.heap.size w W → Calls Tryz.prog 87 #[.agg #[.slice a zs.length ca, .slice b ys.length cb, .int .i64 (i : Int), .int .i64 c, .int .i64 s, .int .i64 h], .int .i64 (f : Int)] W fun e w' => e = .returned (.bool (crB ys (i : Int) c h (f : Int))) ∧ Below W.heap.size W w') := Lib.hid (fun W hb => rcc_any W a b ca cb zs ys i f c s h (HP.out.on hb) r.ok r.hi hf r.od)
  obtain ⟨B, hB⟩ : ∃ x, crB ys (i : Int) c h (n : Int) = x := ⟨_, rfl⟩
  obtain ⟨D, hD⟩ : ∃ x, crB ys (i : Int) c h (f : Int) = x := ⟨_, rfl⟩
  have HT : Hid (vdV ys i c h n f = if B then (if D then 1 else 2) else 0) := Lib.hid (by unfold vdV; rw [hB, hD])
  rw [hB] at Kn
  rw [hD] at Kf
  clear hB hD hp r hn hf
  cases B
  case false =>
    go_enter Tryz.func81, Tryz.ntmps81
    go_wp2_with fail
    generalize hW : World.alloc _ _ = W
    have bX : Bk W (w.heap.size) #[.slice a zs.length ca, .slice b ys.length cb, .int .i64 (i : Int), .int .i64 c, .int .i64 s, .int .i64 h, .int .i64 (n : Int), .int .i64 (f : Int)] 115 := by rw [← hW]; repeat (first | exact Bk.new' (by simp) | refine Bk.alloc ?_ _)
    have HB : Hid (Below w.heap.size w W) := Lib.hid (by rw [← hW]; exact (by repeat (first | exact Below.refl _ _ | (refine Below.alloc ?_ (by simp <;> omega) _) | (refine Below.setCell ?_ (by simp <;> omega) _) | (refine Below.drew ?_) | (refine bel_drewN ?_ _))))
    clear hW
    have bX_0 := bX.cell 0 rfl
    have bX_1 := bX.cell 1 rfl
    have bX_2 := bX.cell 2 rfl
    have bX_3 := bX.cell 3 rfl
    have bX_4 := bX.cell 4 rfl
    have bX_5 := bX.cell 5 rfl
    have bX_6 := bX.cell 6 rfl
    have bX_7 := bX.cell 7 rfl
    have bX_l := bX.lt
    (with_reducible refine Calls.mono (Kn.out _ HB.out) ?_)
    rintro e w1 ⟨rfl, hb⟩
    go_wp2
    go_ret
    exact ⟨ret_int HT.out.symm, bel_end HB.out hb⟩
  case true =>
    go_enter Tryz.func81, Tryz.ntmps81
    go_wp2_with fail
    generalize hW : World.alloc _ _ = W
    have bX : Bk W (w.heap.size) #[.slice a zs.length ca, .slice b ys.length cb, .int .i64 (i : Int), .int .i64 c, .int .i64 s, .int .i64 h, .int .i64 (n : Int), .int .i64 (f : Int)] 115 := by rw [← hW]; repeat (first | exact Bk.new' (by simp) | refine Bk.alloc ?_ _)
    have HB : Hid (Below w.heap.size w W) := Lib.hid (by rw [← hW]; exact (by repeat (first | exact Below.refl _ _ | (refine Below.alloc ?_ (by simp <;> omega) _) | (refine Below.setCell ?_ (by simp <;> omega) _) | (refine Below.drew ?_) | (refine bel_drewN ?_ _))))
    clear hW
    (with_reducible refine Calls.mono (Kn.out _ HB.out) ?_)
    rintro e w1 ⟨rfl, hb⟩
    replace bX := bX.on hb
    replace HB := Lib.hid (bel_end HB.out hb)
    clear hb
    have bX_0 := bX.cell 0 rfl
    have bX_1 := bX.cell 1 rfl
    have bX_2 := bX.cell 2 rfl
    have bX_3 := bX.cell 3 rfl
    have bX_4 := bX.cell 4 rfl
    have bX_5 := bX.cell 5 rfl
    have bX_6 := bX.cell 6 rfl
    have bX_7 := bX.cell 7 rfl
    have bX_l := bX.lt
    go_wp2_with fail
    (with_reducible refine Calls.mono (Kf.out _ HB.out) ?_)
    rintro e w2 ⟨rfl, hb⟩
    cases D
    all_goals
      go_wp2
      go_ret
      exact ⟨ret_int HT.out.symm, bel_end HB.out hb⟩

set_option maxRecDepth 100000 in
set_option maxHeartbeats 2000000 in
theorem ari_any (w : World) (a b : Option Addr) (ca cb : Nat) (zs ys : List Int) (i n f : Nat) (c s h : Int) (hp : Prof w w.heap.size a b zs ys) (r : RyOk zs ys i c s h) (hn : n < zs.length) (hf : f < zs.length) :
    Calls Tryz.prog 109 #[.agg #[.slice a zs.length ca, .slice b ys.length cb, .int .i64 (i : Int), .int .i64 c, .int .i64 s, .int .i64 h, .int .i64 (n : Int), .int .i64 (f : Int)]] w fun e w' => e = .returned (.int .i64 (riS ys c n f)) ∧ Below w.heap.size w w' := by
  have HP := Lib.hid hp
  have Kn : Hid (∀ W : World, Below w.heap.size w W → Calls Tryz.prog 90 #[.agg #[.slice a zs.length ca, .slice b ys.length cb, .int .i64 (i : Int), .int .i64 c, .int .i64 s, .int .i64 h], .int .i64 (n : Int)] W fun e w' => e = .returned (.int .i64 (c * ys.getD n 0)) ∧ Below W.heap.size W w') := Lib.hid (fun W hb => rco_any W a b ca cb zs ys i n c s h (HP.out.on hb) r.ok hn r.od.c1 (by have := r.od.c2; have := r.od.h2; omega))
  have Kf : Hid (∀ W : World, Below w.heap.size w W → Calls Tryz.prog 90 #[.agg #[.slice a zs.length ca, .slice b ys.length cb, .int .i64 (i : Int), .int .i64 c, .int .i64 s, .int .i64 h], .int .i64 (f : Int)] W fun e w' => e = .returned (.int .i64 (c * ys.getD f 0)) ∧ Below W.heap.size W w') := Lib.hid (fun W hb => rco_any W a b ca cb zs ys i f c s h (HP.out.on hb) r.ok hf r.od.c1 (by have := r.od.c2; have := r.od.h2; omega))
  have q1 := r.B n
  have q2 := r.B f
  have HT : Hid (c * ys.getD f 0 - c * ys.getD n 0 = riS ys c n f) := Lib.hid (by unfold riS; rw [Int.mul_sub])
  obtain ⟨A, hA⟩ : ∃ u, c * ys.getD n 0 = u := ⟨_, rfl⟩
  obtain ⟨B, hB⟩ : ∃ u, c * ys.getD f 0 = u := ⟨_, rfl⟩
  rw [hA] at q1 Kn HT
  rw [hB] at q2 Kf HT
  have e1 : IntKind.wrap .i64 (B - A) = B - A := IntWalk.i64_in _ (by omega)
  clear hA hB q1 q2 hp r hn hf
  go_enter Tryz.func109, Tryz.ntmps109
  go_wp2_with fail
  generalize hW : World.alloc _ _ = W
  have bX : Bk W (w.heap.size) #[.slice a zs.length ca, .slice b ys.length cb, .int .i64 (i : Int), .int .i64 c, .int .i64 s, .int .i64 h, .int .i64 (n : Int), .int .i64 (f : Int)] 115 := by rw [← hW]; repeat (first | exact Bk.new' (by simp) | refine Bk.alloc ?_ _)
  have HB : Hid (Below w.heap.size w W) := Lib.hid (by rw [← hW]; exact (by repeat (first | exact Below.refl _ _ | (refine Below.alloc ?_ (by simp <;> omega) _) | (refine Below.setCell ?_ (by simp <;> omega) _) | (refine Below.drew ?_) | (refine bel_drewN ?_ _))))
  clear hW
  go_region_held3 (fun w' => w'.cell? ⟨w.heap.size, 0, none⟩ = some (.slice a zs.length ca) ∧ w'.cell? ⟨w.heap.size, 1, none⟩ = some (.slice b ys.length cb) ∧ w'.cell? ⟨w.heap.size, 2, none⟩ = some (.int .i64 (i : Int)) ∧ w'.cell? ⟨w.heap.size, 3, none⟩ = some (.int .i64 c) ∧ w'.cell? ⟨w.heap.size, 4, none⟩ = some (.int .i64 s) ∧ w'.cell? ⟨w.heap.size, 5, none⟩ = some (.int .i64 h) ∧ w'.cell? ⟨w.heap.size, 6, none⟩ = some (.int .i64 (n : Int)) ∧ w'.cell? ⟨w.heap.size, 7, none⟩ = some (.int .i64 (f : Int)) ∧ Below W.heap.size W w')
    (first
      | (exact at8 bX (Below.refl _ W).drew)
      | (go_split_ands; (with_reducible exact at8 bX hkB))
      | (go_split_ands; (with_reducible exact at8 bX (bel_al hkB (Nat.le_refl _)))))
    (first
      | (go_at_call 90; (with_reducible refine Calls.mono (Kn.out _ (bel_end HB.out ?hq)) ?_); (case hq => (go_split_ands; assumption)); rintro e wA ⟨rfl, hbwA⟩; have hkB := bel_in hbwA (by go_split_ands; assumption) (Nat.le_refl _))
      | (go_at_call 90; (with_reducible refine Calls.mono (Kf.out _ (bel_end HB.out ?hq)) ?_); (case hq => (go_split_ands; assumption)); rintro e wB ⟨rfl, hbwB⟩; have hkB := bel_in hbwB (by go_split_ands; assumption) (Nat.le_refl _)))
  all_goals
    go_wp2
    go_ret
    exact ⟨ret_int HT.out, bel_end HB.out hkB⟩

set_option maxRecDepth 100000 in
set_option maxHeartbeats 2000000 in
theorem awy_any (w : World) (a b : Option Addr) (ca cb : Nat) (zs ys : List Int) (i n f : Nat) (c s h : Int) (hp : Prof w w.heap.size a b zs ys) (r : RyOk zs ys i c s h) (hn : n < zs.length) (hf : f < zs.length) :
    Calls Tryz.prog 114 #[.agg #[.slice a zs.length ca, .slice b ys.length cb, .int .i64 (i : Int), .int .i64 c, .int .i64 s, .int .i64 h, .int .i64 (n : Int), .int .i64 (f : Int)]] w fun e w' => e = .returned (.int .i64 (zs.getD f 0 - zs.getD n 0)) ∧ Below w.heap.size w w' := by
  have HP := Lib.hid hp
  have Kn : Hid (∀ W : World, Below w.heap.size w W → Calls Tryz.prog 92 #[.agg #[.slice a zs.length ca, .slice b ys.length cb], .int .i64 (n : Int)] W fun e w' => e = .returned (.agg #[.int .i64 (zs.getD n 0), .int .i64 (ys.getD n 0)]) ∧ Below W.heap.size W w') := Lib.hid (fun W hb => kat_any W a b ca cb zs ys n (HP.out.on hb) r.ok.len hn)
  have Kf : Hid (∀ W : World, Below w.heap.size w W → Calls Tryz.prog 92 #[.agg #[.slice a zs.length ca, .slice b ys.length cb], .int .i64 (f : Int)] W fun e w' => e = .returned (.agg #[.int .i64 (zs.getD f 0), .int .i64 (ys.getD f 0)]) ∧ Below W.heap.size W w') := Lib.hid (fun W hb => kat_any W a b ca cb zs ys f (HP.out.on hb) r.ok.len hf)
  have q1 := r.ok.lo n
  have q2 := r.ok.hi n
  have q3 := r.ok.lo f
  have q4 := r.ok.hi f
  obtain ⟨x, hx⟩ : ∃ u, zs.getD n 0 = u := ⟨_, rfl⟩
  obtain ⟨y, hy⟩ : ∃ u, zs.getD f 0 = u := ⟨_, rfl⟩
  obtain ⟨u, hu⟩ : ∃ u, ys.getD n 0 = u := ⟨_, rfl⟩
  obtain ⟨v, hv⟩ : ∃ u, ys.getD f 0 = u := ⟨_, rfl⟩
  rw [hx] at q1 q2 Kn ⊢
  rw [hy] at q3 q4 Kf ⊢
  rw [hu] at Kn
  rw [hv] at Kf
  have e1 : IntKind.wrap .i64 (y - x) = y - x := IntWalk.i64_in _ (by omega)
  clear hx hy hu hv q1 q2 q3 q4 hp r hn hf
  go_enter Tryz.func114, Tryz.ntmps114
  go_wp2_with fail
  generalize hW : World.alloc _ _ = W
  have bX : Bk W (w.heap.size) #[.slice a zs.length ca, .slice b ys.length cb, .int .i64 (i : Int), .int .i64 c, .int .i64 s, .int .i64 h, .int .i64 (n : Int), .int .i64 (f : Int)] 115 := by rw [← hW]; repeat (first | exact Bk.new' (by simp) | refine Bk.alloc ?_ _)
  have bP : Bk W (w.heap.size + 1) #[.slice a zs.length ca, .slice b ys.length cb] 26 := by rw [← hW]; repeat (first | exact Bk.new' (by simp) | refine Bk.alloc ?_ _)
  have HB : Hid (Below w.heap.size w W) := Lib.hid (by rw [← hW]; exact (by repeat (first | exact Below.refl _ _ | (refine Below.alloc ?_ (by simp <;> omega) _) | (refine Below.setCell ?_ (by simp <;> omega) _) | (refine Below.drew ?_) | (refine bel_drewN ?_ _))))
  clear hW
  have f1 := fun (w : World) => fld_depth w x u
  have f2 := fun (w : World) => fld_depth w y v
  go_region_held3 (fun w' => w'.cell? ⟨w.heap.size, 6, none⟩ = some (.int .i64 (n : Int)) ∧ w'.cell? ⟨w.heap.size, 7, none⟩ = some (.int .i64 (f : Int)) ∧ w'.cell? ⟨w.heap.size + 1, 0, none⟩ = some (.slice a zs.length ca) ∧ w'.cell? ⟨w.heap.size + 1, 1, none⟩ = some (.slice b ys.length cb) ∧ Below W.heap.size W w')
    (first
      | (exact at4w bX bP (Below.refl _ W).drew)
      | (go_split_ands; (with_reducible exact at4w bX bP hkB)))
    (first
      | (go_at_call 92; (with_reducible refine Calls.mono (Kn.out _ (bel_end HB.out ?hq)) ?_); (case hq => (go_split_ands; assumption)); rintro e wA ⟨rfl, hbwA⟩; have hkB := bel_in hbwA (by go_split_ands; assumption) (Nat.le_refl _))
      | (go_at_call 92; (with_reducible refine Calls.mono (Kf.out _ (bel_end HB.out ?hq)) ?_); (case hq => (go_split_ands; assumption)); rintro e wB ⟨rfl, hbwB⟩; have hkB := bel_in hbwB (by go_split_ands; assumption) (Nat.le_refl _)))
  all_goals
    go_wp2
    go_ret
    exact ⟨rfl, bel_end HB.out hkB⟩
end
section
/- Contracts of the program's arcs: the depth of turning, the radius. -/
open Go.ChangeShapes Go.WideShapes Go.ChangeAt Go.RowKit Go.Shelf Num
set_option linter.unusedVariables false
end
end Go.Proofs.YtgecbfbmmbfnmaaGreat
