/- Contracts of the program's ray: its scale, its cosines, whether it crosses a knot, its sines, its errors. Contracts of the program's ray: its sines, its errors. -/
import Derived.Test.YtkjpjhklnaehbabDir
import Derived.Test.YtkjpjhklnaehbabLys
import Derived.Test.YtkjpjhklnaehbabRoot
import Derived.Deep.RegionHeld3
import Derived.Deep.DeepCutAuto
import Derived.Deep.RegionWith
import Derived.Test.YtkjpjhklnaehbabDirI
namespace Go.Proofs.Ytkjpjhklnaehbab
open Go.ChangeShapes Go.WideShapes Go.ChangeAt Go.RowKit Go.Shelf Num
set_option linter.unusedVariables false

/-- six cells of a block and what lies below a world -/
def At6 (W w2 : World) (m : Nat) (v0 v1 v2 v3 v4 v5 : Value) : Prop :=
  w2.cell? ⟨m, 0, none⟩ = some v0 ∧ w2.cell? ⟨m, 1, none⟩ = some v1 ∧ w2.cell? ⟨m, 2, none⟩ = some v2 ∧ w2.cell? ⟨m, 3, none⟩ = some v3 ∧ w2.cell? ⟨m, 4, none⟩ = some v4 ∧ w2.cell? ⟨m, 5, none⟩ = some v5 ∧ Below W.heap.size W w2
theorem at6 {W w2 : World} {m : Nat} {v0 v1 v2 v3 v4 v5 : Value} {t : TypeId} (h : Bk W m #[v0, v1, v2, v3, v4, v5] t) (hb : Below W.heap.size W w2) :
    w2.cell? ⟨m, 0, none⟩ = some v0 ∧ w2.cell? ⟨m, 1, none⟩ = some v1 ∧ w2.cell? ⟨m, 2, none⟩ = some v2 ∧ w2.cell? ⟨m, 3, none⟩ = some v3 ∧ w2.cell? ⟨m, 4, none⟩ = some v4 ∧ w2.cell? ⟨m, 5, none⟩ = some v5 ∧ Below W.heap.size W w2 :=
  ⟨(h.on hb).cell 0 rfl, (h.on hb).cell 1 rfl, (h.on hb).cell 2 rfl, (h.on hb).cell 3 rfl, (h.on hb).cell 4 rfl, (h.on hb).cell 5 rfl, hb⟩
/-- the code of a profile, a direction, a source and a knot -/
def rcT (p d i k : Bool) : Int := if p && d then (if i && k then 0 else 2) else 1
theorem rcT_0 {p d i k : Bool} (e : rcT p d i k = 0) : p = true ∧ d = true ∧ i = true ∧ k = true := by cases p <;> cases d <;> cases i <;> cases k <;> simp_all [rcT]
theorem rcT_n {p d i k : Bool} (e : ¬ rcT p d i k = 0) : ¬ (p = true ∧ d = true ∧ i = true ∧ k = true) := by rintro ⟨rfl, rfl, rfl, rfl⟩; exact e rfl
theorem fld_speed (w : World) (z u : Int) : (Instr.field 81 (.agg #[.int .i64 z, .int .i64 u]) 1).run Try.prog w = .ok (.int .i64 u) w := by
  have ht : Try.prog.underlying 81 = some (.struct (Try.prog.fieldsOf 81)) := by kernel_rfl
  simp [Instr.field, asAgg, go_sem]
theorem mul_in {a b A B : Int} (h1 : 0 ≤ a) (h2 : a ≤ A) (h3 : 0 ≤ b) (h4 : b ≤ B) : 0 ≤ a * b ∧ a * b ≤ A * B :=
  ⟨Int.mul_nonneg h1 h3, Int.mul_le_mul h2 h4 h3 (by omega)⟩

set_option maxRecDepth 100000 in
set_option maxHeartbeats 1000000 in
theorem rsc_any (w : World) (a b : Option Addr) (ca cb : Nat) (zs ys : List Int) (src : Int) (i : Nat) (c s h : Int) (hp : Prof w w.heap.size a b zs ys) (ho : Okp zs ys) (hi : i < zs.length) (hs : src = (i : Int)) (h1 : 1 ≤ h) (h2 : h ≤ 1000) :
    Calls Try.prog 29 #[.agg #[.slice a zs.length ca, .slice b ys.length cb, .int .i64 src, .int .i64 c, .int .i64 s, .int .i64 h]] w fun e w' => e = .returned (.int .i64 (h * ys.getD i 0)) ∧ Below w.heap.size w w' := by
  subst hs
  have HP := Lib.hid hp
  have s1 := ho.sge i
  have s2 := ho.shi i
  have K : Hid (∀ W : World, Below w.heap.size w W → Calls Try.prog 55 #[.agg #[.slice a zs.length ca, .slice b ys.length cb], .int .i64 (i : Int)] W fun e w' => e = .returned (.agg #[.int .i64 (zs.getD i 0), .int .i64 (ys.getD i 0)]) ∧ Below W.heap.size W w') := Lib.hid (fun W hb => kat_any W a b ca cb zs ys i (HP.out.on hb) ho.len hi)
  obtain ⟨u, hu⟩ : ∃ u, ys.getD i 0 = u := ⟨_, rfl⟩
  obtain ⟨z, hz⟩ : ∃ z, zs.getD i 0 = z := ⟨_, rfl⟩
  rw [hu] at s1 s2 K ⊢
  rw [hz] at K
  have e1 : IntKind.wrap .i64 (h * u) = h * u := wr_mul (A := 1000) (B := 1700000) (by omega) (by omega) (by omega) (by omega) (by omega) (by omega)
  clear ho hi hp hu hz
  go_enter Try.func29, Try.ntmps29
  go_wp2_with fail
  generalize hW : World.alloc _ _ = W
  have bX : Bk W (w.heap.size) #[.slice a zs.length ca, .slice b ys.length cb, .int .i64 (i : Int), .int .i64 c, .int .i64 s, .int .i64 h] 60 := by rw [← hW]; repeat (first | exact Bk.new' (by simp) | refine Bk.alloc ?_ _)
  have HB : Hid (Below w.heap.size w W) := Lib.hid (by rw [← hW]; exact (by repeat (first | exact Below.refl _ _ | (refine Below.alloc ?_ (by simp <;> omega) _) | (refine Below.setCell ?_ (by simp <;> omega) _) | (refine Below.drew ?_) | (refine bel_drewN ?_ _))))
  clear hW
  have x0 := bX.cell 0 rfl
  have x1 := bX.cell 1 rfl
  have x2 := bX.cell 2 rfl
  have x3 := bX.cell 3 rfl
  have x4 := bX.cell 4 rfl
  have x5 := bX.cell 5 rfl
  have hfl := fun (w : World) => fld_speed w z u
  go_region_with (go_at_call 55; (with_reducible refine Calls.mono (K.out _ (bel_end HB.out ?hq)) ?_); (case hq => exact (Below.refl _ _).drew); rintro e w1 ⟨rfl, hb⟩; have d0 := kc1 (show W.drew.cell? _ = _ from x0) hb; have d1 := kc1 (show W.drew.cell? _ = _ from x1) hb; have d2 := kc1 (show W.drew.cell? _ = _ from x2) hb; have d3 := kc1 (show W.drew.cell? _ = _ from x3) hb; have d4 := kc1 (show W.drew.cell? _ = _ from x4) hb; have d5 := kc1 (show W.drew.cell? _ = _ from x5) hb)
  all_goals
    go_wp2
    go_ret
    exact ⟨rfl, bel_end HB.out (bel_end (Below.refl _ _).drew hb)⟩

set_option maxRecDepth 100000 in
set_option maxHeartbeats 1000000 in
theorem rco_any (w : World) (a b : Option Addr) (ca cb : Nat) (zs ys : List Int) (src : Int) (i : Nat) (c s h : Int) (hp : Prof w w.heap.size a b zs ys) (ho : Okp zs ys) (hi : i < zs.length) (h1 : 1 ≤ c) (h2 : c ≤ 1000) :
    Calls Try.prog 58 #[.agg #[.slice a zs.length ca, .slice b ys.length cb, .int .i64 src, .int .i64 c, .int .i64 s, .int .i64 h], .int .i64 (i : Int)] w fun e w' => e = .returned (.int .i64 (c * ys.getD i 0)) ∧ Below w.heap.size w w' := by
  skip
  have HP := Lib.hid hp
  have s1 := ho.sge i
  have s2 := ho.shi i
  have K : Hid (∀ W : World, Below w.heap.size w W → Calls Try.prog 55 #[.agg #[.slice a zs.length ca, .slice b ys.length cb], .int .i64 (i : Int)] W fun e w' => e = .returned (.agg #[.int .i64 (zs.getD i 0), .int .i64 (ys.getD i 0)]) ∧ Below W.heap.size W w') := Lib.hid (fun W hb => kat_any W a b ca cb zs ys i (HP.out.on hb) ho.len hi)
  obtain ⟨u, hu⟩ : ∃ u, ys.getD i 0 = u := ⟨_, rfl⟩
  obtain ⟨z, hz⟩ : ∃ z, zs.getD i 0 = z := ⟨_, rfl⟩
  rw [hu] at s1 s2 K ⊢
  rw [hz] at K
  have e1 : IntKind.wrap .i64 (c * u) = c * u := wr_mul (A := 1000) (B := 1700000) (by omega) (by omega) (by omega) (by omega) (by omega) (by omega)
  clear ho hi hp hu hz
  go_enter Try.func58, Try.ntmps58
  go_wp2_with fail
  generalize hW : World.alloc _ _ = W
  have bX : Bk W (w.heap.size) #[.slice a zs.length ca, .slice b ys.length cb, .int .i64 src, .int .i64 c, .int .i64 s, .int .i64 h] 60 := by rw [← hW]; repeat (first | exact Bk.new' (by simp) | refine Bk.alloc ?_ _)
  have HB : Hid (Below w.heap.size w W) := Lib.hid (by rw [← hW]; exact (by repeat (first | exact Below.refl _ _ | (refine Below.alloc ?_ (by simp <;> omega) _) | (refine Below.setCell ?_ (by simp <;> omega) _) | (refine Below.drew ?_) | (refine bel_drewN ?_ _))))
  clear hW
  have x0 := bX.cell 0 rfl
  have x1 := bX.cell 1 rfl
  have x2 := bX.cell 2 rfl
  have x3 := bX.cell 3 rfl
  have x4 := bX.cell 4 rfl
  have x5 := bX.cell 5 rfl
  have hfl := fun (w : World) => fld_speed w z u
  go_region_with (go_at_call 55; (with_reducible refine Calls.mono (K.out _ (bel_end HB.out ?hq)) ?_); (case hq => exact (Below.refl _ _).drew); rintro e w1 ⟨rfl, hb⟩; have d0 := kc1 (show W.drew.cell? _ = _ from x0) hb; have d1 := kc1 (show W.drew.cell? _ = _ from x1) hb; have d2 := kc1 (show W.drew.cell? _ = _ from x2) hb; have d3 := kc1 (show W.drew.cell? _ = _ from x3) hb; have d4 := kc1 (show W.drew.cell? _ = _ from x4) hb; have d5 := kc1 (show W.drew.cell? _ = _ from x5) hb)
  all_goals
    go_wp2
    go_ret
    exact ⟨rfl, bel_end HB.out (bel_end (Below.refl _ _).drew hb)⟩

set_option maxRecDepth 100000 in
set_option maxHeartbeats 2000000 in
theorem rcc_any (w : World) (a b : Option Addr) (ca cb : Nat) (zs ys : List Int) (i k : Nat) (c s h : Int) (hp : Prof w w.heap.size a b zs ys) (ho : Okp zs ys) (hi : i < zs.length) (hk : k < zs.length) (od : DirOk c s h) :
    Calls Try.prog 34 #[.agg #[.slice a zs.length ca, .slice b ys.length cb, .int .i64 (i : Int), .int .i64 c, .int .i64 s, .int .i64 h], .int .i64 (k : Int)] w fun e w' => e = .returned (.bool (decide ((c * ys.getD k 0) < (h * ys.getD i 0)))) ∧ Below w.heap.size w w' := by
  have HP := Lib.hid hp
  have c1 := od.c1
  have c2 := od.c2
  have h1 := od.h1
  have h2 := od.h2
  have q1 := mul_in (a := h) (b := ys.getD i 0) (A := 1000) (B := 1700000) (by omega) (by omega) (ho.sge i) (ho.shi i)
  have q2 := mul_in (a := c) (b := ys.getD k 0) (A := 1000) (B := 1700000) (by omega) (by omega) (ho.sge k) (ho.shi k)
  have K1 : Hid (∀ W : World, Below w.heap.size w W → Calls Try.prog 58 #[.agg #[.slice a zs.length ca, .slice b ys.length cb, .int .i64 (i : Int), .int .i64 c, .int .i64 s, .int .i64 h], .int .i64 (k : Int)] W fun e w' => e = .returned (.int .i64 (c * ys.getD k 0)) ∧ Below W.heap.size W w') := Lib.hid (fun W hb => rco_any W a b ca cb zs ys i k c s h (HP.out.on hb) ho hk c1 (by omega))
  have K2 : Hid (∀ W : World, Below w.heap.size w W → Calls Try.prog 29 #[.agg #[.slice a zs.length ca, .slice b ys.length cb, .int .i64 (i : Int), .int .i64 c, .int .i64 s, .int .i64 h]] W fun e w' => e = .returned (.int .i64 (h * ys.getD i 0)) ∧ Below W.heap.size W w') := Lib.hid (fun W hb => rsc_any W a b ca cb zs ys i i c s h (HP.out.on hb) ho hi rfl h1 h2)
  obtain ⟨A, hA⟩ : ∃ u, h * ys.getD i 0 = u := ⟨_, rfl⟩
  obtain ⟨B, hB⟩ : ∃ u, c * ys.getD k 0 = u := ⟨_, rfl⟩
  rw [hA] at q1 K2
  rw [hB] at q2 K1
  rw [hA, hB]
  clear od ho hi hk hA hB c1 c2 h1 h2 hp
  cases hd : decide (B < A)
  all_goals
    have hd2 := Lib.hid hd
    go_enter Try.func34, Try.ntmps34
    go_wp2_with fail
    generalize hW : World.alloc _ _ = W
    have bX : Bk W (w.heap.size) #[.slice a zs.length ca, .slice b ys.length cb, .int .i64 (i : Int), .int .i64 c, .int .i64 s, .int .i64 h] 60 := by rw [← hW]; repeat (first | exact Bk.new' (by simp) | refine Bk.alloc ?_ _)
    have HB : Hid (Below w.heap.size w W) := Lib.hid (by rw [← hW]; exact (by repeat (first | exact Below.refl _ _ | (refine Below.alloc ?_ (by simp <;> omega) _) | (refine Below.setCell ?_ (by simp <;> omega) _) | (refine Below.drew ?_) | (refine bel_drewN ?_ _))))
    clear hW
    go_region_held3 (fun w' => w'.cell? ⟨w.heap.size, 0, none⟩ = some (.slice a zs.length ca) ∧ w'.cell? ⟨w.heap.size, 1, none⟩ = some (.slice b ys.length cb) ∧ w'.cell? ⟨w.heap.size, 2, none⟩ = some (.int .i64 (i : Int)) ∧ w'.cell? ⟨w.heap.size, 3, none⟩ = some (.int .i64 c) ∧ w'.cell? ⟨w.heap.size, 4, none⟩ = some (.int .i64 s) ∧ w'.cell? ⟨w.heap.size, 5, none⟩ = some (.int .i64 h) ∧ Below W.heap.size W w')
      (first
        | (exact at6 bX (Below.refl _ W).drew)
        | (go_split_ands; (with_reducible exact at6 bX hkB)))
      (first
        | (go_at_call 58; (with_reducible refine Calls.mono (K1.out _ (bel_end HB.out ?hq)) ?_); (case hq => (go_split_ands; assumption)); rintro e wA ⟨rfl, hbA⟩; have hkB := bel_in hbA (by go_split_ands; assumption) (Nat.le_refl _))
        | (go_at_call 29; (with_reducible refine Calls.mono (K2.out _ (bel_end HB.out ?hq)) ?_); (case hq => (go_split_ands; assumption)); rintro e wB ⟨rfl, hbB⟩; have hkB := bel_in hbB (by go_split_ands; assumption) (Nat.le_refl _)))
    all_goals
      go_wp2
      go_ret
      exact ⟨rfl, bel_end HB.out hkB⟩
end Go.Proofs.Ytkjpjhklnaehbab
namespace Go.Proofs.Ytkjpjhklnaehbab
open Go.ChangeShapes Go.WideShapes Go.ChangeAt Go.RowKit Go.Shelf Num
set_option linter.unusedVariables false

set_option maxRecDepth 100000 in
set_option maxHeartbeats 2000000 in
theorem rer_any (w : World) (a b : Option Addr) (ca cb : Nat) (zs ys : List Int) (src k c s h : Int) (hp : Prof w w.heap.size a b zs ys) :
    Calls Try.prog 27 #[.agg #[.slice a zs.length ca, .slice b ys.length cb, .int .i64 src, .int .i64 c, .int .i64 s, .int .i64 h], .int .i64 k] w fun e w' => e = .returned (.int .i64 (rcT (prfB zs ys) (dirB c s h) (hkB zs src) (hkB zs k))) ∧ Below w.heap.size w w' := by
  have HP := Lib.hid hp
  clear hp
  cases hd : dirB c s h
  · have HD := Lib.hid hd
    have HT : Hid (rcT (prfB zs ys) false (hkB zs src) (hkB zs k) = 1) := Lib.hid (by unfold rcT; rw [Bool.and_false]; rfl)
    clear hd
    go_enter Try.func27, Try.ntmps27
    go_wp2_with fail
    generalize hW : World.alloc _ _ = W
    have bX : Bk W (w.heap.size) #[.slice a zs.length ca, .slice b ys.length cb, .int .i64 src, .int .i64 c, .int .i64 s, .int .i64 h] 60 := by rw [← hW]; repeat (first | exact Bk.new' (by simp) | refine Bk.alloc ?_ _)
    have HB : Hid (Below w.heap.size w W) := Lib.hid (by rw [← hW]; exact (by repeat (first | exact Below.refl _ _ | (refine Below.alloc ?_ (by simp <;> omega) _) | (refine Below.setCell ?_ (by simp <;> omega) _) | (refine Below.drew ?_) | (refine bel_drewN ?_ _))))
    clear hW
    refine (idr_any _ _ _ _).mono ?_
    rw [HD.out]
    rintro e w1 ⟨rfl, hb⟩
    replace bX := bX.on hb
    replace HB := Lib.hid (bel_end HB.out hb)
    clear hb
    have x0 := bX.cell 0 rfl
    have x1 := bX.cell 1 rfl
    have x2 := bX.cell 2 rfl
    have xl := bX.lt
    go_wp2
    go_ret
    exact ⟨ret_int HT.out.symm, HB.out⟩
  have HD := Lib.hid hd
  clear hd
  obtain ⟨q1, h1⟩ : ∃ q, cdT (prfB zs ys) (hkB zs src) = q := ⟨_, rfl⟩
  obtain ⟨q2, h2⟩ : ∃ q, cdT (prfB zs ys) (hkB zs k) = q := ⟨_, rfl⟩
  have K1 : Hid (∀ W : World, Below w.heap.size w W → Calls Try.prog 52 #[.agg #[.slice a zs.length ca, .slice b ys.length cb], .func (.func 53) #[.agg #[.slice a zs.length ca, .slice b ys.length cb]] #[], .int .i64 src] W fun e w' => e = .returned (.int .i64 q1) ∧ Below W.heap.size W w') := Lib.hid (fun W hb => by have := eok_any W a b ca cb zs ys src (HP.out.on hb); rwa [h1] at this)
  have K2 : Hid (∀ W : World, Below w.heap.size w W → Calls Try.prog 52 #[.agg #[.slice a zs.length ca, .slice b ys.length cb], .func (.func 53) #[.agg #[.slice a zs.length ca, .slice b ys.length cb]] #[], .int .i64 k] W fun e w' => e = .returned (.int .i64 q2) ∧ Below W.heap.size W w') := Lib.hid (fun W hb => by have := eok_any W a b ca cb zs ys k (HP.out.on hb); rwa [h2] at this)
  have HT : Hid (rcT (prfB zs ys) true (hkB zs src) (hkB zs k) = if q1 = 0 then q2 else q1) := Lib.hid (by subst h1 h2; cases prfB zs ys <;> cases hkB zs src <;> cases hkB zs k <;> rfl)
  clear h1 h2
  by_cases hq : q1 = 0
  all_goals
    go_enter Try.func27, Try.ntmps27
    go_wp2_with fail
    generalize hW : World.alloc _ _ = W
    have bX : Bk W (w.heap.size) #[.slice a zs.length ca, .slice b ys.length cb, .int .i64 src, .int .i64 c, .int .i64 s, .int .i64 h] 60 := by rw [← hW]; repeat (first | exact Bk.new' (by simp) | refine Bk.alloc ?_ _)
    have HB : Hid (Below w.heap.size w W) := Lib.hid (by rw [← hW]; exact (by repeat (first | exact Below.refl _ _ | (refine Below.alloc ?_ (by simp <;> omega) _) | (refine Below.setCell ?_ (by simp <;> omega) _) | (refine Below.drew ?_) | (refine bel_drewN ?_ _))))
    clear hW
    refine (idr_any _ _ _ _).mono ?_
    rw [HD.out]
    rintro e w1 ⟨rfl, hb⟩
    replace bX := bX.on hb
    replace HB := Lib.hid (bel_end HB.out hb)
    clear hb
    have x0 := bX.cell 0 rfl
    have x1 := bX.cell 1 rfl
    have x2 := bX.cell 2 rfl
    have xl := bX.lt
    go_wp2_with fail
    generalize hW : World.alloc _ _ = W2
    have hb : Below w1.heap.size w1 W2 := by rw [← hW]; exact (by repeat (first | exact Below.refl _ _ | (refine Below.alloc ?_ (by simp <;> omega) _) | (refine Below.setCell ?_ (by simp <;> omega) _) | (refine Below.drew ?_) | (refine bel_drewN ?_ _)))
    have bP : Bk W2 w1.heap.size #[.slice a zs.length ca, .slice b ys.length cb] 32 := by rw [← hW]; exact Bk.new' rfl
    replace bX := bX.on hb
    replace HB := Lib.hid (bel_end HB.out hb)
    clear hW hb x0 x1 x2 xl
    (with_reducible refine Calls.mono (K1.out _ HB.out) ?_)
    rintro e w3 ⟨rfl, hb⟩
    replace bX := bX.on hb
    replace bP := bP.on hb
    replace HB := Lib.hid (bel_end HB.out hb)
    clear hb
    have p0 := bP.cell 0 rfl
    have p1 := bP.cell 1 rfl
    have pl := bP.lt
  · subst hq
    go_wp2_with fail
    (with_reducible refine Calls.mono (K2.out _ HB.out) ?_)
    rintro e w4 ⟨rfl, hb⟩
    go_wp2
    go_ret
    exact ⟨ret_int (by rw [HT.out]; simp), bel_end HB.out hb⟩
  · have hq0 : (q1 != 0) = true := by simpa using hq
    go_wp2
    go_ret
    exact ⟨ret_int (HT.out.trans (if_neg hq)).symm, HB.out⟩
end Go.Proofs.Ytkjpjhklnaehbab
