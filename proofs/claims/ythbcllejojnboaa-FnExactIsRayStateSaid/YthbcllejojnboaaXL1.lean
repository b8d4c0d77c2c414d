/- The walk of the exact law of IsRayState: it returns true and writes nothing that was there. -/
import Derived.Test.YthbcllejojnboaaXSt
import Derived.Test.YthbcllejojnboaaRyR
import Derived.Test.YthbcllejojnboaaRyV
import Derived.Deep.RegionHeld3
import Derived.Deep.DeepCutAuto
import Derived.Deep.DrawnRows
import Derived.Deep.RegionWith
import Derived.Outline
import Derived.Handy
namespace Go.Proofs.Ythbcllejojnboaa
open Go.ChangeShapes Go.WideShapes Go.ChangeAt Go.RowKit Go.Shelf Num
set_option linter.unusedVariables false
set_option linter.unusedSimpArgs false
attribute [local go_sem ↓] Go.wp_at_zero Go.wp_at_succ

set_option maxRecDepth 100000 in
set_option maxHeartbeats 8000000 in
theorem lirs (a0 : Option Addr) (len0 cap0 : Nat) (z0 : List Int) (b0 : Option Addr) (len1 cap1 : Nat) (y0 : List Int) (src c s h : Int) (K : Int) (dn : Bool) (lo hi : Int) (w : World) (w0 : IsRow .i64 w a0 len0 cap0 z0) (v0 : IsRow .i64 w b0 len1 cap1 y0) (w1 : (Lit.int .i64 src).wf = true) :
    Calls Try.prog 8 #[.agg #[.slice a0 len0 cap0, .slice b0 len1 cap1], .int .i64 src, .agg #[.int .i64 c, .int .i64 s, .int .i64 h], .agg #[.int .i64 K, .bool dn, .int .i64 lo, .int .i64 hi]] w fun e w' => e = .returned (.bool true) ∧ Below w.heap.size w w' := by
  obtain ⟨hm, hn, e1, e2, hp⟩ := Prof.of_in w0 v0
  clear w0 v0 w1
  obtain ⟨zs, hzs⟩ : ∃ zs, z0.take len0 = zs := ⟨_, rfl⟩
  obtain ⟨ys, hys⟩ : ∃ ys, y0.take len1 = ys := ⟨_, rfl⟩
  rw [hzs] at e1 hp
  rw [hys] at e2 hp
  subst e1 e2
  clear hzs hys
  by_cases hbig : 1048576 < zs.length + ys.length
  case pos =>
    have HZ := Lib.hid (szP_big hbig)
    clear hp
    go_enter Try.func8, Try.ntmps8
    go_wp2_with fail
    refine (szp_any _ _ _ _ _ _ _ hm hn).mono ?_
    rw [HZ.out]
    rintro e w1 ⟨rfl, hb⟩
    have HB : Hid (Below w.heap.size w w1) := Lib.hid (bel_end (by repeat (first | exact Below.refl _ _ | (refine Below.alloc ?_ (by simp <;> omega) _) | (refine Below.setCell ?_ (by simp <;> omega) _) | (refine Below.drew ?_) | (refine bel_drewN ?_ _))) hb)
    clear hb
    go_wp2
    go_ret
    exact ⟨rfl, HB.out⟩
  case neg =>
    have hz := szP_fit hbig
    have HP := Lib.hid (hp (by omega))
    have lz := HP.out.lz
    have ly := HP.out.ly
    clear hp
    obtain ⟨q, hq⟩ : ∃ q, szP zs.length ys.length = q := ⟨_, rfl⟩
    have hq0 : 0 ≤ q := hq ▸ hz
    have HQ := Lib.hid hq
    clear hz hq
    have KS : Hid (∀ (W : World) (a b : Option Addr) (ca cb : Nat), Prof W W.heap.size a b zs ys → Calls Try.prog 42 #[.agg #[.slice a zs.length ca, .slice b ys.length cb], .int .i64 src, .agg #[.int .i64 c, .int .i64 s, .int .i64 h], .agg #[.int .i64 K, .bool dn, .int .i64 lo, .int .i64 hi]] W fun e w' => e = .returned (.bool (eosT zs ys src c s h K lo hi == 0)) ∧ Below W.heap.size W w') := Lib.hid (fun W a b ca cb hp => sirs_any W a b ca cb zs ys src c s h K lo hi dn hp)
    have KI : Hid (∀ (W : World) (a b : Option Addr) (ca cb : Nat), Prof W W.heap.size a b zs ys → Calls Try.prog 37 #[.agg #[.slice a zs.length ca, .slice b ys.length cb], .int .i64 src, .agg #[.int .i64 c, .int .i64 s, .int .i64 h], .agg #[.int .i64 K, .bool dn, .int .i64 lo, .int .i64 hi]] W fun e w' => e = .returned (.bool (eosT zs ys src c s h K lo hi == 0)) ∧ Below W.heap.size W w') := Lib.hid (fun W a b ca cb hp => irs_any W a b ca cb zs ys src c s h K lo hi dn hp)
    obtain ⟨r0, hT⟩ : ∃ x, (eosT zs ys src c s h K lo hi == 0) = x := ⟨_, rfl⟩
    rw [hT] at KS KI
    clear hT
    go_enter Try.func8, Try.ntmps8
    go_wp2_with fail
    generalize hW : World.alloc _ _ = W0
    have bX : Bk W0 (w.heap.size) #[.slice a0 zs.length cap0, .slice b0 ys.length cap1] 65 := by rw [← hW]; repeat (first | (refine Bk.new' ?_; (simp; done)) | refine Bk.alloc ?_ _)
    have bD : Bk W0 (w.heap.size + 1) #[.int .i64 c, .int .i64 s, .int .i64 h] 66 := by rw [← hW]; repeat (first | (refine Bk.new' ?_; (simp; done)) | refine Bk.alloc ?_ _)
    have bQ : Bk W0 (w.heap.size + 1 + 1) #[.int .i64 K, .bool dn, .int .i64 lo, .int .i64 hi] 69 := by rw [← hW]; repeat (first | (refine Bk.new' ?_; (simp; done)) | refine Bk.alloc ?_ _)
    have hb : Below w.heap.size w W0 := by rw [← hW]; exact (by repeat (first | exact Below.refl _ _ | (refine Below.alloc ?_ (by simp <;> omega) _) | (refine Below.setCell ?_ (by simp <;> omega) _) | (refine Below.drew ?_) | (refine bel_drewN ?_ _)))
    replace HP := Lib.hid (HP.out.on hb)
    have HB := Lib.hid hb
    clear hW hb
    refine (szp_any _ _ _ _ _ _ _ hm hn).mono ?_
    rw [HQ.out]
    rintro e W ⟨rfl, hb⟩
    replace bX := bX.on hb
    replace bD := bD.on hb
    replace bQ := bQ.on hb
    replace HP := Lib.hid (HP.out.on hb)
    replace HB := Lib.hid (bel_end HB.out hb)
    clear hb
    go_upto_region 5 with fail
    go_cut [10] (fun s10 wx => s10 = .bool r0 ∧ Below W.heap.size W wx)
    case first =>
      have HW : Hid (Below W.heap.size W W) := Lib.hid (Below.refl _ _)
      refine wp_region_held_drew (S := (fun w' => w'.cell? ⟨w.heap.size, 0, none⟩ = some (.slice a0 zs.length cap0) ∧ w'.cell? ⟨w.heap.size, 1, none⟩ = some (.slice b0 ys.length cap1) ∧ w'.cell? ⟨w.heap.size + 1, 0, none⟩ = some (.int .i64 c) ∧ w'.cell? ⟨w.heap.size + 1, 1, none⟩ = some (.int .i64 s) ∧ w'.cell? ⟨w.heap.size + 1, 2, none⟩ = some (.int .i64 h) ∧ w'.cell? ⟨w.heap.size + 1 + 1, 0, none⟩ = some (.int .i64 K) ∧ w'.cell? ⟨w.heap.size + 1 + 1, 1, none⟩ = some (.bool dn) ∧ w'.cell? ⟨w.heap.size + 1 + 1, 2, none⟩ = some (.int .i64 lo) ∧ w'.cell? ⟨w.heap.size + 1 + 1, 3, none⟩ = some (.int .i64 hi))) (by kernel_rfl) ?_ (fun hH => ?_)
      · exact (show (fun w' : World => w'.cell? ⟨w.heap.size, 0, none⟩ = some (.slice a0 zs.length cap0) ∧ w'.cell? ⟨w.heap.size, 1, none⟩ = some (.slice b0 ys.length cap1) ∧ w'.cell? ⟨w.heap.size + 1, 0, none⟩ = some (.int .i64 c) ∧ w'.cell? ⟨w.heap.size + 1, 1, none⟩ = some (.int .i64 s) ∧ w'.cell? ⟨w.heap.size + 1, 2, none⟩ = some (.int .i64 h) ∧ w'.cell? ⟨w.heap.size + 1 + 1, 0, none⟩ = some (.int .i64 K) ∧ w'.cell? ⟨w.heap.size + 1 + 1, 1, none⟩ = some (.bool dn) ∧ w'.cell? ⟨w.heap.size + 1 + 1, 2, none⟩ = some (.int .i64 lo) ∧ w'.cell? ⟨w.heap.size + 1 + 1, 3, none⟩ = some (.int .i64 hi)) W from ⟨bX.cell 0 rfl, bX.cell 1 rfl, bD.cell 0 rfl, bD.cell 1 rfl, bD.cell 2 rfl, bQ.cell 0 rfl, bQ.cell 1 rfl, bQ.cell 2 rfl, bQ.cell 3 rfl⟩)
      clear hH
      generalize hX : World.drew W = V0
      have bX0 : Bk V0 (w.heap.size) #[.slice a0 zs.length cap0, .slice b0 ys.length cap1] 65 := by rw [← hX]; exact bX
      have bD0 : Bk V0 (w.heap.size + 1) #[.int .i64 c, .int .i64 s, .int .i64 h] 66 := by rw [← hX]; exact bD
      have bQ0 : Bk V0 (w.heap.size + 1 + 1) #[.int .i64 K, .bool dn, .int .i64 lo, .int .i64 hi] 69 := by rw [← hX]; exact bQ
      have hb : Below W.heap.size W V0 := by rw [← hX]; exact (Below.refl _ _).drew
      clear hX
      replace bX := bX0
      clear bX0
      replace bD := bD0
      clear bD0
      replace bQ := bQ0
      clear bQ0
      try replace HR := Lib.hid (HR.out.on hb)
      replace HW := Lib.hid (bel_end HW.out hb)
      clear hb
      have hS : (fun w' : World => w'.cell? ⟨w.heap.size, 0, none⟩ = some (.slice a0 zs.length cap0) ∧ w'.cell? ⟨w.heap.size, 1, none⟩ = some (.slice b0 ys.length cap1) ∧ w'.cell? ⟨w.heap.size + 1, 0, none⟩ = some (.int .i64 c) ∧ w'.cell? ⟨w.heap.size + 1, 1, none⟩ = some (.int .i64 s) ∧ w'.cell? ⟨w.heap.size + 1, 2, none⟩ = some (.int .i64 h) ∧ w'.cell? ⟨w.heap.size + 1 + 1, 0, none⟩ = some (.int .i64 K) ∧ w'.cell? ⟨w.heap.size + 1 + 1, 1, none⟩ = some (.bool dn) ∧ w'.cell? ⟨w.heap.size + 1 + 1, 2, none⟩ = some (.int .i64 lo) ∧ w'.cell? ⟨w.heap.size + 1 + 1, 3, none⟩ = some (.int .i64 hi)) V0 := ⟨bX.cell 0 rfl, bX.cell 1 rfl, bD.cell 0 rfl, bD.cell 1 rfl, bD.cell 2 rfl, bQ.cell 0 rfl, bQ.cell 1 rfl, bQ.cell 2 rfl, bQ.cell 3 rfl⟩
      refine wpAnyH_take (i := 0) (oi := { dst := some 18, op := Go.Op.load 65 (Go.Operand.tmp 4), type := 65, pos := "exact.go:2773", after := #[], guard := none }) (v := ?_) rfl (by kernel_rfl) (by kernel_rfl) (by kernel_rfl) (fun _ _ _ h => h) (Or.inl ⟨by rfl, ?_⟩) hS ?_
      rotate_left
      · (intro w hSw; (try dsimp only at hSw); go_split_ands; go_simp) <;> with_reducible rfl
      clear hS
      try simp only [Act.put, List.setIfInBounds_toArray, List.set_cons_zero, List.set_cons_succ]
      have hS : (fun w' : World => w'.cell? ⟨w.heap.size, 0, none⟩ = some (.slice a0 zs.length cap0) ∧ w'.cell? ⟨w.heap.size, 1, none⟩ = some (.slice b0 ys.length cap1) ∧ w'.cell? ⟨w.heap.size + 1, 0, none⟩ = some (.int .i64 c) ∧ w'.cell? ⟨w.heap.size + 1, 1, none⟩ = some (.int .i64 s) ∧ w'.cell? ⟨w.heap.size + 1, 2, none⟩ = some (.int .i64 h) ∧ w'.cell? ⟨w.heap.size + 1 + 1, 0, none⟩ = some (.int .i64 K) ∧ w'.cell? ⟨w.heap.size + 1 + 1, 1, none⟩ = some (.bool dn) ∧ w'.cell? ⟨w.heap.size + 1 + 1, 2, none⟩ = some (.int .i64 lo) ∧ w'.cell? ⟨w.heap.size + 1 + 1, 3, none⟩ = some (.int .i64 hi)) V0 := ⟨bX.cell 0 rfl, bX.cell 1 rfl, bD.cell 0 rfl, bD.cell 1 rfl, bD.cell 2 rfl, bQ.cell 0 rfl, bQ.cell 1 rfl, bQ.cell 2 rfl, bQ.cell 3 rfl⟩
      refine wpAnyH_take (i := 2) (oi := { dst := some 20, op := Go.Op.move (Go.Operand.tmp 1), type := 2, pos := "exact.go:2773", after := #[], guard := none }) (v := ?_) rfl (by kernel_rfl) (by kernel_rfl) (by kernel_rfl) (fun _ _ _ h => h) (Or.inl ⟨by rfl, ?_⟩) hS ?_
      rotate_left
      · (intro w hSw; (try dsimp only at hSw); go_split_ands; go_simp) <;> with_reducible rfl
      clear hS
      try simp only [Act.put, List.setIfInBounds_toArray, List.set_cons_zero, List.set_cons_succ]
      have hS : (fun w' : World => w'.cell? ⟨w.heap.size, 0, none⟩ = some (.slice a0 zs.length cap0) ∧ w'.cell? ⟨w.heap.size, 1, none⟩ = some (.slice b0 ys.length cap1) ∧ w'.cell? ⟨w.heap.size + 1, 0, none⟩ = some (.int .i64 c) ∧ w'.cell? ⟨w.heap.size + 1, 1, none⟩ = some (.int .i64 s) ∧ w'.cell? ⟨w.heap.size + 1, 2, none⟩ = some (.int .i64 h) ∧ w'.cell? ⟨w.heap.size + 1 + 1, 0, none⟩ = some (.int .i64 K) ∧ w'.cell? ⟨w.heap.size + 1 + 1, 1, none⟩ = some (.bool dn) ∧ w'.cell? ⟨w.heap.size + 1 + 1, 2, none⟩ = some (.int .i64 lo) ∧ w'.cell? ⟨w.heap.size + 1 + 1, 3, none⟩ = some (.int .i64 hi)) V0 := ⟨bX.cell 0 rfl, bX.cell 1 rfl, bD.cell 0 rfl, bD.cell 1 rfl, bD.cell 2 rfl, bQ.cell 0 rfl, bQ.cell 1 rfl, bQ.cell 2 rfl, bQ.cell 3 rfl⟩
      refine wpAnyH_take (i := 3) (oi := { dst := some 21, op := Go.Op.load 66 (Go.Operand.tmp 6), type := 66, pos := "exact.go:2773", after := #[], guard := none }) (v := ?_) rfl (by kernel_rfl) (by kernel_rfl) (by kernel_rfl) (fun _ _ _ h => h) (Or.inl ⟨by rfl, ?_⟩) hS ?_
      rotate_left
      · (intro w hSw; (try dsimp only at hSw); go_split_ands; go_simp) <;> with_reducible rfl
      clear hS
      try simp only [Act.put, List.setIfInBounds_toArray, List.set_cons_zero, List.set_cons_succ]
      have hS : (fun w' : World => w'.cell? ⟨w.heap.size, 0, none⟩ = some (.slice a0 zs.length cap0) ∧ w'.cell? ⟨w.heap.size, 1, none⟩ = some (.slice b0 ys.length cap1) ∧ w'.cell? ⟨w.heap.size + 1, 0, none⟩ = some (.int .i64 c) ∧ w'.cell? ⟨w.heap.size + 1, 1, none⟩ = some (.int .i64 s) ∧ w'.cell? ⟨w.heap.size + 1, 2, none⟩ = some (.int .i64 h) ∧ w'.cell? ⟨w.heap.size + 1 + 1, 0, none⟩ = some (.int .i64 K) ∧ w'.cell? ⟨w.heap.size + 1 + 1, 1, none⟩ = some (.bool dn) ∧ w'.cell? ⟨w.heap.size + 1 + 1, 2, none⟩ = some (.int .i64 lo) ∧ w'.cell? ⟨w.heap.size + 1 + 1, 3, none⟩ = some (.int .i64 hi)) V0 := ⟨bX.cell 0 rfl, bX.cell 1 rfl, bD.cell 0 rfl, bD.cell 1 rfl, bD.cell 2 rfl, bQ.cell 0 rfl, bQ.cell 1 rfl, bQ.cell 2 rfl, bQ.cell 3 rfl⟩
      refine wpAnyH_take (i := 5) (oi := { dst := some 23, op := Go.Op.load 69 (Go.Operand.tmp 7), type := 69, pos := "exact.go:2773", after := #[], guard := none }) (v := ?_) rfl (by kernel_rfl) (by kernel_rfl) (by kernel_rfl) (fun _ _ _ h => h) (Or.inl ⟨by rfl, ?_⟩) hS ?_
      rotate_left
      · (intro w hSw; (try dsimp only at hSw); go_split_ands; go_simp) <;> with_reducible rfl
      clear hS
      try simp only [Act.put, List.setIfInBounds_toArray, List.set_cons_zero, List.set_cons_succ]
      refine wpAnyH_ready (rs := [1]) (by kernel_rfl) (by simp) ?_
      refine AllReadyH.cons (o := { dst := some 19, op := Go.Op.call { callee := Go.Callee.value (Go.Operand.func 47), args := #[Go.Operand.tmp 18], argTypes := #[65] }, type := 43, pos := "exact.go:2773", after := #[{ on := 0, ground := Go.Ground.data }], guard := none }) rfl (fun Kn hK => ?_) AllReadyH.nil
      first | go_at_call 47 | (go_simp; go_at_call 47)
      (refine Calls.mono (top_any _ _ _ _ _ zs ys (HP.out.on HW.out)) ?_)
      rintro e V1 ⟨g1, g2, rfl, hg1, hg2, hr1, hr2, hb⟩
      have HR := Lib.hid (Prof.of_rows hr1 hr2 lz ly)
      clear hr1 hr2
      try dsimp only
      try simp only [Act.put, List.setIfInBounds_toArray, List.set_cons_zero, List.set_cons_succ]
      replace bX := bX.on hb
      replace bD := bD.on hb
      replace bQ := bQ.on hb
      try replace HR := Lib.hid (HR.out.on hb)
      replace HW := Lib.hid (bel_end HW.out hb)
      clear hb
      refine hK.out _ _ (show (fun w' : World => w'.cell? ⟨w.heap.size, 0, none⟩ = some (.slice a0 zs.length cap0) ∧ w'.cell? ⟨w.heap.size, 1, none⟩ = some (.slice b0 ys.length cap1) ∧ w'.cell? ⟨w.heap.size + 1, 0, none⟩ = some (.int .i64 c) ∧ w'.cell? ⟨w.heap.size + 1, 1, none⟩ = some (.int .i64 s) ∧ w'.cell? ⟨w.heap.size + 1, 2, none⟩ = some (.int .i64 h) ∧ w'.cell? ⟨w.heap.size + 1 + 1, 0, none⟩ = some (.int .i64 K) ∧ w'.cell? ⟨w.heap.size + 1 + 1, 1, none⟩ = some (.bool dn) ∧ w'.cell? ⟨w.heap.size + 1 + 1, 2, none⟩ = some (.int .i64 lo) ∧ w'.cell? ⟨w.heap.size + 1 + 1, 3, none⟩ = some (.int .i64 hi)) V1 from ⟨bX.cell 0 rfl, bX.cell 1 rfl, bD.cell 0 rfl, bD.cell 1 rfl, bD.cell 2 rfl, bQ.cell 0 rfl, bQ.cell 1 rfl, bQ.cell 2 rfl, bQ.cell 3 rfl⟩) (fun _ => ?_)
      clear hK Kn
      refine wpAnyH_ready (rs := [4]) (by kernel_rfl) (by simp) ?_
      refine AllReadyH.cons (o := { dst := some 22, op := Go.Op.call { callee := Go.Callee.value (Go.Operand.func 48), args := #[Go.Operand.tmp 21], argTypes := #[66] }, type := 45, pos := "exact.go:2773", after := #[{ on := 3, ground := Go.Ground.data }, { on := 1, ground := Go.Ground.chain }], guard := none }) rfl (fun Kn hK => ?_) AllReadyH.nil
      first | go_at_call 48 | (go_simp; go_at_call 48)
      refine (tod_any _ _ _ _).mono ?_
      rintro e V2 ⟨rfl, hb⟩
      try dsimp only
      try simp only [Act.put, List.setIfInBounds_toArray, List.set_cons_zero, List.set_cons_succ]
      replace bX := bX.on hb
      replace bD := bD.on hb
      replace bQ := bQ.on hb
      try replace HR := Lib.hid (HR.out.on hb)
      replace HW := Lib.hid (bel_end HW.out hb)
      clear hb
      refine hK.out _ _ (show (fun w' : World => w'.cell? ⟨w.heap.size, 0, none⟩ = some (.slice a0 zs.length cap0) ∧ w'.cell? ⟨w.heap.size, 1, none⟩ = some (.slice b0 ys.length cap1) ∧ w'.cell? ⟨w.heap.size + 1, 0, none⟩ = some (.int .i64 c) ∧ w'.cell? ⟨w.heap.size + 1, 1, none⟩ = some (.int .i64 s) ∧ w'.cell? ⟨w.heap.size + 1, 2, none⟩ = some (.int .i64 h) ∧ w'.cell? ⟨w.heap.size + 1 + 1, 0, none⟩ = some (.int .i64 K) ∧ w'.cell? ⟨w.heap.size + 1 + 1, 1, none⟩ = some (.bool dn) ∧ w'.cell? ⟨w.heap.size + 1 + 1, 2, none⟩ = some (.int .i64 lo) ∧ w'.cell? ⟨w.heap.size + 1 + 1, 3, none⟩ = some (.int .i64 hi)) V2 from ⟨bX.cell 0 rfl, bX.cell 1 rfl, bD.cell 0 rfl, bD.cell 1 rfl, bD.cell 2 rfl, bQ.cell 0 rfl, bQ.cell 1 rfl, bQ.cell 2 rfl, bQ.cell 3 rfl⟩) (fun _ => ?_)
      clear hK Kn
      refine wpAnyH_ready (rs := [6]) (by kernel_rfl) (by simp) ?_
      refine AllReadyH.cons (o := { dst := some 24, op := Go.Op.call { callee := Go.Callee.value (Go.Operand.func 49), args := #[Go.Operand.tmp 23], argTypes := #[69] }, type := 49, pos := "exact.go:2773", after := #[{ on := 5, ground := Go.Ground.data }, { on := 4, ground := Go.Ground.chain }], guard := none }) rfl (fun Kn hK => ?_) AllReadyH.nil
      first | go_at_call 49 | (go_simp; go_at_call 49)
      refine (tors_any _ _ _ _ _).mono ?_
      rintro e V3 ⟨rfl, hb⟩
      try dsimp only
      try simp only [Act.put, List.setIfInBounds_toArray, List.set_cons_zero, List.set_cons_succ]
      replace bX := bX.on hb
      replace bD := bD.on hb
      replace bQ := bQ.on hb
      try replace HR := Lib.hid (HR.out.on hb)
      replace HW := Lib.hid (bel_end HW.out hb)
      clear hb
      refine hK.out _ _ (show (fun w' : World => w'.cell? ⟨w.heap.size, 0, none⟩ = some (.slice a0 zs.length cap0) ∧ w'.cell? ⟨w.heap.size, 1, none⟩ = some (.slice b0 ys.length cap1) ∧ w'.cell? ⟨w.heap.size + 1, 0, none⟩ = some (.int .i64 c) ∧ w'.cell? ⟨w.heap.size + 1, 1, none⟩ = some (.int .i64 s) ∧ w'.cell? ⟨w.heap.size + 1, 2, none⟩ = some (.int .i64 h) ∧ w'.cell? ⟨w.heap.size + 1 + 1, 0, none⟩ = some (.int .i64 K) ∧ w'.cell? ⟨w.heap.size + 1 + 1, 1, none⟩ = some (.bool dn) ∧ w'.cell? ⟨w.heap.size + 1 + 1, 2, none⟩ = some (.int .i64 lo) ∧ w'.cell? ⟨w.heap.size + 1 + 1, 3, none⟩ = some (.int .i64 hi)) V3 from ⟨bX.cell 0 rfl, bX.cell 1 rfl, bD.cell 0 rfl, bD.cell 1 rfl, bD.cell 2 rfl, bQ.cell 0 rfl, bQ.cell 1 rfl, bQ.cell 2 rfl, bQ.cell 3 rfl⟩) (fun _ => ?_)
      clear hK Kn
      refine wpAnyH_ready (rs := [7]) (by kernel_rfl) (by simp) ?_
      refine AllReadyH.cons (o := { dst := some 25, op := Go.Op.call { callee := Go.Callee.value (Go.Operand.func 42), args := #[Go.Operand.tmp 19, Go.Operand.tmp 20, Go.Operand.tmp 22, Go.Operand.tmp 24], argTypes := #[43, 2, 45, 49] }, type := 4, pos := "exact.go:2773", after := #[{ on := 1, ground := Go.Ground.data }, { on := 2, ground := Go.Ground.data }, { on := 4, ground := Go.Ground.data }, { on := 6, ground := Go.Ground.data }, { on := 6, ground := Go.Ground.chain }], guard := none }) rfl (fun Kn hK => ?_) AllReadyH.nil
      first | go_at_call 42 | (go_simp; go_at_call 42)
      (with_reducible refine Calls.mono (KS.out _ _ _ _ _ HR.out) ?_)
      rintro e V4 ⟨rfl, hb⟩
      try dsimp only
      try simp only [Act.put, List.setIfInBounds_toArray, List.set_cons_zero, List.set_cons_succ]
      replace bX := bX.on hb
      replace bD := bD.on hb
      replace bQ := bQ.on hb
      try replace HR := Lib.hid (HR.out.on hb)
      replace HW := Lib.hid (bel_end HW.out hb)
      clear hb
      refine hK.out _ _ (show (fun w' : World => w'.cell? ⟨w.heap.size, 0, none⟩ = some (.slice a0 zs.length cap0) ∧ w'.cell? ⟨w.heap.size, 1, none⟩ = some (.slice b0 ys.length cap1) ∧ w'.cell? ⟨w.heap.size + 1, 0, none⟩ = some (.int .i64 c) ∧ w'.cell? ⟨w.heap.size + 1, 1, none⟩ = some (.int .i64 s) ∧ w'.cell? ⟨w.heap.size + 1, 2, none⟩ = some (.int .i64 h) ∧ w'.cell? ⟨w.heap.size + 1 + 1, 0, none⟩ = some (.int .i64 K) ∧ w'.cell? ⟨w.heap.size + 1 + 1, 1, none⟩ = some (.bool dn) ∧ w'.cell? ⟨w.heap.size + 1 + 1, 2, none⟩ = some (.int .i64 lo) ∧ w'.cell? ⟨w.heap.size + 1 + 1, 3, none⟩ = some (.int .i64 hi)) V4 from ⟨bX.cell 0 rfl, bX.cell 1 rfl, bD.cell 0 rfl, bD.cell 1 rfl, bD.cell 2 rfl, bQ.cell 0 rfl, bQ.cell 1 rfl, bQ.cell 2 rfl, bQ.cell 3 rfl⟩) (fun _ => ?_)
      clear hK Kn
      have hS : (fun w' : World => w'.cell? ⟨w.heap.size, 0, none⟩ = some (.slice a0 zs.length cap0) ∧ w'.cell? ⟨w.heap.size, 1, none⟩ = some (.slice b0 ys.length cap1) ∧ w'.cell? ⟨w.heap.size + 1, 0, none⟩ = some (.int .i64 c) ∧ w'.cell? ⟨w.heap.size + 1, 1, none⟩ = some (.int .i64 s) ∧ w'.cell? ⟨w.heap.size + 1, 2, none⟩ = some (.int .i64 h) ∧ w'.cell? ⟨w.heap.size + 1 + 1, 0, none⟩ = some (.int .i64 K) ∧ w'.cell? ⟨w.heap.size + 1 + 1, 1, none⟩ = some (.bool dn) ∧ w'.cell? ⟨w.heap.size + 1 + 1, 2, none⟩ = some (.int .i64 lo) ∧ w'.cell? ⟨w.heap.size + 1 + 1, 3, none⟩ = some (.int .i64 hi)) V4 := ⟨bX.cell 0 rfl, bX.cell 1 rfl, bD.cell 0 rfl, bD.cell 1 rfl, bD.cell 2 rfl, bQ.cell 0 rfl, bQ.cell 1 rfl, bQ.cell 2 rfl, bQ.cell 3 rfl⟩
      refine wpAnyH_take (i := 8) (oi := { dst := some 10, op := Go.Op.assign (Go.Operand.tmp 25), type := 4, pos := "exact.go:2773", after := #[{ on := 7, ground := Go.Ground.data }, { on := 7, ground := Go.Ground.chain }, { on := 0, ground := Go.Ground.phase }, { on := 1, ground := Go.Ground.phase }, { on := 2, ground := Go.Ground.phase }, { on := 3, ground := Go.Ground.phase }, { on := 4, ground := Go.Ground.phase }, { on := 5, ground := Go.Ground.phase }, { on := 6, ground := Go.Ground.phase }, { on := 7, ground := Go.Ground.phase }], guard := none }) (v := ?_) rfl (by kernel_rfl) (by kernel_rfl) (by kernel_rfl) (fun _ _ _ h => h) (Or.inl ⟨by rfl, ?_⟩) hS ?_
      rotate_left
      · (intro w hSw; (try dsimp only at hSw); go_split_ands; go_simp) <;> with_reducible rfl
      clear hS
      try simp only [Act.put, List.setIfInBounds_toArray, List.set_cons_zero, List.set_cons_succ]
      refine wpAnyH_done (by kernel_rfl) ?_ _
      go_wp2_with fail
      go_meet
      exact ⟨rfl, HW.out⟩
    case rest =>
      obtain ⟨rfl, hB⟩ := hcut
      replace bX := bX.on hB
      replace bD := bD.on hB
      replace bQ := bQ.on hB
      replace HP := Lib.hid (HP.out.on hB)
      replace HB := Lib.hid (bel_end HB.out hB)
      clear hB
      have x0 := bX.cell 0 rfl
      have x1 := bX.cell 1 rfl
      have xl := bX.lt
      go_wp2_with fail
      refine (top_any _ _ _ _ _ zs ys HP.out).mono ?_
      rintro e w2 ⟨g3, g4, rfl, hg3, hg4, hr1, hr2, hb⟩
      replace bX := bX.on hb
      replace bD := bD.on hb
      replace bQ := bQ.on hb
      replace HP := Lib.hid (HP.out.on hb)
      replace HB := Lib.hid (bel_end HB.out hb)
      have HR := Lib.hid (Prof.of_rows hr1 hr2 lz ly)
      clear hr1 hr2 hg3 hg4 hb x0 x1 xl
      go_upto_region 7 with fail
      generalize hW : World.alloc _ _ = W3
      obtain ⟨gy, hgy⟩ : ∃ g, g = w2.heap.size := ⟨_, rfl⟩
      have hb : Below w2.heap.size w2 W3 := by rw [← hW]; exact (Below.refl _ _).alloc (Nat.le_refl _) _
      have bY : Bk W3 gy #[.slice (some ⟨g3, 0, none⟩) zs.length zs.length, .slice (some ⟨g4, 0, none⟩) ys.length ys.length] 43 := by rw [← hW]; exact Bk.new' hgy
      try rw [← hgy]
      replace bX := bX.on hb
      replace bD := bD.on hb
      replace bQ := bQ.on hb
      replace HP := Lib.hid (HP.out.on hb)
      replace HR := Lib.hid (HR.out.on hb)
      replace HB := Lib.hid (bel_end HB.out hb)
      clear hW hb hgy
      go_wp2_with fail
      go_cut [12] (fun s12 wx => s12 = .bool r0 ∧ Below W3.heap.size W3 wx)
      case first =>
        have HW : Hid (Below W3.heap.size W3 W3) := Lib.hid (Below.refl _ _)
        refine wp_region_held_drew (S := (fun w' => w'.cell? ⟨gy, 0, none⟩ = some (.slice (some ⟨g3, 0, none⟩) zs.length zs.length) ∧ w'.cell? ⟨gy, 1, none⟩ = some (.slice (some ⟨g4, 0, none⟩) ys.length ys.length) ∧ w'.cell? ⟨w.heap.size + 1, 0, none⟩ = some (.int .i64 c) ∧ w'.cell? ⟨w.heap.size + 1, 1, none⟩ = some (.int .i64 s) ∧ w'.cell? ⟨w.heap.size + 1, 2, none⟩ = some (.int .i64 h) ∧ w'.cell? ⟨w.heap.size + 1 + 1, 0, none⟩ = some (.int .i64 K) ∧ w'.cell? ⟨w.heap.size + 1 + 1, 1, none⟩ = some (.bool dn) ∧ w'.cell? ⟨w.heap.size + 1 + 1, 2, none⟩ = some (.int .i64 lo) ∧ w'.cell? ⟨w.heap.size + 1 + 1, 3, none⟩ = some (.int .i64 hi))) (by kernel_rfl) ?_ (fun hH => ?_)
        · exact (show (fun w' : World => w'.cell? ⟨gy, 0, none⟩ = some (.slice (some ⟨g3, 0, none⟩) zs.length zs.length) ∧ w'.cell? ⟨gy, 1, none⟩ = some (.slice (some ⟨g4, 0, none⟩) ys.length ys.length) ∧ w'.cell? ⟨w.heap.size + 1, 0, none⟩ = some (.int .i64 c) ∧ w'.cell? ⟨w.heap.size + 1, 1, none⟩ = some (.int .i64 s) ∧ w'.cell? ⟨w.heap.size + 1, 2, none⟩ = some (.int .i64 h) ∧ w'.cell? ⟨w.heap.size + 1 + 1, 0, none⟩ = some (.int .i64 K) ∧ w'.cell? ⟨w.heap.size + 1 + 1, 1, none⟩ = some (.bool dn) ∧ w'.cell? ⟨w.heap.size + 1 + 1, 2, none⟩ = some (.int .i64 lo) ∧ w'.cell? ⟨w.heap.size + 1 + 1, 3, none⟩ = some (.int .i64 hi)) W3 from ⟨bY.cell 0 rfl, bY.cell 1 rfl, bD.cell 0 rfl, bD.cell 1 rfl, bD.cell 2 rfl, bQ.cell 0 rfl, bQ.cell 1 rfl, bQ.cell 2 rfl, bQ.cell 3 rfl⟩)
        clear hH
        generalize hX : World.drew W3 = V0
        have bY0 : Bk V0 (gy) #[.slice (some ⟨g3, 0, none⟩) zs.length zs.length, .slice (some ⟨g4, 0, none⟩) ys.length ys.length] 43 := by rw [← hX]; exact bY
        have bD0 : Bk V0 (w.heap.size + 1) #[.int .i64 c, .int .i64 s, .int .i64 h] 66 := by rw [← hX]; exact bD
        have bQ0 : Bk V0 (w.heap.size + 1 + 1) #[.int .i64 K, .bool dn, .int .i64 lo, .int .i64 hi] 69 := by rw [← hX]; exact bQ
        have hb : Below W3.heap.size W3 V0 := by rw [← hX]; exact (Below.refl _ _).drew
        clear hX
        replace bY := bY0
        clear bY0
        replace bD := bD0
        clear bD0
        replace bQ := bQ0
        clear bQ0
        replace HW := Lib.hid (bel_end HW.out hb)
        clear hb
        have hS : (fun w' : World => w'.cell? ⟨gy, 0, none⟩ = some (.slice (some ⟨g3, 0, none⟩) zs.length zs.length) ∧ w'.cell? ⟨gy, 1, none⟩ = some (.slice (some ⟨g4, 0, none⟩) ys.length ys.length) ∧ w'.cell? ⟨w.heap.size + 1, 0, none⟩ = some (.int .i64 c) ∧ w'.cell? ⟨w.heap.size + 1, 1, none⟩ = some (.int .i64 s) ∧ w'.cell? ⟨w.heap.size + 1, 2, none⟩ = some (.int .i64 h) ∧ w'.cell? ⟨w.heap.size + 1 + 1, 0, none⟩ = some (.int .i64 K) ∧ w'.cell? ⟨w.heap.size + 1 + 1, 1, none⟩ = some (.bool dn) ∧ w'.cell? ⟨w.heap.size + 1 + 1, 2, none⟩ = some (.int .i64 lo) ∧ w'.cell? ⟨w.heap.size + 1 + 1, 3, none⟩ = some (.int .i64 hi)) V0 := ⟨bY.cell 0 rfl, bY.cell 1 rfl, bD.cell 0 rfl, bD.cell 1 rfl, bD.cell 2 rfl, bQ.cell 0 rfl, bQ.cell 1 rfl, bQ.cell 2 rfl, bQ.cell 3 rfl⟩
        refine wpAnyH_take (i := 0) (oi := { dst := some 28, op := Go.Op.load 43 (Go.Operand.tmp 11), type := 43, pos := "exact.go:2775", after := #[], guard := none }) (v := ?_) rfl (by kernel_rfl) (by kernel_rfl) (by kernel_rfl) (fun _ _ _ h => h) (Or.inl ⟨by rfl, ?_⟩) hS ?_
        rotate_left
        · (intro w hSw; (try dsimp only at hSw); go_split_ands; go_simp) <;> with_reducible rfl
        clear hS
        try simp only [Act.put, List.setIfInBounds_toArray, List.set_cons_zero, List.set_cons_succ]
        have hS : (fun w' : World => w'.cell? ⟨gy, 0, none⟩ = some (.slice (some ⟨g3, 0, none⟩) zs.length zs.length) ∧ w'.cell? ⟨gy, 1, none⟩ = some (.slice (some ⟨g4, 0, none⟩) ys.length ys.length) ∧ w'.cell? ⟨w.heap.size + 1, 0, none⟩ = some (.int .i64 c) ∧ w'.cell? ⟨w.heap.size + 1, 1, none⟩ = some (.int .i64 s) ∧ w'.cell? ⟨w.heap.size + 1, 2, none⟩ = some (.int .i64 h) ∧ w'.cell? ⟨w.heap.size + 1 + 1, 0, none⟩ = some (.int .i64 K) ∧ w'.cell? ⟨w.heap.size + 1 + 1, 1, none⟩ = some (.bool dn) ∧ w'.cell? ⟨w.heap.size + 1 + 1, 2, none⟩ = some (.int .i64 lo) ∧ w'.cell? ⟨w.heap.size + 1 + 1, 3, none⟩ = some (.int .i64 hi)) V0 := ⟨bY.cell 0 rfl, bY.cell 1 rfl, bD.cell 0 rfl, bD.cell 1 rfl, bD.cell 2 rfl, bQ.cell 0 rfl, bQ.cell 1 rfl, bQ.cell 2 rfl, bQ.cell 3 rfl⟩
        refine wpAnyH_take (i := 1) (oi := { dst := some 29, op := Go.Op.move (Go.Operand.tmp 1), type := 2, pos := "exact.go:2775", after := #[], guard := none }) (v := ?_) rfl (by kernel_rfl) (by kernel_rfl) (by kernel_rfl) (fun _ _ _ h => h) (Or.inl ⟨by rfl, ?_⟩) hS ?_
        rotate_left
        · (intro w hSw; (try dsimp only at hSw); go_split_ands; go_simp) <;> with_reducible rfl
        clear hS
        try simp only [Act.put, List.setIfInBounds_toArray, List.set_cons_zero, List.set_cons_succ]
        have hS : (fun w' : World => w'.cell? ⟨gy, 0, none⟩ = some (.slice (some ⟨g3, 0, none⟩) zs.length zs.length) ∧ w'.cell? ⟨gy, 1, none⟩ = some (.slice (some ⟨g4, 0, none⟩) ys.length ys.length) ∧ w'.cell? ⟨w.heap.size + 1, 0, none⟩ = some (.int .i64 c) ∧ w'.cell? ⟨w.heap.size + 1, 1, none⟩ = some (.int .i64 s) ∧ w'.cell? ⟨w.heap.size + 1, 2, none⟩ = some (.int .i64 h) ∧ w'.cell? ⟨w.heap.size + 1 + 1, 0, none⟩ = some (.int .i64 K) ∧ w'.cell? ⟨w.heap.size + 1 + 1, 1, none⟩ = some (.bool dn) ∧ w'.cell? ⟨w.heap.size + 1 + 1, 2, none⟩ = some (.int .i64 lo) ∧ w'.cell? ⟨w.heap.size + 1 + 1, 3, none⟩ = some (.int .i64 hi)) V0 := ⟨bY.cell 0 rfl, bY.cell 1 rfl, bD.cell 0 rfl, bD.cell 1 rfl, bD.cell 2 rfl, bQ.cell 0 rfl, bQ.cell 1 rfl, bQ.cell 2 rfl, bQ.cell 3 rfl⟩
        refine wpAnyH_take (i := 2) (oi := { dst := some 30, op := Go.Op.load 66 (Go.Operand.tmp 6), type := 66, pos := "exact.go:2775", after := #[], guard := none }) (v := ?_) rfl (by kernel_rfl) (by kernel_rfl) (by kernel_rfl) (fun _ _ _ h => h) (Or.inl ⟨by rfl, ?_⟩) hS ?_
        rotate_left
        · (intro w hSw; (try dsimp only at hSw); go_split_ands; go_simp) <;> with_reducible rfl
        clear hS
        try simp only [Act.put, List.setIfInBounds_toArray, List.set_cons_zero, List.set_cons_succ]
        have hS : (fun w' : World => w'.cell? ⟨gy, 0, none⟩ = some (.slice (some ⟨g3, 0, none⟩) zs.length zs.length) ∧ w'.cell? ⟨gy, 1, none⟩ = some (.slice (some ⟨g4, 0, none⟩) ys.length ys.length) ∧ w'.cell? ⟨w.heap.size + 1, 0, none⟩ = some (.int .i64 c) ∧ w'.cell? ⟨w.heap.size + 1, 1, none⟩ = some (.int .i64 s) ∧ w'.cell? ⟨w.heap.size + 1, 2, none⟩ = some (.int .i64 h) ∧ w'.cell? ⟨w.heap.size + 1 + 1, 0, none⟩ = some (.int .i64 K) ∧ w'.cell? ⟨w.heap.size + 1 + 1, 1, none⟩ = some (.bool dn) ∧ w'.cell? ⟨w.heap.size + 1 + 1, 2, none⟩ = some (.int .i64 lo) ∧ w'.cell? ⟨w.heap.size + 1 + 1, 3, none⟩ = some (.int .i64 hi)) V0 := ⟨bY.cell 0 rfl, bY.cell 1 rfl, bD.cell 0 rfl, bD.cell 1 rfl, bD.cell 2 rfl, bQ.cell 0 rfl, bQ.cell 1 rfl, bQ.cell 2 rfl, bQ.cell 3 rfl⟩
        refine wpAnyH_take (i := 4) (oi := { dst := some 32, op := Go.Op.load 69 (Go.Operand.tmp 7), type := 69, pos := "exact.go:2775", after := #[], guard := none }) (v := ?_) rfl (by kernel_rfl) (by kernel_rfl) (by kernel_rfl) (fun _ _ _ h => h) (Or.inl ⟨by rfl, ?_⟩) hS ?_
        rotate_left
        · (intro w hSw; (try dsimp only at hSw); go_split_ands; go_simp) <;> with_reducible rfl
        clear hS
        try simp only [Act.put, List.setIfInBounds_toArray, List.set_cons_zero, List.set_cons_succ]
        refine wpAnyH_ready (rs := [3]) (by kernel_rfl) (by simp) ?_
        refine AllReadyH.cons (o := { dst := some 31, op := Go.Op.call { callee := Go.Callee.value (Go.Operand.func 48), args := #[Go.Operand.tmp 30], argTypes := #[66] }, type := 45, pos := "exact.go:2775", after := #[{ on := 2, ground := Go.Ground.data }], guard := none }) rfl (fun Kn hK => ?_) AllReadyH.nil
        first | go_at_call 48 | (go_simp; go_at_call 48)
        refine (tod_any _ _ _ _).mono ?_
        rintro e V1 ⟨rfl, hb⟩
        try dsimp only
        try simp only [Act.put, List.setIfInBounds_toArray, List.set_cons_zero, List.set_cons_succ]
        replace bY := bY.on hb
        replace bD := bD.on hb
        replace bQ := bQ.on hb
        replace HW := Lib.hid (bel_end HW.out hb)
        clear hb
        refine hK.out _ _ (show (fun w' : World => w'.cell? ⟨gy, 0, none⟩ = some (.slice (some ⟨g3, 0, none⟩) zs.length zs.length) ∧ w'.cell? ⟨gy, 1, none⟩ = some (.slice (some ⟨g4, 0, none⟩) ys.length ys.length) ∧ w'.cell? ⟨w.heap.size + 1, 0, none⟩ = some (.int .i64 c) ∧ w'.cell? ⟨w.heap.size + 1, 1, none⟩ = some (.int .i64 s) ∧ w'.cell? ⟨w.heap.size + 1, 2, none⟩ = some (.int .i64 h) ∧ w'.cell? ⟨w.heap.size + 1 + 1, 0, none⟩ = some (.int .i64 K) ∧ w'.cell? ⟨w.heap.size + 1 + 1, 1, none⟩ = some (.bool dn) ∧ w'.cell? ⟨w.heap.size + 1 + 1, 2, none⟩ = some (.int .i64 lo) ∧ w'.cell? ⟨w.heap.size + 1 + 1, 3, none⟩ = some (.int .i64 hi)) V1 from ⟨bY.cell 0 rfl, bY.cell 1 rfl, bD.cell 0 rfl, bD.cell 1 rfl, bD.cell 2 rfl, bQ.cell 0 rfl, bQ.cell 1 rfl, bQ.cell 2 rfl, bQ.cell 3 rfl⟩) (fun _ => ?_)
        clear hK Kn
        refine wpAnyH_ready (rs := [5]) (by kernel_rfl) (by simp) ?_
        refine AllReadyH.cons (o := { dst := some 33, op := Go.Op.call { callee := Go.Callee.value (Go.Operand.func 49), args := #[Go.Operand.tmp 32], argTypes := #[69] }, type := 49, pos := "exact.go:2775", after := #[{ on := 4, ground := Go.Ground.data }, { on := 3, ground := Go.Ground.chain }], guard := none }) rfl (fun Kn hK => ?_) AllReadyH.nil
        first | go_at_call 49 | (go_simp; go_at_call 49)
        refine (tors_any _ _ _ _ _).mono ?_
        rintro e V2 ⟨rfl, hb⟩
        try dsimp only
        try simp only [Act.put, List.setIfInBounds_toArray, List.set_cons_zero, List.set_cons_succ]
        replace bY := bY.on hb
        replace bD := bD.on hb
        replace bQ := bQ.on hb
        replace HW := Lib.hid (bel_end HW.out hb)
        clear hb
        refine hK.out _ _ (show (fun w' : World => w'.cell? ⟨gy, 0, none⟩ = some (.slice (some ⟨g3, 0, none⟩) zs.length zs.length) ∧ w'.cell? ⟨gy, 1, none⟩ = some (.slice (some ⟨g4, 0, none⟩) ys.length ys.length) ∧ w'.cell? ⟨w.heap.size + 1, 0, none⟩ = some (.int .i64 c) ∧ w'.cell? ⟨w.heap.size + 1, 1, none⟩ = some (.int .i64 s) ∧ w'.cell? ⟨w.heap.size + 1, 2, none⟩ = some (.int .i64 h) ∧ w'.cell? ⟨w.heap.size + 1 + 1, 0, none⟩ = some (.int .i64 K) ∧ w'.cell? ⟨w.heap.size + 1 + 1, 1, none⟩ = some (.bool dn) ∧ w'.cell? ⟨w.heap.size + 1 + 1, 2, none⟩ = some (.int .i64 lo) ∧ w'.cell? ⟨w.heap.size + 1 + 1, 3, none⟩ = some (.int .i64 hi)) V2 from ⟨bY.cell 0 rfl, bY.cell 1 rfl, bD.cell 0 rfl, bD.cell 1 rfl, bD.cell 2 rfl, bQ.cell 0 rfl, bQ.cell 1 rfl, bQ.cell 2 rfl, bQ.cell 3 rfl⟩) (fun _ => ?_)
        clear hK Kn
        refine wpAnyH_ready (rs := [6]) (by kernel_rfl) (by simp) ?_
        refine AllReadyH.cons (o := { dst := some 34, op := Go.Op.call { callee := Go.Callee.value (Go.Operand.func 37), args := #[Go.Operand.tmp 28, Go.Operand.tmp 29, Go.Operand.tmp 31, Go.Operand.tmp 33], argTypes := #[43, 2, 45, 49] }, type := 4, pos := "exact.go:2775", after := #[{ on := 0, ground := Go.Ground.data }, { on := 1, ground := Go.Ground.data }, { on := 3, ground := Go.Ground.data }, { on := 5, ground := Go.Ground.data }, { on := 5, ground := Go.Ground.chain }], guard := none }) rfl (fun Kn hK => ?_) AllReadyH.nil
        first | go_at_call 37 | (go_simp; go_at_call 37)
        (with_reducible refine Calls.mono (KI.out _ _ _ _ _ (HR.out.on HW.out)) ?_)
        rintro e V3 ⟨rfl, hb⟩
        try dsimp only
        try simp only [Act.put, List.setIfInBounds_toArray, List.set_cons_zero, List.set_cons_succ]
        replace bY := bY.on hb
        replace bD := bD.on hb
        replace bQ := bQ.on hb
        replace HW := Lib.hid (bel_end HW.out hb)
        clear hb
        refine hK.out _ _ (show (fun w' : World => w'.cell? ⟨gy, 0, none⟩ = some (.slice (some ⟨g3, 0, none⟩) zs.length zs.length) ∧ w'.cell? ⟨gy, 1, none⟩ = some (.slice (some ⟨g4, 0, none⟩) ys.length ys.length) ∧ w'.cell? ⟨w.heap.size + 1, 0, none⟩ = some (.int .i64 c) ∧ w'.cell? ⟨w.heap.size + 1, 1, none⟩ = some (.int .i64 s) ∧ w'.cell? ⟨w.heap.size + 1, 2, none⟩ = some (.int .i64 h) ∧ w'.cell? ⟨w.heap.size + 1 + 1, 0, none⟩ = some (.int .i64 K) ∧ w'.cell? ⟨w.heap.size + 1 + 1, 1, none⟩ = some (.bool dn) ∧ w'.cell? ⟨w.heap.size + 1 + 1, 2, none⟩ = some (.int .i64 lo) ∧ w'.cell? ⟨w.heap.size + 1 + 1, 3, none⟩ = some (.int .i64 hi)) V3 from ⟨bY.cell 0 rfl, bY.cell 1 rfl, bD.cell 0 rfl, bD.cell 1 rfl, bD.cell 2 rfl, bQ.cell 0 rfl, bQ.cell 1 rfl, bQ.cell 2 rfl, bQ.cell 3 rfl⟩) (fun _ => ?_)
        clear hK Kn
        have hS : (fun w' : World => w'.cell? ⟨gy, 0, none⟩ = some (.slice (some ⟨g3, 0, none⟩) zs.length zs.length) ∧ w'.cell? ⟨gy, 1, none⟩ = some (.slice (some ⟨g4, 0, none⟩) ys.length ys.length) ∧ w'.cell? ⟨w.heap.size + 1, 0, none⟩ = some (.int .i64 c) ∧ w'.cell? ⟨w.heap.size + 1, 1, none⟩ = some (.int .i64 s) ∧ w'.cell? ⟨w.heap.size + 1, 2, none⟩ = some (.int .i64 h) ∧ w'.cell? ⟨w.heap.size + 1 + 1, 0, none⟩ = some (.int .i64 K) ∧ w'.cell? ⟨w.heap.size + 1 + 1, 1, none⟩ = some (.bool dn) ∧ w'.cell? ⟨w.heap.size + 1 + 1, 2, none⟩ = some (.int .i64 lo) ∧ w'.cell? ⟨w.heap.size + 1 + 1, 3, none⟩ = some (.int .i64 hi)) V3 := ⟨bY.cell 0 rfl, bY.cell 1 rfl, bD.cell 0 rfl, bD.cell 1 rfl, bD.cell 2 rfl, bQ.cell 0 rfl, bQ.cell 1 rfl, bQ.cell 2 rfl, bQ.cell 3 rfl⟩
        refine wpAnyH_take (i := 7) (oi := { dst := some 12, op := Go.Op.assign (Go.Operand.tmp 34), type := 4, pos := "exact.go:2775", after := #[{ on := 6, ground := Go.Ground.data }, { on := 6, ground := Go.Ground.chain }, { on := 0, ground := Go.Ground.phase }, { on := 1, ground := Go.Ground.phase }, { on := 2, ground := Go.Ground.phase }, { on := 3, ground := Go.Ground.phase }, { on := 4, ground := Go.Ground.phase }, { on := 5, ground := Go.Ground.phase }, { on := 6, ground := Go.Ground.phase }], guard := none }) (v := ?_) rfl (by kernel_rfl) (by kernel_rfl) (by kernel_rfl) (fun _ _ _ h => h) (Or.inl ⟨by rfl, ?_⟩) hS ?_
        rotate_left
        · (intro w hSw; (try dsimp only at hSw); go_split_ands; go_simp) <;> with_reducible rfl
        clear hS
        try simp only [Act.put, List.setIfInBounds_toArray, List.set_cons_zero, List.set_cons_succ]
        refine wpAnyH_done (by kernel_rfl) ?_ _
        go_wp2_with fail
        go_meet
        exact ⟨rfl, HW.out⟩
      case rest =>
        obtain ⟨rfl, hB⟩ := hcut
        replace bX := bX.on hB
        replace bD := bD.on hB
        replace bQ := bQ.on hB
        replace bY := bY.on hB
        replace HP := Lib.hid (HP.out.on hB)
        replace HR := Lib.hid (HR.out.on hB)
        replace HB := Lib.hid (bel_end HB.out hB)
        clear hB
        go_upto_region 10 with fail
        clear bD bQ
        have HW : Hid (Below wc.heap.size wc wc) := Lib.hid (Below.refl _ _)
        refine wp_region_held_drew (S := (fun w' => w'.cell? ⟨w.heap.size, 0, none⟩ = some (.slice a0 zs.length cap0) ∧ w'.cell? ⟨w.heap.size, 1, none⟩ = some (.slice b0 ys.length cap1) ∧ w'.cell? ⟨gy, 0, none⟩ = some (.slice (some ⟨g3, 0, none⟩) zs.length zs.length) ∧ w'.cell? ⟨gy, 1, none⟩ = some (.slice (some ⟨g4, 0, none⟩) ys.length ys.length))) (by kernel_rfl) ?_ (fun hH => ?_)
        · exact (show (fun w' : World => w'.cell? ⟨w.heap.size, 0, none⟩ = some (.slice a0 zs.length cap0) ∧ w'.cell? ⟨w.heap.size, 1, none⟩ = some (.slice b0 ys.length cap1) ∧ w'.cell? ⟨gy, 0, none⟩ = some (.slice (some ⟨g3, 0, none⟩) zs.length zs.length) ∧ w'.cell? ⟨gy, 1, none⟩ = some (.slice (some ⟨g4, 0, none⟩) ys.length ys.length)) wc from ⟨bX.cell 0 rfl, bX.cell 1 rfl, bY.cell 0 rfl, bY.cell 1 rfl⟩)
        clear hH
        generalize hX : World.drew wc = V0
        have bX0 : Bk V0 (w.heap.size) #[.slice a0 zs.length cap0, .slice b0 ys.length cap1] 65 := by rw [← hX]; exact bX
        have bY0 : Bk V0 (gy) #[.slice (some ⟨g3, 0, none⟩) zs.length zs.length, .slice (some ⟨g4, 0, none⟩) ys.length ys.length] 43 := by rw [← hX]; exact bY
        have hb : Below wc.heap.size wc V0 := by rw [← hX]; exact (Below.refl _ _).drew
        clear hX
        replace bX := bX0
        clear bX0
        replace bY := bY0
        clear bY0
        try replace HR5 := Lib.hid (HR5.out.on hb)
        replace HW := Lib.hid (bel_end HW.out hb)
        clear hb
        have hS : (fun w' : World => w'.cell? ⟨w.heap.size, 0, none⟩ = some (.slice a0 zs.length cap0) ∧ w'.cell? ⟨w.heap.size, 1, none⟩ = some (.slice b0 ys.length cap1) ∧ w'.cell? ⟨gy, 0, none⟩ = some (.slice (some ⟨g3, 0, none⟩) zs.length zs.length) ∧ w'.cell? ⟨gy, 1, none⟩ = some (.slice (some ⟨g4, 0, none⟩) ys.length ys.length)) V0 := ⟨bX.cell 0 rfl, bX.cell 1 rfl, bY.cell 0 rfl, bY.cell 1 rfl⟩
        refine wpAnyH_take (i := 0) (oi := { dst := some 38, op := Go.Op.load 43 (Go.Operand.tmp 11), type := 43, pos := "exact.go:2779", after := #[], guard := none }) (v := ?_) rfl (by kernel_rfl) (by kernel_rfl) (by kernel_rfl) (fun _ _ _ h => h) (Or.inl ⟨by rfl, ?_⟩) hS ?_
        rotate_left
        · (intro w hSw; (try dsimp only at hSw); go_split_ands; go_simp) <;> with_reducible rfl
        clear hS
        try simp only [Act.put, List.setIfInBounds_toArray, List.set_cons_zero, List.set_cons_succ]
        have hS : (fun w' : World => w'.cell? ⟨w.heap.size, 0, none⟩ = some (.slice a0 zs.length cap0) ∧ w'.cell? ⟨w.heap.size, 1, none⟩ = some (.slice b0 ys.length cap1) ∧ w'.cell? ⟨gy, 0, none⟩ = some (.slice (some ⟨g3, 0, none⟩) zs.length zs.length) ∧ w'.cell? ⟨gy, 1, none⟩ = some (.slice (some ⟨g4, 0, none⟩) ys.length ys.length)) V0 := ⟨bX.cell 0 rfl, bX.cell 1 rfl, bY.cell 0 rfl, bY.cell 1 rfl⟩
        refine wpAnyH_take (i := 1) (oi := { dst := some 39, op := Go.Op.load 65 (Go.Operand.tmp 4), type := 65, pos := "exact.go:2779", after := #[], guard := none }) (v := ?_) rfl (by kernel_rfl) (by kernel_rfl) (by kernel_rfl) (fun _ _ _ h => h) (Or.inl ⟨by rfl, ?_⟩) hS ?_
        rotate_left
        · (intro w hSw; (try dsimp only at hSw); go_split_ands; go_simp) <;> with_reducible rfl
        clear hS
        try simp only [Act.put, List.setIfInBounds_toArray, List.set_cons_zero, List.set_cons_succ]
        refine wpAnyH_ready (rs := [2]) (by kernel_rfl) (by simp) ?_
        refine AllReadyH.cons (o := { dst := some 40, op := Go.Op.call { callee := Go.Callee.value (Go.Operand.func 47), args := #[Go.Operand.tmp 39], argTypes := #[65] }, type := 43, pos := "exact.go:2779", after := #[{ on := 1, ground := Go.Ground.data }], guard := none }) rfl (fun Kn hK => ?_) AllReadyH.nil
        first | go_at_call 47 | (go_simp; go_at_call 47)
        (refine Calls.mono (top_any _ _ _ _ _ zs ys (HP.out.on HW.out)) ?_)
        rintro e V1 ⟨g5, g6, rfl, hg5, hg6, hr1, hr2, hb⟩
        have HR5 := Lib.hid (Prof.of_rows hr1 hr2 lz ly)
        clear hr1 hr2
        try dsimp only
        try simp only [Act.put, List.setIfInBounds_toArray, List.set_cons_zero, List.set_cons_succ]
        replace bX := bX.on hb
        replace bY := bY.on hb
        try replace HR5 := Lib.hid (HR5.out.on hb)
        replace HW := Lib.hid (bel_end HW.out hb)
        clear hb
        refine hK.out _ _ (show (fun w' : World => w'.cell? ⟨w.heap.size, 0, none⟩ = some (.slice a0 zs.length cap0) ∧ w'.cell? ⟨w.heap.size, 1, none⟩ = some (.slice b0 ys.length cap1) ∧ w'.cell? ⟨gy, 0, none⟩ = some (.slice (some ⟨g3, 0, none⟩) zs.length zs.length) ∧ w'.cell? ⟨gy, 1, none⟩ = some (.slice (some ⟨g4, 0, none⟩) ys.length ys.length)) V1 from ⟨bX.cell 0 rfl, bX.cell 1 rfl, bY.cell 0 rfl, bY.cell 1 rfl⟩) (fun _ => ?_)
        clear hK Kn
        refine wpAnyH_ready (rs := [3]) (by kernel_rfl) (by simp) ?_
        refine AllReadyH.cons (o := { dst := some 41, op := Go.Op.call { callee := Go.Callee.value (Go.Operand.func 50), args := #[Go.Operand.tmp 38, Go.Operand.tmp 40], argTypes := #[43, 43] }, type := 4, pos := "exact.go:2779", after := #[{ on := 0, ground := Go.Ground.data }, { on := 2, ground := Go.Ground.data }, { on := 2, ground := Go.Ground.chain }], guard := none }) rfl (fun Kn hK => ?_) AllReadyH.nil
        first | go_at_call 50 | (go_simp; go_at_call 50)
        refine (eqp_any _ _ _ _ _ _ _ _ _ zs ys zs ys (HR.out.on HW.out) HR5.out).mono ?_
        rw [same_self]
        rintro e V2 ⟨rfl, hb⟩
        try dsimp only
        try simp only [Act.put, List.setIfInBounds_toArray, List.set_cons_zero, List.set_cons_succ]
        replace bX := bX.on hb
        replace bY := bY.on hb
        try replace HR5 := Lib.hid (HR5.out.on hb)
        replace HW := Lib.hid (bel_end HW.out hb)
        clear hb
        refine hK.out _ _ (show (fun w' : World => w'.cell? ⟨w.heap.size, 0, none⟩ = some (.slice a0 zs.length cap0) ∧ w'.cell? ⟨w.heap.size, 1, none⟩ = some (.slice b0 ys.length cap1) ∧ w'.cell? ⟨gy, 0, none⟩ = some (.slice (some ⟨g3, 0, none⟩) zs.length zs.length) ∧ w'.cell? ⟨gy, 1, none⟩ = some (.slice (some ⟨g4, 0, none⟩) ys.length ys.length)) V2 from ⟨bX.cell 0 rfl, bX.cell 1 rfl, bY.cell 0 rfl, bY.cell 1 rfl⟩) (fun _ => ?_)
        clear hK Kn
        have hS : (fun w' : World => w'.cell? ⟨w.heap.size, 0, none⟩ = some (.slice a0 zs.length cap0) ∧ w'.cell? ⟨w.heap.size, 1, none⟩ = some (.slice b0 ys.length cap1) ∧ w'.cell? ⟨gy, 0, none⟩ = some (.slice (some ⟨g3, 0, none⟩) zs.length zs.length) ∧ w'.cell? ⟨gy, 1, none⟩ = some (.slice (some ⟨g4, 0, none⟩) ys.length ys.length)) V2 := ⟨bX.cell 0 rfl, bX.cell 1 rfl, bY.cell 0 rfl, bY.cell 1 rfl⟩
        refine wpAnyH_take (i := 4) (oi := { dst := some 42, op := Go.Op.unOp Go.UnOp.not 4 (Go.Operand.tmp 41), type := 4, pos := "exact.go:2779", after := #[{ on := 3, ground := Go.Ground.data }], guard := none }) (v := ?_) rfl (by kernel_rfl) (by kernel_rfl) (by kernel_rfl) (fun _ _ _ h => h) (Or.inl ⟨by rfl, ?_⟩) hS ?_
        rotate_left
        · (intro w hSw; (try dsimp only at hSw); go_split_ands; go_simp) <;> with_reducible rfl
        clear hS
        try simp only [Act.put, List.setIfInBounds_toArray, List.set_cons_zero, List.set_cons_succ]
        refine wpAnyH_done (by kernel_rfl) ?_ _
        go_wp2
        go_ret
        exact ⟨rfl, bel_end HB.out HW.out⟩
end Go.Proofs.Ythbcllejojnboaa
