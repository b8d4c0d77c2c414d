/- The greatest depth of a ray: the contract of the model's DeepestOf. -/
import Derived.Test.YtaaklnabomhleaaRyE
import Derived.Deep.DrawnRows
import Derived.Deep.QuietTactic
import Derived.BigQuiet
import Derived.StillTailTactics
namespace Go.Proofs.Ytaaklnabomhleaa
open Go.ChangeShapes Go.WideShapes Go.ChangeAt Go.RowKit Go.Shelf Num
set_option linter.unusedVariables false
set_option linter.unusedSimpArgs false
theorem heapC {w w' : World} {B m o : Nat} {v : Value} (h : w.cell? ⟨m, o, none⟩ = some v) (hb : Below B w w') (hm : m < B) : w'.cell? ⟨m, o, none⟩ = some v := (hb.cell (p := ⟨m, o, none⟩) hm).trans h
set_option maxRecDepth 100000 in
set_option maxHeartbeats 16000000 in
theorem sdp_any (w : World) (a b : Option Addr) (ca cb : Nat) (zs ys : List Int) (src c s h n : Int) (hp : Prof w w.heap.size a b zs ys) :
    Calls Try.prog 67 #[.agg #[.slice a zs.length ca, .slice b ys.length cb], .int .i64 src, .agg #[.int .i64 c, .int .i64 s, .int .i64 h], .int .i64 n] w fun e w' => e = .returned (.tuple #[.agg #[.int .i64 (dpT zs ys src c s h n).1, .int .i64 (dpT zs ys src c s h n).2], .int .i64 (tcod zs ys src c s h n)]) ∧ Below w.heap.size w w' := by
  have HP := Lib.hid hp
  have KF : Hid (∀ W : World, Below w.heap.size w W → Calls Try.prog 104 #[.agg #[.slice a zs.length ca, .slice b ys.length cb], .int .i64 src, .agg #[.int .i64 c, .int .i64 s, .int .i64 h], .int .i64 n] W (TrcP W (staC zs ys src.toNat c s h) (evC zs ys src.toNat c s h) (tcod zs ys src c s h n) n.toNat)) := Lib.hid (fun W hb => trc_any W a b ca cb zs ys src c s h n (HP.out.on hb))
  by_cases hq : tcod zs ys src c s h n = 0
  case neg =>
    have H1 : Hid (dpT zs ys src c s h n = (0, 0)) := Lib.hid (by unfold dpT; rw [if_neg hq])
    have HQ := Lib.hid hq
    obtain ⟨q, hqq⟩ : ∃ q, tcod zs ys src c s h n = q := ⟨_, rfl⟩
    rw [hqq] at KF HQ ⊢
    rw [H1.out]
    have hq0 : (q != 0) = true := by have := HQ.out; simpa using this
    clear hqq hq hp
    go_enter Try.func67, Try.ntmps67
    go_wp2_with fail
    generalize hW : World.alloc _ _ = W
    have bR : Bk W (w.heap.size + 1 + 1) #[.int .i64 0, .int .i64 0] 48 := by rw [← hW]; repeat (first | (refine Bk.new' ?_; (simp; done)) | refine Bk.alloc ?_ _)
    have HB : Hid (Below w.heap.size w W) := Lib.hid (by rw [← hW]; exact (by repeat (first | exact Below.refl _ _ | (refine Below.alloc ?_ (by simp <;> omega) _) | (refine Below.setCell ?_ (by simp <;> omega) _) | (refine Below.drew ?_) | (refine bel_drewN ?_ _))))
    clear hW
    (with_reducible refine Calls.mono (KF.out _ HB.out) ?_)
    rintro e w1 hF
    obtain ⟨rfl, hb⟩ : e = .returned (.tuple #[.slice none 0 0, .slice none 0 0, .int .i64 q]) ∧ Below W.heap.size W w1 := by
      rcases hF with ⟨h0, -⟩ | ⟨-, h1, h2⟩
      · exact absurd h0 HQ.out
      · exact ⟨h1, h2⟩
    clear hF
    replace bR := bR.on hb
    replace HB := Lib.hid (bel_end HB.out hb)
    clear hb
    have bR_0 := bR.cell 0 rfl
    have bR_1 := bR.cell 1 rfl
    have bR_f0 := bR.frozen 0
    have bR_f1 := bR.frozen 1
    have bR_l := bR.lt
    go_wp2
    exact bodyPost_ret (v := .tuple #[.agg #[.int .i64 0, .int .i64 0], .int .i64 q]) (by simp [results, Try.results67, go_sem, bR_0, bR_1]) rfl ⟨rfl, (by repeat (first | exact HB.out | (refine Below.setCell ?_ (by simp <;> omega) _) | (refine Below.alloc ?_ (by simp <;> omega) _) | (refine Below.drew ?_)))⟩
  case pos =>
    obtain ⟨i, N, rfl, rfl, hN, r, hok⟩ := tcod_0 hq
    have H1 : Hid (dpT zs ys (i : Int) c s h (N : Int) = dpF zs ys i c h (fst0 i s) N) := Lib.hid (by unfold dpT; rw [if_pos hq]; rfl)
    have HD : Hid (∀ k, k < N → SOk zs ys i c h (runS zs ys i c h (fst0 i s) k) ∧ SOk zs ys i c h (runS zs ys i c h (fst0 i s) (k + 1))) := Lib.hid (fun k hk => ⟨SOk.run r (SOk.first r) (okN_less hok (by omega)), SOk.run r (SOk.first r) (okN_less hok (by omega))⟩)
    have KG : Hid (∀ W : World, Calls Try.prog 105 #[.int .i64 (i : Int), .agg #[.int .i64 c, .int .i64 s, .int .i64 h]] W fun e w' => e = .returned (.agg #[.int .i64 (i : Int), .bool (decide (0 < s)), .int .i64 0, .int .i64 0]) ∧ Below W.heap.size W w') := Lib.hid (fun W => l7f_any W (i : Int) c s h)
    have KL : Hid (∀ (W : World) (k : Nat) (dn : Bool) (lo hi : Int), k < zs.length → Calls Try.prog 120 #[.agg #[.slice a zs.length ca, .slice b ys.length cb], .agg #[.int .i64 (k : Int), .bool dn, .int .i64 lo, .int .i64 hi]] W fun e w' => e = .returned (.tuple #[.int .i64 (lyI k dn), .bool (inP zs.length k dn)]) ∧ Below W.heap.size W w') := Lib.hid (fun W k dn lo hi hk => lly7_any W a b ca cb zs ys k dn lo hi hp.lz hk)
    have KT : Hid (∀ (W : World) (k : Nat) (dn : Bool), k < zs.length → crB ys (i : Int) c h (k : Int) = true → evV zs ys i c h k dn = 2 → Below w.heap.size w W → Calls Try.prog 121 #[.agg #[.slice a zs.length ca, .slice b ys.length cb], .int .i64 (i : Int), .agg #[.int .i64 c, .int .i64 s, .int .i64 h], .int .i64 (lyI k dn), .bool dn] W fun e w' => e = .returned (.tuple #[.agg #[.int .i64 (tdLo zs ys i c h (lk k dn) dn), .int .i64 (tdHi zs ys i c h (lk k dn) dn)], .int .i64 0]) ∧ Below W.heap.size W w') := Lib.hid (fun W k dn hk hcr hv hb => by
      have g := std_any W a b ca cb zs ys (i : Int) c s h (lyI k dn) dn (HP.out.on hb)
      rw [tdF_ok hq hk hcr hv] at g
      exact g)
    have HZ0 : Hid (dpF zs ys i c h (fst0 i s) 0 = (zs.getD i 0, zs.getD i 0)) := Lib.hid rfl
    have HX0 : Hid (runS zs ys i c h (fst0 i s) 0 = ⟨i, decide (0 < s), 0, 0⟩) := Lib.hid rfl
    have hi := r.hi
    obtain ⟨zb, zo, rfl, hzl, hzc⟩ := HP.out.dz (by omega)
    have HZC := Lib.hid hzc
    have HZi := Lib.hid (hzc i hi)
    obtain ⟨z0, hz0⟩ : ∃ x, zs.getD i 0 = x := ⟨_, rfl⟩
    rw [hz0] at HZ0 HZi
    obtain ⟨dd, hdd⟩ : ∃ x, decide (0 < s) = x := ⟨_, rfl⟩
    rw [hdd] at KG HX0
    rw [hq] at KF ⊢
    rw [H1.out]
    rw [Int.toNat_natCast, Int.toNat_natCast] at KF
    have ib : (i : Int) < (zs.length : Int) := by omega
    clear hq hp hok hz0 hdd hzc r
    go_enter Try.func67, Try.ntmps67
    go_wp2_with fail
    generalize hW : World.alloc _ _ = W
    have bP : Bk W (w.heap.size) #[.slice (some ⟨zb, zo, none⟩) zs.length ca, .slice b ys.length cb] 51 := by rw [← hW]; repeat (first | (refine Bk.new' ?_; (simp; done)) | refine Bk.alloc ?_ _)
    have bD : Bk W (w.heap.size + 1) #[.int .i64 c, .int .i64 s, .int .i64 h] 32 := by rw [← hW]; repeat (first | (refine Bk.new' ?_; (simp; done)) | refine Bk.alloc ?_ _)
    have bR : Bk W (w.heap.size + 1 + 1) #[.int .i64 0, .int .i64 0] 48 := by rw [← hW]; repeat (first | (refine Bk.new' ?_; (simp; done)) | refine Bk.alloc ?_ _)
    have HB : Hid (Below w.heap.size w W) := Lib.hid (by rw [← hW]; exact (by repeat (first | exact Below.refl _ _ | (refine Below.alloc ?_ (by simp <;> omega) _) | (refine Below.setCell ?_ (by simp <;> omega) _) | (refine Below.drew ?_) | (refine bel_drewN ?_ _))))
    clear hW
    (with_reducible refine Calls.mono (KF.out _ HB.out) ?_)
    rintro e w1 hF
    obtain ⟨gs, cs, ge0, ce0, rfl, hst, hev⟩ : ∃ gs cs ge ce, e = .returned (.tuple #[.slice (some ⟨gs, 0, none⟩) N cs, .slice (some ⟨ge, 0, none⟩) N ce, .int .i64 0]) ∧ RowG W 61 4 gs cs N (rowL (staC zs ys i c s h) N) w1 ∧ RowG W 2 1 ge ce N (rowL (evC zs ys i c s h) N) w1 := by
      rcases hF with ⟨-, h1⟩ | ⟨h0, -⟩
      · exact h1
      · exact absurd rfl h0
    have HST := Lib.hid hst
    have HEV := Lib.hid hev
    have hb := hst.bel
    replace HB := Lib.hid (bel_end HB.out hb)
    replace bP := bP.on hb
    replace bD := bD.on hb
    replace bR := bR.on hb
    replace HZi := Lib.hid (heapC HZi.out HB.out hzl)
    have bR_l := bR.lt
    clear hF hst hev hb
    go_upto_region 4 with fail
    go_cut [13] (fun sM wx => ∃ g, sM = .pointer (some ⟨g, 0, none⟩) ∧ Bk wx g #[.int .i64 z0, .int .i64 z0] 48 ∧ w1.heap.size ≤ g ∧ g < wx.heap.size ∧ Below w1.heap.size w1 wx)
    case first =>
      have HW : Hid (Below w1.heap.size w1 w1) := Lib.hid (Below.refl _ _)
      obtain ⟨S, hSd⟩ : ∃ S : World → Prop, ∀ w', S w' ↔ (w'.cell? ⟨w.heap.size, 0, none⟩ = some (.slice (some ⟨zb, zo, none⟩) zs.length ca) ∧ w'.cell? ⟨zb, zo + i, none⟩ = some (.int .i64 z0)) := ⟨_, fun _ => Iff.rfl⟩
      have HSp : Hid (∀ w' : World, Bk w' (w.heap.size) #[.slice (some ⟨zb, zo, none⟩) zs.length ca, .slice b ys.length cb] 51 → w'.cell? ⟨zb, zo + i, none⟩ = some (.int .i64 z0) → S w') := Lib.hid (fun w' bP y0 => (hSd w').2 ⟨bP.cell 0 rfl, y0⟩)
      have HSd := Lib.hid hSd
      clear hSd
      refine wp_region_held_drew (S := S) (by kernel_rfl) ?_ (fun hH => ?_)
      · exact (HSp.out _ bP HZi.out : S (World.drew w1))
      clear hH
      generalize hX : World.drew w1 = V0
      replace bP : Bk V0 (w.heap.size) #[.slice (some ⟨zb, zo, none⟩) zs.length ca, .slice b ys.length cb] 51 := by rw [← hX]; exact bP
      have hb : Below w1.heap.size w1 V0 := by rw [← hX]; exact (Below.refl _ _).drew
      clear hX
      replace HZi := Lib.hid (heapC HZi.out hb (by have := HB.out.size; have := HW.out.size; omega))
      replace HW := Lib.hid (bel_end HW.out hb)
      clear hb
      have hS := HSp.out _ bP HZi.out
      refine wpAnyH_take (i := 0) (oi := { dst := some 35, op := Go.Op.fieldAddr 51 (Go.Operand.tmp 4) 0, type := 0, pos := "l07_rays.go:120", after := #[], guard := none }) (v := ?_) rfl (by kernel_rfl) (by kernel_rfl) (by kernel_rfl) (fun _ _ _ h => h) (Or.inl ⟨by rfl, ?_⟩) hS ?_
      rotate_left
      · (intro w hSw; have hSw := (HSd.out w).1 hSw; go_split_ands; go_simp) <;> with_reducible rfl
      clear hS
      try simp only [Act.put, List.setIfInBounds_toArray, List.set_cons_zero, List.set_cons_succ]
      have hS := HSp.out _ bP HZi.out
      refine wpAnyH_take (i := 1) (oi := { dst := some 36, op := Go.Op.load 43 (Go.Operand.tmp 35), type := 43, pos := "l07_rays.go:120", after := #[{ on := 0, ground := Go.Ground.data }], guard := none }) (v := ?_) rfl (by kernel_rfl) (by kernel_rfl) (by kernel_rfl) (fun _ _ _ h => h) (Or.inl ⟨by rfl, ?_⟩) hS ?_
      rotate_left
      · (intro w hSw; have hSw := (HSd.out w).1 hSw; go_split_ands; go_simp) <;> with_reducible rfl
      clear hS
      try simp only [Act.put, List.setIfInBounds_toArray, List.set_cons_zero, List.set_cons_succ]
      have hS := HSp.out _ bP HZi.out
      refine wpAnyH_take (i := 2) (oi := { dst := some 37, op := Go.Op.move (Go.Operand.tmp 1), type := 2, pos := "l07_rays.go:120", after := #[], guard := none }) (v := ?_) rfl (by kernel_rfl) (by kernel_rfl) (by kernel_rfl) (fun _ _ _ h => h) (Or.inl ⟨by rfl, ?_⟩) hS ?_
      rotate_left
      · (intro w hSw; have hSw := (HSd.out w).1 hSw; go_split_ands; go_simp) <;> with_reducible rfl
      clear hS
      try simp only [Act.put, List.setIfInBounds_toArray, List.set_cons_zero, List.set_cons_succ]
      have hS := HSp.out _ bP HZi.out
      refine wpAnyH_take (i := 3) (oi := { dst := some 38, op := Go.Op.indexAddr 43 (Go.Operand.tmp 36) (Go.Operand.tmp 37), type := 0, pos := "l07_rays.go:120", after := #[{ on := 1, ground := Go.Ground.data }, { on := 2, ground := Go.Ground.data }], guard := none }) (v := ?_) rfl (by kernel_rfl) (by kernel_rfl) (by kernel_rfl) (fun _ _ _ h => h) (Or.inl ⟨by rfl, ?_⟩) hS ?_
      rotate_left
      · (intro w hSw; have hSw := (HSd.out w).1 hSw; go_split_ands; go_simp) <;> with_reducible rfl
      clear hS
      try simp only [Act.put, List.setIfInBounds_toArray, List.set_cons_zero, List.set_cons_succ]
      have hS := HSp.out _ bP HZi.out
      refine wpAnyH_take (i := 4) (oi := { dst := some 39, op := Go.Op.load 2 (Go.Operand.tmp 38), type := 2, pos := "l07_rays.go:120", after := #[{ on := 3, ground := Go.Ground.data }], guard := none }) (v := ?_) rfl (by kernel_rfl) (by kernel_rfl) (by kernel_rfl) (fun _ _ _ h => h) (Or.inl ⟨by rfl, ?_⟩) hS ?_
      rotate_left
      · (intro w hSw; have hSw := (HSd.out w).1 hSw; go_split_ands; go_simp) <;> with_reducible rfl
      clear hS
      try simp only [Act.put, List.setIfInBounds_toArray, List.set_cons_zero, List.set_cons_succ]
      have hS := HSp.out _ bP HZi.out
      refine wpAnyH_take (i := 5) (oi := { dst := some 40, op := Go.Op.fieldAddr 51 (Go.Operand.tmp 4) 0, type := 0, pos := "l07_rays.go:120", after := #[], guard := none }) (v := ?_) rfl (by kernel_rfl) (by kernel_rfl) (by kernel_rfl) (fun _ _ _ h => h) (Or.inl ⟨by rfl, ?_⟩) hS ?_
      rotate_left
      · (intro w hSw; have hSw := (HSd.out w).1 hSw; go_split_ands; go_simp) <;> with_reducible rfl
      clear hS
      try simp only [Act.put, List.setIfInBounds_toArray, List.set_cons_zero, List.set_cons_succ]
      have hS := HSp.out _ bP HZi.out
      refine wpAnyH_take (i := 6) (oi := { dst := some 41, op := Go.Op.load 43 (Go.Operand.tmp 40), type := 43, pos := "l07_rays.go:120", after := #[{ on := 5, ground := Go.Ground.data }], guard := none }) (v := ?_) rfl (by kernel_rfl) (by kernel_rfl) (by kernel_rfl) (fun _ _ _ h => h) (Or.inl ⟨by rfl, ?_⟩) hS ?_
      rotate_left
      · (intro w hSw; have hSw := (HSd.out w).1 hSw; go_split_ands; go_simp) <;> with_reducible rfl
      clear hS
      try simp only [Act.put, List.setIfInBounds_toArray, List.set_cons_zero, List.set_cons_succ]
      have hS := HSp.out _ bP HZi.out
      refine wpAnyH_take (i := 7) (oi := { dst := some 42, op := Go.Op.move (Go.Operand.tmp 1), type := 2, pos := "l07_rays.go:120", after := #[], guard := none }) (v := ?_) rfl (by kernel_rfl) (by kernel_rfl) (by kernel_rfl) (fun _ _ _ h => h) (Or.inl ⟨by rfl, ?_⟩) hS ?_
      rotate_left
      · (intro w hSw; have hSw := (HSd.out w).1 hSw; go_split_ands; go_simp) <;> with_reducible rfl
      clear hS
      try simp only [Act.put, List.setIfInBounds_toArray, List.set_cons_zero, List.set_cons_succ]
      have hS := HSp.out _ bP HZi.out
      refine wpAnyH_take (i := 8) (oi := { dst := some 43, op := Go.Op.indexAddr 43 (Go.Operand.tmp 41) (Go.Operand.tmp 42), type := 0, pos := "l07_rays.go:120", after := #[{ on := 6, ground := Go.Ground.data }, { on := 7, ground := Go.Ground.data }], guard := none }) (v := ?_) rfl (by kernel_rfl) (by kernel_rfl) (by kernel_rfl) (fun _ _ _ h => h) (Or.inl ⟨by rfl, ?_⟩) hS ?_
      rotate_left
      · (intro w hSw; have hSw := (HSd.out w).1 hSw; go_split_ands; go_simp) <;> with_reducible rfl
      clear hS
      try simp only [Act.put, List.setIfInBounds_toArray, List.set_cons_zero, List.set_cons_succ]
      have hS := HSp.out _ bP HZi.out
      refine wpAnyH_take (i := 9) (oi := { dst := some 44, op := Go.Op.load 2 (Go.Operand.tmp 43), type := 2, pos := "l07_rays.go:120", after := #[{ on := 8, ground := Go.Ground.data }], guard := none }) (v := ?_) rfl (by kernel_rfl) (by kernel_rfl) (by kernel_rfl) (fun _ _ _ h => h) (Or.inl ⟨by rfl, ?_⟩) hS ?_
      rotate_left
      · (intro w hSw; have hSw := (HSd.out w).1 hSw; go_split_ands; go_simp) <;> with_reducible rfl
      clear hS
      try simp only [Act.put, List.setIfInBounds_toArray, List.set_cons_zero, List.set_cons_succ]
      have hS := HSp.out _ bP HZi.out
      refine wpAnyH_take (i := 10) (oi := { dst := some 45, op := Go.Op.build 48 #[(0, Go.Operand.tmp 39), (1, Go.Operand.tmp 44)], type := 48, pos := "l07_rays.go:120", after := #[{ on := 4, ground := Go.Ground.data }, { on := 9, ground := Go.Ground.data }], guard := none }) (v := ?_) rfl (by kernel_rfl) (by kernel_rfl) (by kernel_rfl) (fun _ _ _ h => h) (Or.inl ⟨by rfl, ?_⟩) hS ?_
      rotate_left
      · (intro w hSw; have hSw := (HSd.out w).1 hSw; go_split_ands; go_simp) <;> with_reducible rfl
      clear hS
      try simp only [Act.put, List.setIfInBounds_toArray, List.set_cons_zero, List.set_cons_succ]
      refine wpAnyH_ready (rs := [11]) (by kernel_rfl) (by simp) ?_
      refine AllReadyH.cons (o := { dst := some 13, op := Go.Op.alloc 48, type := 0, pos := "l07_rays.go:120", after := #[], guard := none }) rfl (fun Kn hK => ?_) AllReadyH.nil
      go_simp
      generalize hX : World.alloc V0 _ = V1
      obtain ⟨g11, hg⟩ : ∃ g, g = V0.heap.size := ⟨_, rfl⟩
      have bn11 : Bk V1 g11 #[.int .i64 0, .int .i64 0] 48 := by rw [← hX]; exact Bk.new' hg
      have le11 : w1.heap.size ≤ g11 := by rw [hg]; exact HW.out.size
      have nebP_11 : w.heap.size ≠ g11 := by have := bP.lt; omega
      replace bP : Bk V1 (w.heap.size) #[.slice (some ⟨zb, zo, none⟩) zs.length ca, .slice b ys.length cb] 51 := by rw [← hX]; exact bP.alloc _
      try rw [← hg]
      have hb : Below V0.heap.size V0 V1 := by rw [← hX]; exact (Below.refl _ _).alloc (Nat.le_refl _) _
      clear hX hg
      replace HZi := Lib.hid (heapC HZi.out hb (by have := HB.out.size; have := HW.out.size; omega))
      replace HW := Lib.hid (bel_end HW.out hb)
      clear hb
      refine hK.out _ _ (HSp.out _ bP HZi.out) (fun _ => ?_)
      clear hK Kn
      refine wpAnyH_ready (rs := [12]) (by kernel_rfl) (by simp) ?_
      refine AllReadyH.cons (o := { dst := none, op := Go.Op.store 48 (Go.Operand.tmp 13) (Go.Operand.tmp 45), type := 0, pos := "l07_rays.go:120", after := #[{ on := 11, ground := Go.Ground.data }, { on := 10, ground := Go.Ground.data }, { on := 0, ground := Go.Ground.phase }, { on := 1, ground := Go.Ground.phase }, { on := 2, ground := Go.Ground.phase }, { on := 3, ground := Go.Ground.phase }, { on := 4, ground := Go.Ground.phase }, { on := 5, ground := Go.Ground.phase }, { on := 6, ground := Go.Ground.phase }, { on := 7, ground := Go.Ground.phase }, { on := 8, ground := Go.Ground.phase }, { on := 9, ground := Go.Ground.phase }, { on := 10, ground := Go.Ground.phase }, { on := 11, ground := Go.Ground.phase }], guard := none }) rfl (fun Kn hK => ?_) AllReadyH.nil
      have bn11_0 := bn11.cell 0 rfl
      have bn11_1 := bn11.cell 1 rfl
      have bn11_f0 := bn11.frozen 0
      have bn11_f1 := bn11.frozen 1
      have bn11_l := bn11.lt
      go_simp
      clear bn11_0 bn11_f0 bn11_1 bn11_f1 bn11_l
      generalize hX : World.setCell _ _ _ = V2
      have hb : Below w1.heap.size w1 V2 := by rw [← hX]; exact ((HW.out.setCell (p := ⟨g11, 0, none⟩) le11 _).setCell (p := ⟨g11, 1, none⟩) le11 _)
      have hzg : ¬ zb = g11 := by have := le11; have := HB.out.size; omega
      have HZ2 : Hid (World.cell? V2 ⟨zb, zo + i, none⟩ = some (.int .i64 z0)) := Lib.hid (by rw [← hX]; simp [HZi.out, hzg, go_sem])
      clear HZi
      have HZi := HZ2
      clear HZ2
      replace bP : Bk V2 (w.heap.size) #[.slice (some ⟨zb, zo, none⟩) zs.length ca, .slice b ys.length cb] 51 := by rw [← hX]; exact (Bk.other (Bk.other bP nebP_11 0 _) nebP_11 1 _)
      replace bn11 : Bk V2 (g11) #[.int .i64 z0, .int .i64 z0] 48 := by rw [← hX]; exact (Bk.set (Bk.set bn11 0 _ rfl) 1 _ rfl)
      clear hX
      replace HW := Lib.hid hb
      clear hb
      refine hK.out _ _ (HSp.out _ bP HZi.out) (fun _ => ?_)
      clear hK Kn
      refine wpAnyH_done (by kernel_rfl) ?_ _
      go_wp2_with fail
      go_meet
      exact ⟨_, rfl, bn11, le11, bn11.lt, HW.out⟩
    case rest =>
      obtain ⟨gM, rfl, bM, leM, ltM, hb⟩ := hcut
      obtain ⟨w2, hwc⟩ : ∃ X, X = wc := ⟨_, rfl⟩
      rw [← hwc] at bM ltM hb ⊢
      clear hwc
      have HB1 := Lib.hid hb
      have bP1 := Lib.hid bP
      have bD1 := Lib.hid bD
      have bR1 := Lib.hid bR
      replace bD := bD.on hb
      have bD_0 := bD.cell 0 rfl
      have bD_1 := bD.cell 1 rfl
      have bD_2 := bD.cell 2 rfl
      have bD_l := bD.lt
      clear hb HZi
      go_wp2_with fail
      (with_reducible refine Calls.mono (KG.out _) ?_)
      rintro e w3 ⟨rfl, hb⟩
      replace HB1 := Lib.hid (bel_end HB1.out hb)
      replace bM := bM.on hb
      have ltM3 := hb.size
      clear hb bD_0 bD_1 bD_2 bD_l
      go_upto_region 6 with fail
      generalize hW : World.alloc _ _ = W4
      obtain ⟨gX, hg⟩ : ∃ g, g = w3.heap.size := ⟨_, rfl⟩
      have bX : Bk W4 gX #[.int .i64 (i : Int), .bool dd, .int .i64 0, .int .i64 0] 61 := by rw [← hW]; exact Bk.new' hg
      have hb : Below w3.heap.size w3 W4 := by rw [← hW]; exact (Below.refl _ _).alloc (Nat.le_refl _) _
      try rw [← hg]
      have hMX : ¬ gM = gX := by omega
      have hXM : ¬ gX = gM := by omega
      have leX : w1.heap.size ≤ gX := by have := HB1.out.size; omega
      replace HB1 := Lib.hid (bel_end HB1.out hb)
      replace bM := bM.on hb
      have BM := Lib.hid bM
      have BX := Lib.hid bX
      clear hW hb hg bM bX bP bD bR
      go_wp2_with fail
      go_loopw [15] (fun x wr => ∃ k : Nat, x = .int .i64 (k : Int) ∧ k ≤ N ∧ Below w1.heap.size w1 wr ∧ Bk wr gM #[.int .i64 (dpF zs ys i c h (fst0 i s) k).1, .int .i64 (dpF zs ys i c h (fst0 i s) k).2] 48 ∧ Bk wr gX #[.int .i64 ((runS zs ys i c h (fst0 i s) k).k : Int), .bool (runS zs ys i c h (fst0 i s) k).dn, .int .i64 (runS zs ys i c h (fst0 i s) k).lo, .int .i64 (runS zs ys i c h (fst0 i s) k).hi] 61) (fun x _ => N - (intOf x).toNat)
      case atStart => exact ⟨0, rfl, by omega, HB1.out, by rw [HZ0.out]; exact BM.out, by rw [HX0.out]; exact BX.out⟩
      case round =>
        obtain ⟨k, rfl, hk, hb, bM, bX⟩ := hrel
        replace HB1 := Lib.hid hb
        have HBW := Lib.hid (bel_end HB.out hb)
        have bR := bR1.out.on hb
        have bP := bP1.out.on hb
        have bD := bD1.out.on hb
        have HS := Lib.hid (HST.out.on hb)
        have HE := Lib.hid (HEV.out.on hb)
        clear hb BM BX
        obtain ⟨⟨A, B⟩, hAB⟩ : ∃ x, dpF zs ys i c h (fst0 i s) k = x := ⟨_, rfl⟩
        rw [hAB] at bM
        dsimp only at bM
        have HAB := Lib.hid hAB
        clear hAB
        have bM_0 := bM.cell 0 rfl
        have bM_1 := bM.cell 1 rfl
        by_cases hkN : k < N
        case neg =>
          have EK : k = N := by omega
          subst EK
          have hkk : ¬ (k : Int) < (k : Int) := by omega
          have bR_0 := bR.cell 0 rfl
          have bR_1 := bR.cell 1 rfl
          have bR_f0 := bR.frozen 0
          have bR_f1 := bR.frozen 1
          clear hkN hk HS HE
          go_wp2
          exact bodyPost_ret (v := .tuple #[.agg #[.int .i64 A, .int .i64 B], .int .i64 0]) (by simp [results, Try.results67, go_sem, bR_0, bR_1]) rfl ⟨by rw [HAB.out], (by repeat (first | exact HBW.out | (refine Below.setCell ?_ (by simp <;> omega) _) | (refine Below.alloc ?_ (by simp <;> omega) _) | (refine Below.drew ?_)))⟩
        case pos =>
          obtain ⟨o1, o2⟩ := HD.out k hkN
          have HDF := Lib.hid (dpF_succ zs ys i c h (fst0 i s) k)
          have hge := dp_ge zs ys i c h (fst0 i s) k
          rw [HAB.out] at HDF hge
          dsimp only at HDF hge
          have hNN : runS zs ys i c h (fst0 i s) (k + 1) = nxt zs ys i c h (runS zs ys i c h (fst0 i s) k) := rfl
          have hEE : evC zs ys i c s h k = [.int .i64 (evV zs ys i c h (runS zs ys i c h (fst0 i s) k).k (runS zs ys i c h (fst0 i s) k).dn)] := rfl
          unfold dpA dpB at HDF
          rw [← hNN] at HDF
          obtain ⟨⟨k2, d2, l2, h2⟩, hN2⟩ : ∃ x, runS zs ys i c h (fst0 i s) (k + 1) = x := ⟨_, rfl⟩
          have HE5 : Hid (staC zs ys i c s h k = [.int .i64 (k2 : Int), .bool d2, .int .i64 l2, .int .i64 h2]) := Lib.hid (by unfold staC; rw [hN2])
          have HN2 := Lib.hid hN2
          rw [hN2] at HDF hNN o2
          obtain ⟨⟨k1, d1, l1, h1⟩, hN1⟩ : ∃ x, runS zs ys i c h (fst0 i s) k = x := ⟨_, rfl⟩
          rw [hN1] at HDF hNN hge hEE bX o1
          dsimp only at HDF hge hEE bX
          have hk1 := o1.kl
          have hcr1 := o1.cr
          have hk2 := o2.kl
          dsimp only at hk1 hcr1 hk2
          obtain ⟨E, hE⟩ : ∃ x, evV zs ys i c h k1 d1 = x := ⟨_, rfl⟩
          rw [hE] at HDF hEE
          have HEE := Lib.hid hEE
          have HEV2 := Lib.hid hE
          have kz := heapC (HZC.out k2 hk2) HBW.out hzl
          obtain ⟨z2, hz2⟩ : ∃ x, zs.getD k2 0 = x := ⟨_, rfl⟩
          rw [hz2] at kz HDF
          have y0 := HS.out.cell (staC_len _ _ _ _ _ _) hkN (show 0 < 4 by omega) (show (staC zs ys i c s h k)[0]? = some _ from by rw [HE5.out]; rfl)
          have y1 := HS.out.cell (staC_len _ _ _ _ _ _) hkN (show 1 < 4 by omega) (show (staC zs ys i c s h k)[1]? = some _ from by rw [HE5.out]; rfl)
          have y2 := HS.out.cell (staC_len _ _ _ _ _ _) hkN (show 2 < 4 by omega) (show (staC zs ys i c s h k)[2]? = some _ from by rw [HE5.out]; rfl)
          have y3 := HS.out.cell (staC_len _ _ _ _ _ _) hkN (show 3 < 4 by omega) (show (staC zs ys i c s h k)[3]? = some _ from by rw [HE5.out]; rfl)
          rw [Nat.add_zero] at y0
          have yl := HS.out.up
          have x0 := HE.out.cell (evC_len _ _ _ _ _ _) hkN (show 0 < 1 by omega) (show (evC zs ys i c s h k)[0]? = some _ from by rw [HEE.out]; rfl)
          rw [Nat.add_zero, Nat.mul_one] at x0
          have x0l := HE.out.up
          have ik : (k : Int) < (N : Int) := by omega
          have ik2 : (k2 : Int) < (zs.length : Int) := by omega
          have bP_0 := bP.cell 0 rfl
          have bP_l := bP.lt
          have hzl2 : zb < wr.heap.size := by have := HBW.out.size; omega
          clear hE hN2 hEE o1 o2 HS HE bM_0 bM_1
          go_wp2_with fail
          go_quiet (fail)
          obtain ⟨W5, hW5⟩ : ∃ W, W = World.drewN wr nq := ⟨_, rfl⟩
          have hb : Below wr.heap.size wr W5 := by rw [hW5]; exact bel_drewN (Below.refl _ _) _
          rw [← hW5]
          replace bM := bM.on hb
          replace bX := bX.on hb
          replace bP := bP.on hb
          replace bD := bD.on hb
          replace HB1 := Lib.hid (bel_end HB1.out hb)
          replace HBW := Lib.hid (bel_end HBW.out hb)
          replace x0 := (hb.cell (p := ⟨ge0, k, none⟩) x0l).trans x0
          have hs5 := hb.size
          clear hW5 hb y0 y1 y2 y3 yl kz bP_0 bP_l bR
          go_upto_region 11 with fail
          generalize hW : World.alloc _ _ = W6
          obtain ⟨gN, hg⟩ : ∃ g, g = W5.heap.size := ⟨_, rfl⟩
          have bN : Bk W6 gN #[.int .i64 z2, .int .i64 z2] 48 := by rw [← hW]; exact Bk.new' hg
          have hb : Below W5.heap.size W5 W6 := by rw [← hW]; exact (Below.refl _ _).alloc (Nat.le_refl _) _
          try rw [← hg]
          have bM_l := bM.lt
          have bX_l := bX.lt
          have hMN : ¬ gM = gN := by omega
          have hNM : ¬ gN = gM := by omega
          have hXN : ¬ gX = gN := by omega
          have hNX : ¬ gN = gX := by omega
          have leN : w1.heap.size ≤ gN := by have := HB1.out.size; omega
          replace bM := bM.on hb
          replace bX := bX.on hb
          replace bP := bP.on hb
          replace bD := bD.on hb
          replace HB1 := Lib.hid (bel_end HB1.out hb)
          replace HBW := Lib.hid (bel_end HBW.out hb)
          replace x0 := (hb.cell (p := ⟨ge0, k, none⟩) (Nat.lt_of_lt_of_le x0l hs5)).trans x0
          have x0l2 : ge0 < W6.heap.size := by have := hb.size; have := x0l; have := hs5; omega
          clear hW hb hg
          by_cases hv : E = 2
          case pos =>
            subst hv
            have hk12 : k2 = k1 := by have g := nxt_2 (zs := zs) (ys := ys) (i := i) (c := c) (h := h) (x := ⟨k1, d1, l1, h1⟩) HEV2.out; rw [← hNN] at g; exact g
            rw [← hk12, hz2] at hge
            rw [if_pos rfl, if_pos rfl] at HDF
            have KT2 := Lib.hid (fun (W : World) (hb : Below w.heap.size w W) => KT.out W k1 d1 hk1 hcr1 HEV2.out hb)
            obtain ⟨P, hP⟩ : ∃ x, tdLo zs ys i c h (lk k1 d1) d1 = x := ⟨_, rfl⟩
            obtain ⟨Q, hQ⟩ : ∃ x, tdHi zs ys i c h (lk k1 d1) d1 = x := ⟨_, rfl⟩
            rw [hP, hQ] at HDF KT2
            have hg1 := hge.1
            have hg2 := hge.2
            have hN1c := hN1
            clear hP hQ hge KT hNN hN1 hk12 hz2
            have bX_0 := bX.cell 0 rfl
            have bX_1 := bX.cell 1 rfl
            have bX_2 := bX.cell 2 rfl
            have bX_3 := bX.cell 3 rfl
            have bP_0 := bP.cell 0 rfl
            have bP_1 := bP.cell 1 rfl
            have bP_l := bP.lt
            go_wp2_with fail
            (with_reducible refine Calls.mono (KL.out _ k1 d1 l1 h1 hk1) ?_)
            rintro e w7 ⟨rfl, hb⟩
            clear bX_0 bX_1 bX_2 bX_3
            clear bP_0 bP_1 bP_l
            clear bM_l bX_l
            replace bM := bM.on hb
            replace bX := bX.on hb
            replace bP := bP.on hb
            replace bD := bD.on hb
            replace bN := bN.on hb
            replace HB1 := Lib.hid (bel_end HB1.out hb)
            replace HBW := Lib.hid (bel_end HBW.out hb)
            clear hb x0 x0l2
            obtain ⟨ip, hip⟩ : ∃ x, inP zs.length k1 d1 = x := ⟨_, rfl⟩
            rw [hip]
            clear hip
            obtain ⟨li, hli⟩ : ∃ x, lyI k1 d1 = x := ⟨_, rfl⟩
            rw [hli] at KT2 ⊢
            clear hli
            have bX_0 := bX.cell 0 rfl
            have bX_1 := bX.cell 1 rfl
            have bX_2 := bX.cell 2 rfl
            have bX_3 := bX.cell 3 rfl
            have bX_l := bX.lt
            have bP_0 := bP.cell 0 rfl
            have bP_1 := bP.cell 1 rfl
            have bP_l := bP.lt
            have bD_0 := bD.cell 0 rfl
            have bD_1 := bD.cell 1 rfl
            have bD_2 := bD.cell 2 rfl
            have bD_l := bD.lt
            go_wp2_with fail
            (with_reducible refine Calls.mono (KT2.out _ HBW.out) ?_)
            rintro e w8 ⟨rfl, hb⟩
            clear bX_0 bX_1 bX_2 bX_3 bX_l
            clear bP_0 bP_1 bP_l
            clear bD_0 bD_1 bD_2 bD_l
            replace bM := bM.on hb
            replace bX := bX.on hb
            replace bN := bN.on hb
            replace HB1 := Lib.hid (bel_end HB1.out hb)
            replace HBW := Lib.hid (bel_end HBW.out hb)
            clear hb bP bD
            have bM_l := bM.lt
            have bX_l := bX.lt
            have bN_l := bN.lt
            go_upto_region 14 with fail
            generalize hW : World.alloc _ _ = W9
            obtain ⟨gT, hg⟩ : ∃ g, g = w8.heap.size := ⟨_, rfl⟩
            have bT : Bk W9 gT #[.int .i64 P, .int .i64 Q] 48 := by rw [← hW]; exact Bk.new' hg
            have hb : Below w8.heap.size w8 W9 := by rw [← hW]; exact (Below.refl _ _).alloc (Nat.le_refl _) _
            try rw [← hg]
            have hNT : ¬ gN = gT := by omega
            have hTN : ¬ gT = gN := by omega
            clear bN_l
            replace bM := bM.on hb
            replace bX := bX.on hb
            replace bN := bN.on hb
            replace HB1 := Lib.hid (bel_end HB1.out hb)
            replace HBW := Lib.hid (bel_end HBW.out hb)
            clear hW hb hg
            have bN_0 := bN.cell 0 rfl
            have bN_1 := bN.cell 1 rfl
            have bN_f0 := bN.frozen 0
            have bN_f1 := bN.frozen 1
            have bN_l := bN.lt
            have bT_0 := bT.cell 0 rfl
            have bT_1 := bT.cell 1 rfl
            have bT_l := bT.lt
            go_upto_region 15 with fail
            generalize hW : World.setCell _ _ _ = W10
            have hb : Below w1.heap.size w1 W10 := by rw [← hW]; exact bel_set2 HB1.out leN
            have bN2 : Bk W10 gN #[.int .i64 (mx z2 P), .int .i64 (mx z2 Q)] 48 := by rw [← hW]; exact blk_set2 bN
            replace bM : Bk W10 gM #[.int .i64 A, .int .i64 B] 48 := by rw [← hW]; exact (bM.other hMN _ _).other hMN _ _
            replace bX : Bk W10 gX #[.int .i64 (k1 : Int), .bool d1, .int .i64 l1, .int .i64 h1] 61 := by rw [← hW]; exact (bX.other hXN _ _).other hXN _ _
            clear bN_0 bN_1 bN_f0 bN_f1 bN_l
            clear bT_0 bT_1 bT_l
            replace HB1 := Lib.hid hb
            clear hW hb bN bT
            have bN := bN2
            clear bN2
            obtain ⟨mP, hmP⟩ : ∃ x, mx z2 P = x := ⟨_, rfl⟩
            obtain ⟨mQ, hmQ⟩ : ∃ x, mx z2 Q = x := ⟨_, rfl⟩
            rw [hmP, hmQ] at bN
            have HMP : Hid (mx A P = mx A mP) := Lib.hid (by rw [← hmP]; exact (mx_mx P hg1).symm)
            have HMQ : Hid (mx B Q = mx B mQ) := Lib.hid (by rw [← hmQ]; exact (mx_mx Q hg2).symm)
            first | rw [show (if z2 < P then P else z2) = mP from hmP, show (if z2 < Q then Q else z2) = mQ from hmQ] | skip
            clear hmP hmQ hg1 hg2
            clear bM_l bX_l
            have bM_0 := bM.cell 0 rfl
            have bM_1 := bM.cell 1 rfl
            have bM_f0 := bM.frozen 0
            have bM_f1 := bM.frozen 1
            have bM_l := bM.lt
            have bN_0 := bN.cell 0 rfl
            have bN_1 := bN.cell 1 rfl
            have bN_l := bN.lt
            go_upto_region 16 with fail
            generalize hW : World.setCell _ _ _ = W11
            have hb : Below w1.heap.size w1 W11 := by rw [← hW]; exact bel_set2 HB1.out leM
            have bM2 : Bk W11 gM #[.int .i64 (mx A P), .int .i64 (mx B Q)] 48 := by rw [← hW, HMP.out, HMQ.out]; exact blk_set2 bM
            replace bX : Bk W11 gX #[.int .i64 (k1 : Int), .bool d1, .int .i64 l1, .int .i64 h1] 61 := by rw [← hW]; exact (bX.other hXM _ _).other hXM _ _
            clear bM_0 bM_1 bM_f0 bM_f1 bM_l
            clear bN_0 bN_1 bN_l
            replace HB1 := Lib.hid hb
            clear hW hb bM bN
            have HS := Lib.hid (HST.out.on HB1.out)
            have y0 := HS.out.cell (staC_len _ _ _ _ _ _) hkN (show 0 < 4 by omega) (show (staC zs ys i c s h k)[0]? = some _ from by rw [HE5.out]; rfl)
            have y1 := HS.out.cell (staC_len _ _ _ _ _ _) hkN (show 1 < 4 by omega) (show (staC zs ys i c s h k)[1]? = some _ from by rw [HE5.out]; rfl)
            have y2 := HS.out.cell (staC_len _ _ _ _ _ _) hkN (show 2 < 4 by omega) (show (staC zs ys i c s h k)[2]? = some _ from by rw [HE5.out]; rfl)
            have y3 := HS.out.cell (staC_len _ _ _ _ _ _) hkN (show 3 < 4 by omega) (show (staC zs ys i c s h k)[3]? = some _ from by rw [HE5.out]; rfl)
            rw [Nat.add_zero] at y0
            have yl := HS.out.up
            have bX_0 := bX.cell 0 rfl
            have bX_1 := bX.cell 1 rfl
            have bX_2 := bX.cell 2 rfl
            have bX_3 := bX.cell 3 rfl
            have bX_f0 := bX.frozen 0
            have bX_f1 := bX.frozen 1
            have bX_f2 := bX.frozen 2
            have bX_f3 := bX.frozen 3
            have bX_l := bX.lt
            go_wp2
            go_roundw
            (case rel => exact ⟨k + 1, by go_num, by omega, (((HB1.out.setCell (p := ⟨gX, 0, none⟩) leX _).setCell (p := ⟨gX, 1, none⟩) leX _).setCell (p := ⟨gX, 2, none⟩) leX _).setCell (p := ⟨gX, 3, none⟩) leX _, by rw [HDF.out]; exact (((bM2.other hMX _ _).other hMX _ _).other hMX _ _).other hMX _ _, by rw [HN2.out]; exact (((bX.set 0 _ rfl).set 1 _ rfl).set 2 _ rfl).set 3 _ rfl⟩)
            (case measure => simp [intOf]; omega)
          case neg =>
            have hvB : (E == 2) = false := by simpa using hv
            rw [if_neg hv, if_neg hv] at HDF
            obtain ⟨P, hP⟩ : ∃ x, z2 = x := ⟨_, rfl⟩
            obtain ⟨Q, hQ⟩ : ∃ x, z2 = x := ⟨_, rfl⟩
            have HPQ : Hid (P = z2 ∧ Q = z2) := Lib.hid ⟨hP.symm, hQ.symm⟩
            replace HDF : Hid (dpF zs ys i c h (fst0 i s) (k + 1) = (mx A P, mx B Q)) := Lib.hid (by rw [HPQ.out.1, HPQ.out.2]; exact HDF.out)
            clear hP hQ hge KT KL hNN hN1 hz2 hv bP bD
            clear bM_l bX_l
            have bM_0 := bM.cell 0 rfl
            have bM_1 := bM.cell 1 rfl
            have bM_f0 := bM.frozen 0
            have bM_f1 := bM.frozen 1
            have bM_l := bM.lt
            have bN_0 := bN.cell 0 rfl
            have bN_1 := bN.cell 1 rfl
            have bN_l := bN.lt
            go_upto_region 16 with fail
            generalize hW : World.setCell _ _ _ = W11
            have hb : Below w1.heap.size w1 W11 := by rw [← hW]; exact bel_set2 HB1.out leM
            have bM2 : Bk W11 gM #[.int .i64 (mx A P), .int .i64 (mx B Q)] 48 := by rw [← hW, HPQ.out.1, HPQ.out.2]; exact blk_set2 bM
            replace bX : Bk W11 gX #[.int .i64 (k1 : Int), .bool d1, .int .i64 l1, .int .i64 h1] 61 := by rw [← hW]; exact (bX.other hXM _ _).other hXM _ _
            clear bM_0 bM_1 bM_f0 bM_f1 bM_l
            clear bN_0 bN_1 bN_l
            replace HB1 := Lib.hid hb
            clear hW hb bM bN
            have HS := Lib.hid (HST.out.on HB1.out)
            have y0 := HS.out.cell (staC_len _ _ _ _ _ _) hkN (show 0 < 4 by omega) (show (staC zs ys i c s h k)[0]? = some _ from by rw [HE5.out]; rfl)
            have y1 := HS.out.cell (staC_len _ _ _ _ _ _) hkN (show 1 < 4 by omega) (show (staC zs ys i c s h k)[1]? = some _ from by rw [HE5.out]; rfl)
            have y2 := HS.out.cell (staC_len _ _ _ _ _ _) hkN (show 2 < 4 by omega) (show (staC zs ys i c s h k)[2]? = some _ from by rw [HE5.out]; rfl)
            have y3 := HS.out.cell (staC_len _ _ _ _ _ _) hkN (show 3 < 4 by omega) (show (staC zs ys i c s h k)[3]? = some _ from by rw [HE5.out]; rfl)
            rw [Nat.add_zero] at y0
            have yl := HS.out.up
            have bX_0 := bX.cell 0 rfl
            have bX_1 := bX.cell 1 rfl
            have bX_2 := bX.cell 2 rfl
            have bX_3 := bX.cell 3 rfl
            have bX_f0 := bX.frozen 0
            have bX_f1 := bX.frozen 1
            have bX_f2 := bX.frozen 2
            have bX_f3 := bX.frozen 3
            have bX_l := bX.lt
            go_wp2
            go_roundw
            (case rel => exact ⟨k + 1, by go_num, by omega, (((HB1.out.setCell (p := ⟨gX, 0, none⟩) leX _).setCell (p := ⟨gX, 1, none⟩) leX _).setCell (p := ⟨gX, 2, none⟩) leX _).setCell (p := ⟨gX, 3, none⟩) leX _, by rw [HDF.out]; exact (((bM2.other hMX _ _).other hMX _ _).other hMX _ _).other hMX _ _, by rw [HN2.out]; exact (((bX.set 0 _ rfl).set 1 _ rfl).set 2 _ rfl).set 3 _ rfl⟩)
            (case measure => simp [intOf]; omega)
end Go.Proofs.Ytaaklnabomhleaa
