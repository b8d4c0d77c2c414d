/- Contracts of DelaysOf and DelayErrors, the program's and the model's. -/
import Derived.Test.YthfaejhiabdkbaaBmC
import Derived.Deep.RegionHeld3
namespace Go.Proofs.Ythfaejhiabdkbaa
open Go.ChangeShapes Go.WideShapes Go.ChangeAt Go.RowKit Go.Shelf Num
set_option linter.unusedVariables false
set_option linter.unusedSimpArgs false

set_option maxRecDepth 100000 in
set_option maxHeartbeats 8000000 in
theorem idl11_any (w : World) (a : Option Addr) (cap : Nat) (zs : List Int) (c s h r v : Int) (hl : zs.length ≤ 1048576) (hz : Ints .i64 w w.heap.size a zs) :
    Calls Try.prog 15 #[.slice a zs.length cap, .agg #[.int .i64 c, .int .i64 s, .int .i64 h], .int .i64 r, .int .i64 v] w fun e w' => ∃ (a' : Option Addr) (c' : Nat), e = .returned (.tuple #[.slice a' (dlR zs c s h r v).length c', .int .i64 (arC zs c s h r v)]) ∧ OwnA w' w.heap.size w'.heap.size a' c' (dlR zs c s h r v) ∧ Below w.heap.size w w' := by
  have HZ := Lib.hid hz
  clear hz
  go_enter Try.func15, Try.ntmps15
  go_wp2_with fail
  generalize hW : World.alloc _ _ = W
  have bD : Bk W w.heap.size #[.int .i64 c, .int .i64 s, .int .i64 h] 30 := by rw [← hW]; repeat (first | (refine Bk.new' ?_; (simp; done)) | refine Bk.alloc ?_ _)
  have bA : Bk W (w.heap.size + 1) #[.slice a zs.length cap, .int .i64 r, .int .i64 v] 50 := by rw [← hW]; repeat (first | (refine Bk.new' ?_; (simp; done)) | refine Bk.alloc ?_ _)
  have bS : Bk W (w.heap.size + 1 + 1) #[.int .i64 c, .int .i64 s, .int .i64 h] 30 := by rw [← hW]; repeat (first | (refine Bk.new' ?_; (simp; done)) | refine Bk.alloc ?_ _)
  have hb : Below w.heap.size w W := by rw [← hW]; exact (by repeat (first | exact Below.refl _ _ | (refine Below.alloc ?_ (by simp <;> omega) _) | (refine Below.setCell ?_ (by simp <;> omega) _) | (refine Below.drew ?_) | (refine bel_drewN ?_ _)))
  clear hW
  have HB := Lib.hid hb
  clear hb
  refine (erf_any W a _ cap 1 zs [(c, s, h)] r v (by omega) (by simp) ((HZ.out.below HB.out).more HB.out.size) (Dirs.one bS)).mono ?_
  rw [erC_one]
  rintro e w1 ⟨rfl, hb⟩
  replace HB := Lib.hid (bel_end HB.out hb)
  replace bD := bD.on hb
  replace bA := bA.on hb
  clear hb bS
  by_cases e0 : arC zs c s h r v = 0
  case neg =>
    have H1 : Hid (dlR zs c s h r v = []) := Lib.hid (by unfold dlR; rw [if_neg e0])
    have hC : (arC zs c s h r v != 0) = true := by simpa using e0
    go_wp2
    go_ret2
    exact ⟨none, 0, by rw [H1.out]; rfl, by rw [H1.out]; exact ownA_nil _ _ HB.out.size, HB.out⟩
  case pos =>
    have H1 : Hid (dlR zs c s h r v = dlL zs s h r v zs.length) := Lib.hid (by unfold dlR; rw [if_pos e0])
    have HC := Lib.hid e0
    have K := Lib.hid (AOk.of e0)
    have bA_0 := bA.cell 0 rfl
    have bA_1 := bA.cell 1 rfl
    have bA_2 := bA.cell 2 rfl
    have bD_0 := bD.cell 0 rfl
    have bD_1 := bD.cell 1 rfl
    have bD_2 := bD.cell 2 rfl
    have HZ1 := Lib.hid ((HZ.out.below HB.out).more HB.out.size)
    rw [e0]
    clear e0
    go_wp2_with fail
    clear bA_0 bA_1 bA_2
    clear bD_0 bD_1 bD_2
    refine (idf_any w1 a cap zs c s h r v K.out HZ1.out).mono ?_
    rintro e w2 ⟨g, c', rfl, ho, hb⟩
    go_wp2
    go_ret2
    exact ⟨g, c', by rw [H1.out, HC.out]; rfl, by rw [H1.out]; exact ho.less HB.out.size, bel_end HB.out hb⟩

set_option maxRecDepth 100000 in
set_option maxHeartbeats 8000000 in
theorem sdl11_any (w : World) (a : Option Addr) (cap : Nat) (zs : List Int) (c s h r v : Int) (hl : zs.length ≤ 1048576) (hz : Ints .i64 w w.heap.size a zs) :
    Calls Try.prog 13 #[.slice a zs.length cap, .agg #[.int .i64 c, .int .i64 s, .int .i64 h], .int .i64 r, .int .i64 v] w fun e w' => ∃ (a' : Option Addr) (c' : Nat), e = .returned (.tuple #[.slice a' (dlR zs c s h r v).length c', .int .i64 (arC zs c s h r v)]) ∧ OwnA w' w.heap.size w'.heap.size a' c' (dlR zs c s h r v) ∧ Below w.heap.size w w' := by
  have HZ := Lib.hid hz
  clear hz
  go_enter Try.func13, Try.ntmps13
  go_wp2_with fail
  generalize hW : World.alloc _ _ = W
  have bD : Bk W w.heap.size #[.int .i64 c, .int .i64 s, .int .i64 h] 30 := by rw [← hW]; repeat (first | (refine Bk.new' ?_; (simp; done)) | refine Bk.alloc ?_ _)
  have hb : Below w.heap.size w W := by rw [← hW]; exact (by repeat (first | exact Below.refl _ _ | (refine Below.alloc ?_ (by simp <;> omega) _) | (refine Below.setCell ?_ (by simp <;> omega) _) | (refine Below.drew ?_) | (refine bel_drewN ?_ _)))
  clear hW
  have HB := Lib.hid hb
  clear hb
  refine (sco_any W a cap zs c s h r v (by omega) ((HZ.out.below HB.out).more HB.out.size)).mono ?_
  rintro e w1 ⟨rfl, hb⟩
  replace HB := Lib.hid (bel_end HB.out hb)
  replace bD := bD.on hb
  clear hb
  by_cases e0 : arC zs c s h r v = 0
  case neg =>
    have H1 : Hid (dlR zs c s h r v = []) := Lib.hid (by unfold dlR; rw [if_neg e0])
    have hC : (arC zs c s h r v != 0) = true := by simpa using e0
    go_wp2
    go_ret2
    exact ⟨none, 0, by rw [H1.out]; rfl, by rw [H1.out]; exact ownA_nil _ _ HB.out.size, HB.out⟩
  case pos =>
    have H1 : Hid (dlR zs c s h r v = dlL zs s h r v zs.length) := Lib.hid (by unfold dlR; rw [if_pos e0])
    have HC := Lib.hid e0
    have K := Lib.hid (AOk.of e0)
    have bD_0 := bD.cell 0 rfl
    have bD_1 := bD.cell 1 rfl
    have bD_2 := bD.cell 2 rfl
    have HZ1 := Lib.hid ((HZ.out.below HB.out).more HB.out.size)
    rw [e0]
    clear e0
    go_wp2_with fail
    clear bD_0 bD_1 bD_2
    refine (ldl_any w1 a cap zs c s h r v K.out HZ1.out).mono ?_
    rintro e w2 ⟨g, c', rfl, ho, hb⟩
    go_wp2
    go_ret2
    exact ⟨g, c', by rw [H1.out, HC.out]; rfl, by rw [H1.out]; exact ho.less HB.out.size, bel_end HB.out hb⟩

theorem ownA_farH {W : World} {M hi : Nat} {a : Option Addr} {c : Nat} {L : List Int} (h : OwnA W M hi a c L) {g : Nat} (hg : g < M) (j : Nat) (v : Value) : OwnA (W.setCell ⟨g, j, none⟩ v) M hi a c L :=
  ⟨own_at h.own (fun g' e => Below.heap_setCell W ⟨g, j, none⟩ v g' (by have := (h.own.lt g' e).1; simp; omega)), h.lt, by simpa using h.up⟩
/-- what a delay and its error are bounded by -/
theorem der_in {nm dn D : Int} (n5 : -10000000000000 ≤ nm) (n6 : nm ≤ 10000000000000) (d1 : 1300000 ≤ dn) (d2 : dn ≤ 1700000000) (hD : D = near nm dn) :
    -10000000000001 ≤ D ∧ D ≤ 10000000000001 ∧ -20000000000000 ≤ D * dn ∧ D * dn ≤ 20000000000000 ∧ ((nm - D * dn).natAbs : Int) ≤ 850000000 := by
  have h1 := near_half nm (b := dn) (by omega)
  have h2 := near_bd nm (b := dn) (by omega) n5 n6
  subst hD
  generalize near nm dn * dn = p at *
  omega

set_option maxRecDepth 100000 in
set_option maxHeartbeats 8000000 in
theorem ide11_any (w : World) (a : Option Addr) (cap : Nat) (zs : List Int) (c s h r v : Int) (hl : zs.length ≤ 1048576) (hz : Ints .i64 w w.heap.size a zs) :
    Calls Try.prog 19 #[.slice a zs.length cap, .agg #[.int .i64 c, .int .i64 s, .int .i64 h], .int .i64 r, .int .i64 v] w fun e w' => ∃ (a' : Option Addr) (c' : Nat), e = .returned (.tuple #[.slice a' (deR zs c s h r v).length c', .int .i64 (arC zs c s h r v)]) ∧ OwnA w' w.heap.size w'.heap.size a' c' (deR zs c s h r v) ∧ Below w.heap.size w w' := by
  have HZ := Lib.hid hz
  clear hz
  go_enter Try.func19, Try.ntmps19
  go_wp2_with fail
  generalize hW : World.alloc _ _ = W
  have bD : Bk W w.heap.size #[.int .i64 c, .int .i64 s, .int .i64 h] 30 := by rw [← hW]; repeat (first | (refine Bk.new' ?_; (simp; done)) | refine Bk.alloc ?_ _)
  have bA : Bk W (w.heap.size + 1) #[.slice a zs.length cap, .int .i64 r, .int .i64 v] 50 := by rw [← hW]; repeat (first | (refine Bk.new' ?_; (simp; done)) | refine Bk.alloc ?_ _)
  have bS : Bk W (w.heap.size + 1 + 1) #[.int .i64 c, .int .i64 s, .int .i64 h] 30 := by rw [← hW]; repeat (first | (refine Bk.new' ?_; (simp; done)) | refine Bk.alloc ?_ _)
  have hb : Below w.heap.size w W := by rw [← hW]; exact (by repeat (first | exact Below.refl _ _ | (refine Below.alloc ?_ (by simp <;> omega) _) | (refine Below.setCell ?_ (by simp <;> omega) _) | (refine Below.drew ?_) | (refine bel_drewN ?_ _)))
  clear hW
  have HB := Lib.hid hb
  clear hb
  refine (erf_any W a _ cap 1 zs [(c, s, h)] r v (by omega) (by simp) ((HZ.out.below HB.out).more HB.out.size) (Dirs.one bS)).mono ?_
  rw [erC_one]
  rintro e w1 ⟨rfl, hb⟩
  replace HB := Lib.hid (bel_end HB.out hb)
  replace bD := bD.on hb
  replace bA := bA.on hb
  clear hb bS
  by_cases e0 : arC zs c s h r v = 0
  case neg =>
    have H1 : Hid (deR zs c s h r v = []) := Lib.hid (by unfold deR; rw [if_neg e0])
    have hC : (arC zs c s h r v != 0) = true := by simpa using e0
    go_wp2
    go_ret2
    exact ⟨none, 0, by rw [H1.out]; rfl, by rw [H1.out]; exact ownA_nil _ _ HB.out.size, HB.out⟩
  case pos =>
    have H1 : Hid (deR zs c s h r v = deL zs s h r v zs.length) := Lib.hid (by unfold deR; rw [if_pos e0])
    have HC := Lib.hid e0
    have K := Lib.hid (AOk.of e0)
    have bA_0 := bA.cell 0 rfl
    have bA_1 := bA.cell 1 rfl
    have bA_2 := bA.cell 2 rfl
    have bD_0 := bD.cell 0 rfl
    have bD_1 := bD.cell 1 rfl
    have bD_2 := bD.cell 2 rfl
    have HZ1 := Lib.hid ((HZ.out.below HB.out).more HB.out.size)
    rw [e0]
    clear e0
    have HD : Hid (∀ i, _) := Lib.hid K.out.num
    obtain ⟨d1, d2⟩ := K.out.den
    have h1 := (arrB_t K.out.ar).2.1
    have HDF : Hid (∀ (W : World), Ints .i64 W W.heap.size a zs → _) := Lib.hid (fun W hz => idf_any W a cap zs c s h r v K.out hz)
    obtain ⟨N, hN⟩ : ∃ N, zs.length = N := ⟨_, rfl⟩
    rw [hN] at h1 H1 HDF bA bA_0 ⊢
    have HN := Lib.hid hN
    clear hN
    have hxl := bA.lt
    have hyl := bD.lt
    have hmk : ∀ w, (Instr.makeSlice 22 (.int .i64 N) (.int .i64 N)).run Try.prog w = .ok (.slice (some ⟨w.heap.size, 0, none⟩) N N) (w.alloc (.cells (madeCells #[.int .i64 0] N) 2)) := fun w => run_make_row' (P := Try.prog) 22 2 (.int .i64 0) 8 Try.underlying22 info_i64 rfl .i64 .i64 N (by omega) (by omega) w
    go_wp2_with fail
    clear hmk
    clear bA_0 bA_1 bA_2
    clear bD_0 bD_1 bD_2
    clear hxl hyl
    have HR0 := Lib.hid (rowG_zeros w1 N (by unfold maxLen; omega))
    obtain ⟨G, hG⟩ : ∃ G, w1.heap.size = G := ⟨_, rfl⟩
    obtain ⟨W2, hW2⟩ : ∃ W2, W2 = w1.alloc (.cells (madeCells #[.int .i64 0] N) 2) := ⟨_, rfl⟩
    have hb2 : Below w1.heap.size w1 W2 := by rw [hW2]; exact (Below.refl _ _).alloc (Nat.le_refl _) _
    have HG2 : Hid (G < W2.heap.size) := Lib.hid (by rw [hW2, ← hG]; simp)
    rw [← hW2] at HR0 ⊢
    rw [hG] at HR0 ⊢
    clear hW2
    refine (HDF.out W2 ((HZ1.out.below hb2).more hb2.size)).mono ?_
    rintro e w3 ⟨q, c3, rfl, ho, hb⟩
    have HL3 : Hid ((dlL zs s h r v N).length = N) := Lib.hid (dlL_len _ _ _ _ _ _)
    have HO := Lib.hid ho
    replace HR0 := Lib.hid (HR0.out.on hb)
    have HLW : Hid (W2.heap.size ≤ w3.heap.size) := Lib.hid hb.size
    clear ho hb hb2 HDF
    rw [HL3.out]
    obtain ⟨f, hf⟩ : ∃ f : Nat → Int, f = fun i => der s h r v (zs.getD i 0) := ⟨_, rfl⟩
    have HFF := Lib.hid hf
    clear hf
    go_wp2_with fail
    go_loopw [35] (fun i wr => ∃ k : Nat, k ≤ N ∧ i = .int .i64 k ∧ RowG w1 2 1 G N N ((preL f N k).map iv4) wr ∧ OwnA wr W2.heap.size w3.heap.size q c3 (dlL zs s h r v N)) (fun i _ => N - (intOf i).toNat)
    case atStart => exact ⟨0, by omega, rfl, by rw [preL_0]; exact HR0.out, HO.out⟩
    case round =>
      obtain ⟨k, hk, rfl, hR, hO⟩ := hrel
      replace HO := Lib.hid hO
      have HR := Lib.hid hR
      have HW := Lib.hid hR.bel
      replace bA := bA.on hR.bel
      replace bD := bD.on hR.bel
      clear hO hR HR0
      by_cases hlt : k < N
      case neg =>
        obtain rfl : k = N := by omega
        have HE : Hid (preL f k k = deL zs s h r v k) := Lib.hid (by rw [preL_end, HFF.out]; rfl)
        rw [HE.out] at HR
        go_wp2
        go_ret2
        exact ⟨some ⟨G, 0, none⟩, k, by rw [H1.out, HC.out, deL_len]; rfl, by rw [H1.out]; exact ownA_row HR.out (deL_len _ _ _ _ _ _) HB.out.size, bel_end HB.out HR.out.bel⟩
      case pos =>
        obtain ⟨b2, o2, rfl, -, hq⟩ := HO.out.ints.at_ (j := k) (by rw [HL3.out]; exact hlt)
        rw [dlL_at zs s h r v hlt] at hq
        obtain ⟨b, off, rfl, -, hc⟩ := (HZ1.out.below HR.out.bel).at_ (j := k) (by rw [HN.out]; exact hlt)
        obtain ⟨n1, n2, n3, n4, n5, n6⟩ := HD.out k
        have HF : Hid (f k = der s h r v (zs.getD k 0)) := Lib.hid (by rw [HFF.out])
        obtain ⟨x, hx⟩ : ∃ x, zs.getD k 0 = x := ⟨_, rfl⟩
        rw [hx] at hc hq n1 n2 n3 n4 n5 n6 HF
        clear hx
        have K1 : Hid (∀ w : World, _) := Lib.hid (fun w => exd_any w (some ⟨b, off, none⟩) N cap r v x c s h n1 n2 n3 n4 n5 n6 d1 d2)
        have HF2 : Hid (dly s h r v x = near (dnm x r s) (h * v)) := Lib.hid rfl
        have HF3 : Hid (f k = cdiv (1000 * ((dnm x r s - dly s h r v x * (h * v)).natAbs : Int)) (h * v)) := Lib.hid (by rw [HF.out]; rfl)
        obtain ⟨D, hD⟩ : ∃ u, dly s h r v x = u := ⟨_, rfl⟩
        rw [hD] at hq HF2 HF3
        clear hD HF
        obtain ⟨nm, hnm⟩ : ∃ u, dnm x r s = u := ⟨_, rfl⟩
        obtain ⟨dn, hdn⟩ : ∃ u, h * v = u := ⟨_, rfl⟩
        rw [hnm] at n5 n6 HF2 HF3 K1
        rw [hdn] at d1 d2 HF2 HF3 K1
        clear hnm hdn n1 n2 n3 n4
        obtain ⟨m1, m2, m3, m4, m5⟩ := der_in n5 n6 d1 d2 HF2.out
        have e1 : IntKind.wrap .i64 (D * dn) = D * dn := IntWalk.i64_in _ (by omega)
        have e2 : IntKind.wrap .i64 (nm - D * dn) = nm - D * dn := IntWalk.i64_in _ (by omega)
        have KA : Hid (∀ w : World, _) := Lib.hid (fun w => abs_any (nm - D * dn) (by omega) (by omega) w)
        obtain ⟨U, hU⟩ : ∃ u, ((nm - D * dn).natAbs : Int) = u := ⟨_, rfl⟩
        have u0 : 0 ≤ U := by omega
        rw [hU] at m5 KA HF3
        clear hU
        have e3 : IntKind.wrap .i64 (1000 * U) = 1000 * U := IntWalk.i64_in _ (by omega)
        have KC : Hid (∀ w : World, _) := Lib.hid (fun w => cq_any (1000 * U) dn (by omega) (by omega) (by omega) (by omega) (by omega) w)
        rw [← HF3.out] at KC
        go_wp2_with fail
        clear hq n5 n6 d1 d2 m1 m2 m3 m4 m5 u0
        obtain ⟨S, hSd⟩ : ∃ S : World → Prop, ∀ w', S w' ↔ (w'.cell? ⟨w.heap.size + 1, 0, none⟩ = some (.slice (some ⟨b, off, none⟩) N cap) ∧ w'.cell? ⟨w.heap.size + 1, 1, none⟩ = some (.int .i64 r) ∧ w'.cell? ⟨w.heap.size + 1, 2, none⟩ = some (.int .i64 v) ∧ w'.cell? ⟨w.heap.size, 0, none⟩ = some (.int .i64 c) ∧ w'.cell? ⟨w.heap.size, 1, none⟩ = some (.int .i64 s) ∧ w'.cell? ⟨w.heap.size, 2, none⟩ = some (.int .i64 h) ∧ w'.cell? ⟨b, off + k, none⟩ = some (.int .i64 x)) := ⟨_, fun _ => Iff.rfl⟩
        have HSp : Hid (∀ w' : World, Bk w' (w.heap.size + 1) #[.slice (some ⟨b, off, none⟩) N cap, .int .i64 r, .int .i64 v] 50 → Bk w' (w.heap.size) #[.int .i64 c, .int .i64 s, .int .i64 h] 30 → w'.cell? ⟨b, off + k, none⟩ = some (.int .i64 x) → S w') := Lib.hid (fun w' bA bD y0 => (hSd w').2 ⟨bA.cell 0 rfl, bA.cell 1 rfl, bA.cell 2 rfl, bD.cell 0 rfl, bD.cell 1 rfl, bD.cell 2 rfl, y0⟩)
        have HSd := Lib.hid hSd
        clear hSd
        refine wp_region_held_drew (S := S) (by kernel_rfl) ?_ (fun hH => ?_)
        · exact (HSp.out _ bA bD hc : S (World.drew wr))
        clear hH
        generalize hX : World.drew wr = V0
        replace bA : Bk V0 (w.heap.size + 1) #[.slice (some ⟨b, off, none⟩) N cap, .int .i64 r, .int .i64 v] 50 := by rw [← hX]; exact bA
        replace bD : Bk V0 (w.heap.size) #[.int .i64 c, .int .i64 s, .int .i64 h] 30 := by rw [← hX]; exact bD
        have hb : Below wr.heap.size wr V0 := by rw [← hX]; exact (Below.refl _ _).drew
        clear hX
        replace HR := Lib.hid (HR.out.on hb)
        replace HO := Lib.hid (HO.out.on hb)
        replace hc := kc1 hc hb
        replace HW := Lib.hid (bel_end HW.out hb)
        clear hb
        have hS := HSp.out _ bA bD hc
        refine wpAnyH_take (i := 0) (oi := { dst := some 41, op := Go.Op.load 50 (Go.Operand.tmp 10), type := 50, pos := "l11_arrays.go:59", after := #[], guard := none }) (v := ?_) rfl (by kernel_rfl) (by kernel_rfl) (by kernel_rfl) (fun _ _ _ h => h) (Or.inl ⟨by rfl, ?_⟩) hS ?_
        rotate_left
        · (intro w hSw; have hSw := (HSd.out w).1 hSw; go_split_ands; go_simp) <;> with_reducible rfl
        clear hS
        try simp only [Act.put, List.setIfInBounds_toArray, List.set_cons_zero, List.set_cons_succ]
        have hS := HSp.out _ bA bD hc
        refine wpAnyH_take (i := 1) (oi := { dst := some 42, op := Go.Op.move (Go.Operand.tmp 0), type := 22, pos := "l11_arrays.go:59", after := #[], guard := none }) (v := ?_) rfl (by kernel_rfl) (by kernel_rfl) (by kernel_rfl) (fun _ _ _ h => h) (Or.inl ⟨by rfl, ?_⟩) hS ?_
        rotate_left
        · (intro w hSw; have hSw := (HSd.out w).1 hSw; go_split_ands; go_simp) <;> with_reducible rfl
        clear hS
        try simp only [Act.put, List.setIfInBounds_toArray, List.set_cons_zero, List.set_cons_succ]
        have hS := HSp.out _ bA bD hc
        refine wpAnyH_take (i := 2) (oi := { dst := some 43, op := Go.Op.move (Go.Operand.tmp 13), type := 3, pos := "l11_arrays.go:59", after := #[], guard := none }) (v := ?_) rfl (by kernel_rfl) (by kernel_rfl) (by kernel_rfl) (fun _ _ _ h => h) (Or.inl ⟨by rfl, ?_⟩) hS ?_
        rotate_left
        · (intro w hSw; have hSw := (HSd.out w).1 hSw; go_split_ands; go_simp) <;> with_reducible rfl
        clear hS
        try simp only [Act.put, List.setIfInBounds_toArray, List.set_cons_zero, List.set_cons_succ]
        have hS := HSp.out _ bA bD hc
        refine wpAnyH_take (i := 3) (oi := { dst := some 44, op := Go.Op.indexAddr 22 (Go.Operand.tmp 42) (Go.Operand.tmp 43), type := 0, pos := "l11_arrays.go:59", after := #[{ on := 1, ground := Go.Ground.data }, { on := 2, ground := Go.Ground.data }], guard := none }) (v := ?_) rfl (by kernel_rfl) (by kernel_rfl) (by kernel_rfl) (fun _ _ _ h => h) (Or.inl ⟨by rfl, ?_⟩) hS ?_
        rotate_left
        · (intro w hSw; have hSw := (HSd.out w).1 hSw; go_split_ands; go_simp) <;> with_reducible rfl
        clear hS
        try simp only [Act.put, List.setIfInBounds_toArray, List.set_cons_zero, List.set_cons_succ]
        have hS := HSp.out _ bA bD hc
        refine wpAnyH_take (i := 4) (oi := { dst := some 45, op := Go.Op.load 2 (Go.Operand.tmp 44), type := 2, pos := "l11_arrays.go:59", after := #[{ on := 3, ground := Go.Ground.data }], guard := none }) (v := ?_) rfl (by kernel_rfl) (by kernel_rfl) (by kernel_rfl) (fun _ _ _ h => h) (Or.inl ⟨by rfl, ?_⟩) hS ?_
        rotate_left
        · (intro w hSw; have hSw := (HSd.out w).1 hSw; go_split_ands; go_simp) <;> with_reducible rfl
        clear hS
        try simp only [Act.put, List.setIfInBounds_toArray, List.set_cons_zero, List.set_cons_succ]
        have hS := HSp.out _ bA bD hc
        refine wpAnyH_take (i := 5) (oi := { dst := some 46, op := Go.Op.load 30 (Go.Operand.tmp 5), type := 30, pos := "l11_arrays.go:59", after := #[], guard := none }) (v := ?_) rfl (by kernel_rfl) (by kernel_rfl) (by kernel_rfl) (fun _ _ _ h => h) (Or.inl ⟨by rfl, ?_⟩) hS ?_
        rotate_left
        · (intro w hSw; have hSw := (HSd.out w).1 hSw; go_split_ands; go_simp) <;> with_reducible rfl
        clear hS
        try simp only [Act.put, List.setIfInBounds_toArray, List.set_cons_zero, List.set_cons_succ]
        refine wpAnyH_ready (rs := [6]) (by kernel_rfl) (by simp) ?_
        refine AllReadyH.cons (o := { dst := some 47, op := Go.Op.call { callee := Go.Callee.value (Go.Operand.func 39), args := #[Go.Operand.tmp 41, Go.Operand.tmp 45, Go.Operand.tmp 46], argTypes := #[50, 2, 30] }, type := 55, pos := "l11_arrays.go:59", after := #[{ on := 0, ground := Go.Ground.data }, { on := 4, ground := Go.Ground.data }, { on := 5, ground := Go.Ground.data }], guard := none }) rfl (fun Kn hK => ?_) AllReadyH.nil
        first | go_at_call 39 | (go_simp; go_at_call 39)
        (with_reducible refine Calls.mono (K1.out _) ?_)
        rintro e V1 ⟨rfl, hb⟩
        try dsimp only
        try simp only [Act.put, List.setIfInBounds_toArray, List.set_cons_zero, List.set_cons_succ]
        replace bA := bA.on hb
        replace bD := bD.on hb
        replace HR := Lib.hid (HR.out.on hb)
        replace HO := Lib.hid (HO.out.on hb)
        replace hc := kc1 hc hb
        replace HW := Lib.hid (bel_end HW.out hb)
        clear hb
        refine hK.out _ _ (HSp.out _ bA bD hc) (fun _ => ?_)
        clear hK Kn
        have hS := HSp.out _ bA bD hc
        refine wpAnyH_take (i := 7) (oi := { dst := some 40, op := Go.Op.move (Go.Operand.tmp 47), type := 55, pos := "l11_arrays.go:59", after := #[{ on := 6, ground := Go.Ground.data }], guard := none }) (v := ?_) rfl (by kernel_rfl) (by kernel_rfl) (by kernel_rfl) (fun _ _ _ h => h) (Or.inl ⟨by rfl, ?_⟩) hS ?_
        rotate_left
        · (intro w hSw; have hSw := (HSd.out w).1 hSw; go_split_ands; go_simp) <;> with_reducible rfl
        clear hS
        try simp only [Act.put, List.setIfInBounds_toArray, List.set_cons_zero, List.set_cons_succ]
        have hS := HSp.out _ bA bD hc
        refine wpAnyH_take (i := 8) (oi := { dst := some 48, op := Go.Op.extract (Go.Operand.tmp 40) 0, type := 2, pos := "l11_arrays.go:59", after := #[{ on := 7, ground := Go.Ground.data }], guard := none }) (v := ?_) rfl (by kernel_rfl) (by kernel_rfl) (by kernel_rfl) (fun _ _ _ h => h) (Or.inl ⟨by rfl, ?_⟩) hS ?_
        rotate_left
        · (intro w hSw; have hSw := (HSd.out w).1 hSw; go_split_ands; go_simp) <;> with_reducible rfl
        clear hS
        try simp only [Act.put, List.setIfInBounds_toArray, List.set_cons_zero, List.set_cons_succ]
        have hS := HSp.out _ bA bD hc
        refine wpAnyH_take (i := 9) (oi := { dst := some 49, op := Go.Op.extract (Go.Operand.tmp 40) 1, type := 2, pos := "l11_arrays.go:59", after := #[{ on := 7, ground := Go.Ground.data }, { on := 10, ground := Go.Ground.gcOnly Go.Departure.lateStores }], guard := none }) (v := ?_) rfl (by kernel_rfl) (by kernel_rfl) (by kernel_rfl) (fun _ _ _ h => h) (Or.inl ⟨by rfl, ?_⟩) hS ?_
        rotate_left
        · (intro w hSw; have hSw := (HSd.out w).1 hSw; go_split_ands; go_simp) <;> with_reducible rfl
        clear hS
        try simp only [Act.put, List.setIfInBounds_toArray, List.set_cons_zero, List.set_cons_succ]
        have hS := HSp.out _ bA bD hc
        refine wpAnyH_take (i := 10) (oi := { dst := some 15, op := Go.Op.assign (Go.Operand.tmp 48), type := 2, pos := "l11_arrays.go:59", after := #[{ on := 8, ground := Go.Ground.data }, { on := 6, ground := Go.Ground.chain }, { on := 0, ground := Go.Ground.phase }, { on := 1, ground := Go.Ground.phase }, { on := 2, ground := Go.Ground.phase }, { on := 3, ground := Go.Ground.phase }, { on := 4, ground := Go.Ground.phase }, { on := 5, ground := Go.Ground.phase }, { on := 6, ground := Go.Ground.phase }, { on := 7, ground := Go.Ground.phase }, { on := 8, ground := Go.Ground.phase }, { on := 9, ground := Go.Ground.textOnly Go.Departure.lateStores }], guard := none }) (v := ?_) rfl (by kernel_rfl) (by kernel_rfl) (by kernel_rfl) (fun _ _ _ h => h) (Or.inl ⟨by rfl, ?_⟩) hS ?_
        rotate_left
        · (intro w hSw; have hSw := (HSd.out w).1 hSw; go_split_ands; go_simp) <;> with_reducible rfl
        clear hS
        try simp only [Act.put, List.setIfInBounds_toArray, List.set_cons_zero, List.set_cons_succ]
        have hS := HSp.out _ bA bD hc
        refine wpAnyH_take (i := 11) (oi := { dst := some 16, op := Go.Op.assign (Go.Operand.tmp 49), type := 2, pos := "l11_arrays.go:59", after := #[{ on := 9, ground := Go.Ground.data }, { on := 10, ground := Go.Ground.chain }, { on := 0, ground := Go.Ground.phase }, { on := 1, ground := Go.Ground.phase }, { on := 2, ground := Go.Ground.phase }, { on := 3, ground := Go.Ground.phase }, { on := 4, ground := Go.Ground.phase }, { on := 5, ground := Go.Ground.phase }, { on := 6, ground := Go.Ground.phase }, { on := 7, ground := Go.Ground.phase }, { on := 8, ground := Go.Ground.phase }, { on := 9, ground := Go.Ground.phase }, { on := 10, ground := Go.Ground.phase }], guard := none }) (v := ?_) rfl (by kernel_rfl) (by kernel_rfl) (by kernel_rfl) (fun _ _ _ h => h) (Or.inl ⟨by rfl, ?_⟩) hS ?_
        rotate_left
        · (intro w hSw; have hSw := (HSd.out w).1 hSw; go_split_ands; go_simp) <;> with_reducible rfl
        clear hS
        try simp only [Act.put, List.setIfInBounds_toArray, List.set_cons_zero, List.set_cons_succ]
        refine wpAnyH_done (by kernel_rfl) ?_ _
        have ho := HR.out.at1 (j := k) hlt (preL_len _ _ _)
        have hfz := HR.out.own.frozenAt k
        obtain ⟨u_, hu⟩ : ∃ u, (preL f N k).getD k 0 = u := ⟨_, rfl⟩
        rw [hu] at ho
        clear hu
        go_wp2_with (first | (go_at_call 41; with_reducible refine Calls.mono (KA.out _) ?_; rintro e w' ⟨rfl, rfl⟩) | (go_at_call 40; with_reducible refine Calls.mono (KC.out _) ?_; rintro e w' ⟨rfl, rfl⟩))
        go_roundw
        (case rel => exact ⟨k + 1, by omega, by go_num, by rw [← preL_set]; exact HR.out.set k _, ownA_farH HO.out (by have := HG2.out; omega) _ _⟩)
        (case measure => simp [intOf]; omega)

set_option maxRecDepth 100000 in
set_option maxHeartbeats 8000000 in
theorem sde11_any (w : World) (a : Option Addr) (cap : Nat) (zs : List Int) (c s h r v : Int) (hl : zs.length ≤ 1048576) (hz : Ints .i64 w w.heap.size a zs) :
    Calls Try.prog 18 #[.slice a zs.length cap, .agg #[.int .i64 c, .int .i64 s, .int .i64 h], .int .i64 r, .int .i64 v] w fun e w' => ∃ (a' : Option Addr) (c' : Nat), e = .returned (.tuple #[.slice a' (deR zs c s h r v).length c', .int .i64 (arC zs c s h r v)]) ∧ OwnA w' w.heap.size w'.heap.size a' c' (deR zs c s h r v) ∧ Below w.heap.size w w' := by
  have HZ := Lib.hid hz
  clear hz
  go_enter Try.func18, Try.ntmps18
  go_wp2_with fail
  generalize hW : World.alloc _ _ = W
  have bD : Bk W w.heap.size #[.int .i64 c, .int .i64 s, .int .i64 h] 30 := by rw [← hW]; repeat (first | (refine Bk.new' ?_; (simp; done)) | refine Bk.alloc ?_ _)
  have hb : Below w.heap.size w W := by rw [← hW]; exact (by repeat (first | exact Below.refl _ _ | (refine Below.alloc ?_ (by simp <;> omega) _) | (refine Below.setCell ?_ (by simp <;> omega) _) | (refine Below.drew ?_) | (refine bel_drewN ?_ _)))
  clear hW
  have HB := Lib.hid hb
  clear hb
  refine (sco_any W a cap zs c s h r v (by omega) ((HZ.out.below HB.out).more HB.out.size)).mono ?_
  rintro e w1 ⟨rfl, hb⟩
  replace HB := Lib.hid (bel_end HB.out hb)
  replace bD := bD.on hb
  clear hb
  by_cases e0 : arC zs c s h r v = 0
  case neg =>
    have H1 : Hid (deR zs c s h r v = []) := Lib.hid (by unfold deR; rw [if_neg e0])
    have hC : (arC zs c s h r v != 0) = true := by simpa using e0
    go_wp2
    go_ret2
    exact ⟨none, 0, by rw [H1.out]; rfl, by rw [H1.out]; exact ownA_nil _ _ HB.out.size, HB.out⟩
  case pos =>
    have H1 : Hid (deR zs c s h r v = deL zs s h r v zs.length) := Lib.hid (by unfold deR; rw [if_pos e0])
    have HC := Lib.hid e0
    have K := Lib.hid (AOk.of e0)
    have bD_0 := bD.cell 0 rfl
    have bD_1 := bD.cell 1 rfl
    have bD_2 := bD.cell 2 rfl
    have HZ1 := Lib.hid ((HZ.out.below HB.out).more HB.out.size)
    obtain ⟨i0, hi, hz0, hz1, hz2⟩ := info_parts info_i64
    rw [e0]
    clear e0
    have HD : Hid (∀ i, _) := Lib.hid K.out.num
    obtain ⟨d1, d2⟩ := K.out.den
    have h1 := (arrB_t K.out.ar).2.1
    have HDF := Lib.hid (ldl_any w1 a cap zs c s h r v K.out HZ1.out)
    obtain ⟨N, hN⟩ : ∃ N, zs.length = N := ⟨_, rfl⟩
    rw [hN] at h1 H1 HDF ⊢
    have HN := Lib.hid hN
    clear hN
    go_wp2_with fail
    clear bD_0 bD_1 bD_2
    refine HDF.out.mono ?_
    rintro e w3 ⟨q, c3, rfl, ho, hb⟩
    have HL3 : Hid ((dlL zs s h r v N).length = N) := Lib.hid (dlL_len _ _ _ _ _ _)
    replace HB := Lib.hid (bel_end HB.out hb)
    replace bD := bD.on hb
    have HO := Lib.hid ho
    replace HZ1 := Lib.hid ((HZ1.out.below hb).more hb.size)
    clear ho hb HDF
    rw [HL3.out]
    go_wp2_with fail
    have HR0 := Lib.hid (RowG.lit (w1 := w3) (t := 2) (m := 1) (W := w3.alloc (.cells #[] 2)) (Bk.new' rfl) (Nat.le_refl _) ((Below.refl _ _).alloc (Nat.le_refl _) _))
    go_loopw [12, 13] (fun u i wr => ∃ (k ge ce : Nat), k ≤ N ∧ u = .slice (some ⟨ge, 0, none⟩) k ce ∧ i = .int .i64 k ∧ RowG w3 2 1 ge ce k ((deL zs s h r v k).map iv4) wr) (fun _ i _ => N - (intOf i).toNat)
    case atStart => exact ⟨0, w3.heap.size, 0, by omega, rfl, rfl, HR0.out⟩
    case round =>
      obtain ⟨k, ge, ce, hk, rfl, rfl, hR⟩ := hrel
      have HR := Lib.hid hR
      replace HO := Lib.hid (HO.out.on hR.bel)
      replace bD := bD.on hR.bel
      clear hR HR0
      by_cases hlt : k < N
      case neg =>
        obtain rfl : k = N := by omega
        go_wp2
        go_ret2
        exact ⟨some ⟨ge, 0, none⟩, ce, by rw [H1.out, HC.out, deL_len]; rfl, by rw [H1.out]; exact ownA_row HR.out (deL_len _ _ _ _ _ _) HB.out.size, bel_end HB.out HR.out.bel⟩
      case pos =>
        obtain ⟨b2, o2, rfl, -, hq⟩ := HO.out.ints.at_ (j := k) (by rw [HL3.out]; exact hlt)
        rw [dlL_at zs s h r v hlt] at hq
        obtain ⟨b, off, rfl, -, hc⟩ := (HZ1.out.below HR.out.bel).at_ (j := k) (by rw [HN.out]; exact hlt)
        obtain ⟨n1, n2, n3, n4, n5, n6⟩ := HD.out k
        have hs := deL_succ zs s h r v k
        have HF : Hid (der s h r v (zs.getD k 0) = der s h r v (zs.getD k 0)) := Lib.hid rfl
        obtain ⟨x, hx⟩ : ∃ x, zs.getD k 0 = x := ⟨_, rfl⟩
        rw [hx] at hc hq n1 n2 n3 n4 n5 n6 hs
        clear hx HF
        have HF2 : Hid (dly s h r v x = near (dnm x r s) (h * v)) := Lib.hid rfl
        have HF3 : Hid (der s h r v x = cdiv (1000 * ((dnm x r s - dly s h r v x * (h * v)).natAbs : Int)) (h * v)) := Lib.hid rfl
        obtain ⟨D, hD⟩ : ∃ u, dly s h r v x = u := ⟨_, rfl⟩
        obtain ⟨E, hE⟩ : ∃ u, der s h r v x = u := ⟨_, rfl⟩
        rw [hD] at hq HF2 HF3
        rw [hE] at HF3 hs
        have HSN : Hid ((deL zs s h r v k).map iv4 ++ [.int .i64 E] = (deL zs s h r v (k + 1)).map iv4) := Lib.hid (by rw [hs, List.map_append]; rfl)
        clear hD hE hs
        obtain ⟨m1, m2, m3, m4, m5⟩ := der_in n5 n6 d1 d2 HF2.out
        have hh := dirB_t K.out.dr
        have hm := mulb (a := D) (b := h) (A := 10000000000001) (B := 1000) (by omega) (by omega) (by have := hh.h1; omega) (by have := hh.h2; omega) (by omega) (by omega)
        have em : D * h * v = D * (h * v) := Int.mul_assoc _ _ _
        rw [← em] at m3 m4 m5 HF3
        unfold dnm at n5 n6 m5 HF3
        have e0_ : IntKind.wrap .i64 (10 * x) = 10 * x := IntWalk.i64_in _ (by omega)
        have e1 : IntKind.wrap .i64 (10 * x * r) = 10 * x * r := IntWalk.i64_in _ (by omega)
        have e2 : IntKind.wrap .i64 (10 * x * r * s) = 10 * x * r * s := IntWalk.i64_in _ (by omega)
        have e3 : IntKind.wrap .i64 (D * h) = D * h := IntWalk.i64_in _ (by omega)
        have e4 : IntKind.wrap .i64 (D * h * v) = D * h * v := IntWalk.i64_in _ (by omega)
        have e5 : IntKind.wrap .i64 (10 * x * r * s - D * h * v) = 10 * x * r * s - D * h * v := IntWalk.i64_in _ (by omega)
        have e6 : IntKind.wrap .i64 (h * v) = h * v := IntWalk.i64_in _ (by omega)
        have KA : Hid (∀ w : World, _) := Lib.hid (fun w => lab_any (10 * x * r * s - D * h * v) (by omega) (by omega) w)
        obtain ⟨U, hU⟩ : ∃ u, ((10 * x * r * s - D * h * v).natAbs : Int) = u := ⟨_, rfl⟩
        have u0 : 0 ≤ U := by omega
        rw [hU] at m5 KA HF3
        clear hU em hm hh
        have e7 : IntKind.wrap .i64 (1000 * U) = 1000 * U := IntWalk.i64_in _ (by omega)
        have KC : Hid (∀ w : World, _) := Lib.hid (fun w => lce_any (1000 * U) (h * v) (by omega) (by omega) (by omega) (by omega) (by omega) w)
        rw [← HF3.out] at KC
        clear n1 n2 n3 n4 n5 n6 d1 d2 m1 m2 m3 m4 m5 u0
        have y1 := bD.cell 1 rfl
        have y2 := bD.cell 2 rfl
        go_wp2
        go_quiet (first | (go_at_call 37; (with_reducible exact in_call (KA.out _))) | fail)
        have hbq : Below wr.heap.size wr (wr.drewN nq) := below_drewN (Below.refl _ _) _
        obtain ⟨V, hV⟩ : ∃ V, V = wr.drewN nq := ⟨_, rfl⟩
        rw [← hV] at hbq ⊢
        clear hV
        replace HR := Lib.hid (HR.out.on hbq)
        replace bD := bD.on hbq
        clear hbq hc hq y1 y2
        have y2 := bD.cell 2 rfl
        go_wp2_with fail
        refine (KC.out _).mono ?_
        rintro e w' ⟨rfl, rfl⟩
        go_wp2_with (at_builtin; refine wpList_append_lies _ rfl _ _ 22 rfl w3.heap.size 2 i0 (.int .i64 0) 1 8 Try.underlying22 hi hz0 hz1 hz2 rfl (by decide) (.slice (some ⟨ge, 0, none⟩) k ce) k ((deL zs s h r v k).map iv4) rfl (HR.out.own.alloc _) ⟨V.heap.size, 0, none⟩ 1 1 [.int .i64 E] rfl rfl (World.news_of_block (cs := #[.int .i64 E]) (t := 2) (fr := (0, 0)) (heap_alloc_new V _)) (by simp [Value.oneCell']) (by decide) (by unfold maxLen; omega) (by omega) (by simp; exact Nat.le_succ_of_le HR.out.bel.size) (V.heap.size + 1) (by simp) ?_; intro g2 cp2 w9 hown hgrow hat hlt9; have HR9 := Lib.hid ((HR.out.on ((Below.refl _ _).alloc (Nat.le_refl _) _)).snoc hown hgrow); clear hown hgrow hat hlt9)
        rw [HSN.out] at HR9
        go_wp2_with fail
        go_roundw
        case rel => exact ⟨k + 1, g2, cp2, by omega, rfl, by go_num, HR9.out⟩
        case measure => simp [intOf]; omega
end Go.Proofs.Ythfaejhiabdkbaa
