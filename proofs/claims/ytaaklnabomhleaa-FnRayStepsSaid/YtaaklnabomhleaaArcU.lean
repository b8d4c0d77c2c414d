/- Contracts of TurnDepth and ArcRadius, the model's. -/
import Derived.Test.YtaaklnabomhleaaArcT
import Derived.StillTailTactics
import Derived.Deep.QuietTactic
import Derived.BigQuiet
namespace Go.Proofs.Ytaaklnabomhleaa
open Go.ChangeShapes Go.WideShapes Go.ChangeAt Go.RowKit Go.Shelf Num
set_option linter.unusedVariables false
set_option linter.unusedSimpArgs false in
theorem set2_ne {w : World} {p m o : Nat} {a b v : Value} (hne : ¬ m = p) (h : w.cell? ⟨m, o, none⟩ = some v) : ((w.setCell ⟨p, 0, none⟩ a).setCell ⟨p, 1, none⟩ b).cell? ⟨m, o, none⟩ = some v := by simp [h, hne, go_sem]
theorem bel_set2 {w W : World} {B p : Nat} {a b : Value} (h : Below B w W) (hp : B ≤ p) : Below B w ((W.setCell ⟨p, 0, none⟩ a).setCell ⟨p, 1, none⟩ b) := (h.setCell (p := ⟨p, 0, none⟩) hp _).setCell (p := ⟨p, 1, none⟩) hp _
/-- the two lists of a profile in memory, six elements of them -/
theorem six_at {w : World} {a b : Option Addr} {zs ys : List Int} (hp : Prof w w.heap.size a b zs ys) {k1 k2 k3 l1 l2 l3 : Nat} (h1 : k1 < zs.length) (h2 : k2 < zs.length) (h3 : k3 < zs.length) (g1 : l1 < ys.length) (g2 : l2 < ys.length) (g3 : l3 < ys.length) :
    ∃ p o p' o', a = some ⟨p, o, none⟩ ∧ b = some ⟨p', o', none⟩ ∧ p < w.heap.size ∧ p' < w.heap.size ∧ w.cell? ⟨p, o + k1, none⟩ = some (.int .i64 (zs.getD k1 0)) ∧ w.cell? ⟨p, o + k2, none⟩ = some (.int .i64 (zs.getD k2 0)) ∧ w.cell? ⟨p, o + k3, none⟩ = some (.int .i64 (zs.getD k3 0)) ∧
      w.cell? ⟨p', o' + l1, none⟩ = some (.int .i64 (ys.getD l1 0)) ∧ w.cell? ⟨p', o' + l2, none⟩ = some (.int .i64 (ys.getD l2 0)) ∧ w.cell? ⟨p', o' + l3, none⟩ = some (.int .i64 (ys.getD l3 0)) := by
  obtain ⟨p, o, e1, hlp, a1⟩ := hp.dz (by omega)
  obtain ⟨p', o', e2, hlq, a2⟩ := hp.sy (by omega)
  exact ⟨p, o, p', o', e1, e2, hlp, hlq, a1 k1 h1, a1 k2 h2, a1 k3 h3, a2 l1 g1, a2 l2 g2, a2 l3 g3⟩
theorem tdLo_n (zs ys : List Int) (i : Nat) (c h : Int) (l : Nat) (ab : Bool) : tdLo zs ys i c h l ab = if ab then zs.getD (anr l ab) 0 + (tdN zs ys i c h l ab).fdiv (riS ys c (anr l ab) (afr l ab)) else zs.getD (anr l ab) 0 - cdiv (tdN zs ys i c h l ab) (riS ys c (anr l ab) (afr l ab)) := by cases ab <;> rfl
theorem tdHi_n (zs ys : List Int) (i : Nat) (c h : Int) (l : Nat) (ab : Bool) : tdHi zs ys i c h l ab = if ab then zs.getD (anr l ab) 0 + cdiv (tdN zs ys i c h l ab) (riS ys c (anr l ab) (afr l ab)) else zs.getD (anr l ab) 0 - (tdN zs ys i c h l ab).fdiv (riS ys c (anr l ab) (afr l ab)) := by cases ab <;> rfl

set_option maxRecDepth 100000 in
set_option maxHeartbeats 2000000 in
theorem std_any (w : World) (a b : Option Addr) (ca cb : Nat) (zs ys : List Int) (src c s h l : Int) (ab : Bool) (hp : Prof w w.heap.size a b zs ys) :
    Calls Try.prog 121 #[.agg #[.slice a zs.length ca, .slice b ys.length cb], .int .i64 src, .agg #[.int .i64 c, .int .i64 s, .int .i64 h], .int .i64 l, .bool ab] w fun e w' => e = .returned (.tuple #[.agg #[.int .i64 (tdF zs ys src c s h l ab).1, .int .i64 (tdF zs ys src c s h l ab).2.1], .int .i64 (tdF zs ys src c s h l ab).2.2]) ∧ Below w.heap.size w w' := by
  have HP := Lib.hid hp
  have K : Hid (∀ W : World, Below w.heap.size w W → Calls Try.prog 150 #[.agg #[.slice a zs.length ca, .slice b ys.length cb], .int .i64 src, .agg #[.int .i64 c, .int .i64 s, .int .i64 h], .int .i64 l] W fun e w' => e = .returned (.int .i64 (acod zs ys src c s h l)) ∧ Below W.heap.size W w') := Lib.hid (fun W hb => l6c_any W a b ca cb zs ys src c s h l (HP.out.on hb))
  by_cases hq : acod zs ys src c s h l = 0
  case neg =>
    have HT : Hid (tdF zs ys src c s h l ab = (0, 0, acod zs ys src c s h l)) := Lib.hid (by unfold tdF; rw [if_neg hq])
    obtain ⟨q, hqq⟩ : ∃ q, acod zs ys src c s h l = q := ⟨_, rfl⟩
    rw [hqq] at HT hq K
    have hq0 : (q != 0) = true := by simpa using hq
    have hq1 : (q == 0) = false := by simpa using hq
    clear hqq hq hp
    go_enter Try.func121, Try.ntmps121
    go_wp2_with fail
    generalize hW : World.alloc _ _ = W
    have bP : Bk W (w.heap.size) #[.slice a zs.length ca, .slice b ys.length cb] 51 := by rw [← hW]; repeat (first | exact Bk.new' (by simp) | refine Bk.alloc ?_ _)
    have bD : Bk W (w.heap.size + 1) #[.int .i64 c, .int .i64 s, .int .i64 h] 32 := by rw [← hW]; repeat (first | exact Bk.new' (by simp) | refine Bk.alloc ?_ _)
    have bR : Bk W (w.heap.size + 1 + 1) #[.int .i64 0, .int .i64 0] 48 := by rw [← hW]; repeat (first | exact Bk.new' (by simp) | refine Bk.alloc ?_ _)
    have HB : Hid (Below w.heap.size w W) := Lib.hid (by rw [← hW]; exact (by repeat (first | exact Below.refl _ _ | (refine Below.alloc ?_ (by simp <;> omega) _) | (refine Below.setCell ?_ (by simp <;> omega) _) | (refine Below.drew ?_) | (refine bel_drewN ?_ _))))
    clear hW
    (with_reducible refine Calls.mono (K.out _ HB.out) ?_)
    rintro e w1 ⟨rfl, hb⟩
    replace bP := bP.on hb
    replace bD := bD.on hb
    replace bR := bR.on hb
    replace HB := Lib.hid (bel_end HB.out hb)
    clear hb
    have bP_0 := bP.cell 0 rfl
    have bP_1 := bP.cell 1 rfl
    have bP_l := bP.lt
    have bD_0 := bD.cell 0 rfl
    have bD_1 := bD.cell 1 rfl
    have bD_2 := bD.cell 2 rfl
    have bD_l := bD.lt
    have bR_0 := bR.cell 0 rfl
    have bR_1 := bR.cell 1 rfl
    have bR_f0 := bR.frozen 0
    have bR_f1 := bR.frozen 1
    have bR_l := bR.lt
    go_wp2
    exact bodyPost_ret (v := .tuple #[.agg #[.int .i64 0, .int .i64 0], .int .i64 q]) (by simp [results, Try.results121, go_sem, bR_0, bR_1]) rfl ⟨resA4 HT.out, (by repeat (first | exact HB.out | (refine Below.setCell ?_ (by simp <;> omega) _) | (refine Below.alloc ?_ (by simp <;> omega) _) | (refine Below.drew ?_)))⟩
  case pos =>
    rw [hq] at K
    obtain ⟨i, j, rfl, rfl, hj, r⟩ := acod_ray hq
    have HT : Hid (tdF zs ys (i : Int) c s h (j : Int) ab = if vdV ys i c h (anr j ab) (afr j ab) = 2 then (tdLo zs ys i c h j ab, tdHi zs ys i c h j ab, 0) else (0, 0, 5)) := Lib.hid (by unfold tdF; rw [if_pos hq]; rfl)
    have KV : Hid (∀ W : World, Below w.heap.size w W → Calls Try.prog 151 #[.agg #[.slice a zs.length ca, .slice b ys.length cb], .int .i64 (i : Int), .agg #[.int .i64 c, .int .i64 s, .int .i64 h], .int .i64 (j : Int), .bool ab] W fun e w' => e = .returned (.int .i64 (vdV ys i c h (anr j ab) (afr j ab))) ∧ Below W.heap.size W w') := Lib.hid (fun W hb => l6v_any W a b ca cb zs ys i j c s h ab (HP.out.on hb) r hj)
    by_cases hv : vdV ys i c h (anr j ab) (afr j ab) = 2
    case neg =>
      rw [if_neg hv] at HT
      obtain ⟨v, hvv⟩ : ∃ v, vdV ys i c h (anr j ab) (afr j ab) = v := ⟨_, rfl⟩
      rw [hvv] at KV hv
      have hv0 : (v != 2) = true := by simpa using hv
      clear hvv hv hq hp r hj
      go_enter Try.func121, Try.ntmps121
      go_wp2_with fail
      generalize hW : World.alloc _ _ = W
      have bP : Bk W (w.heap.size) #[.slice a zs.length ca, .slice b ys.length cb] 51 := by rw [← hW]; repeat (first | exact Bk.new' (by simp) | refine Bk.alloc ?_ _)
      have bD : Bk W (w.heap.size + 1) #[.int .i64 c, .int .i64 s, .int .i64 h] 32 := by rw [← hW]; repeat (first | exact Bk.new' (by simp) | refine Bk.alloc ?_ _)
      have bR : Bk W (w.heap.size + 1 + 1) #[.int .i64 0, .int .i64 0] 48 := by rw [← hW]; repeat (first | exact Bk.new' (by simp) | refine Bk.alloc ?_ _)
      have HB : Hid (Below w.heap.size w W) := Lib.hid (by rw [← hW]; exact (by repeat (first | exact Below.refl _ _ | (refine Below.alloc ?_ (by simp <;> omega) _) | (refine Below.setCell ?_ (by simp <;> omega) _) | (refine Below.drew ?_) | (refine bel_drewN ?_ _))))
      clear hW
      (with_reducible refine Calls.mono (K.out _ HB.out) ?_)
      rintro e w1 ⟨rfl, hb⟩
      replace bP := bP.on hb
      replace bD := bD.on hb
      replace bR := bR.on hb
      replace HB := Lib.hid (bel_end HB.out hb)
      clear hb
      have bP_0 := bP.cell 0 rfl
      have bP_1 := bP.cell 1 rfl
      have bP_l := bP.lt
      have bD_0 := bD.cell 0 rfl
      have bD_1 := bD.cell 1 rfl
      have bD_2 := bD.cell 2 rfl
      have bD_l := bD.lt
      have bR_0 := bR.cell 0 rfl
      have bR_1 := bR.cell 1 rfl
      have bR_f0 := bR.frozen 0
      have bR_f1 := bR.frozen 1
      have bR_l := bR.lt
      go_wp2_with fail
      (with_reducible refine Calls.mono (KV.out _ HB.out) ?_)
      rintro e w2 ⟨rfl, hb⟩
      replace bP := bP.on hb
      replace bD := bD.on hb
      replace bR := bR.on hb
      replace HB := Lib.hid (bel_end HB.out hb)
      clear hb
      clear bP_0 bP_1 bP_l
      clear bD_0 bD_1 bD_2 bD_l
      clear bR_0 bR_1 bR_f0 bR_f1 bR_l
      have bP_0 := bP.cell 0 rfl
      have bP_1 := bP.cell 1 rfl
      have bP_l := bP.lt
      have bD_0 := bD.cell 0 rfl
      have bD_1 := bD.cell 1 rfl
      have bD_2 := bD.cell 2 rfl
      have bD_l := bD.lt
      have bR_0 := bR.cell 0 rfl
      have bR_1 := bR.cell 1 rfl
      have bR_f0 := bR.frozen 0
      have bR_f1 := bR.frozen 1
      have bR_l := bR.lt
      go_wp2
      exact bodyPost_ret (v := .tuple #[.agg #[.int .i64 0, .int .i64 0], .int .i64 5]) (by simp [results, Try.results121, go_sem, bR_0, bR_1]) rfl ⟨resA4 HT.out, (by repeat (first | exact HB.out | (refine Below.setCell ?_ (by simp <;> omega) _) | (refine Below.alloc ?_ (by simp <;> omega) _) | (refine Below.drew ?_)))⟩
    case pos =>
      rw [if_pos hv, tdLo_n, tdHi_n] at HT
      rw [hv] at KV
      obtain ⟨e1, e2⟩ := vdV_2 hv
      obtain ⟨t1, t2, t3, t4, -⟩ := r.turn e1 e2
      have hz := r.z hj
      have qa := r.A
      have qb := r.B (anr j ab)
      have hn := anr_lt (ab := ab) hj
      have hf := afr_lt (ab := ab) hj
      have hly := r.ok.len
      have s1 := r.ok.shi (anr j ab)
      have s2 := r.ok.sge (anr j ab)
      have s3 := r.ok.shi (afr j ab)
      have s4 := r.ok.sge (afr j ab)
      have z1 := r.ok.lo (anr j ab)
      have z2 := r.ok.hi (anr j ab)
      have h12 := r.ok.n12
      have hi := r.hi
      have K0 : Hid (∀ w : World, Calls Try.prog 147 #[.int .i64 (j : Int), .bool ab] w fun e w' => e = .returned (.tuple #[.int .i64 (anr j ab : Int), .int .i64 (afr j ab : Int)]) ∧ w = w') := Lib.hid (fun w => les_any j ab (by omega) w)
      have hR : riS ys c (anr j ab) (afr j ab) = c * (ys.getD (afr j ab) 0 - ys.getD (anr j ab) 0) := rfl
      have hN : tdN zs ys i c h j ab = zD zs j * (h * ys.getD i 0 - c * ys.getD (anr j ab) 0) := rfl
      have hZ : zD zs j = zs.getD (j + 1) 0 - zs.getD j 0 := rfl
      obtain ⟨p, o, p', o', rfl, rfl, hlp, hlq, h1, h2, h3, g1, g2, g3⟩ := six_at HP.out (k1 := j) (k2 := j + 1) (k3 := anr j ab) (l1 := i) (l2 := anr j ab) (l3 := afr j ab) (by omega) hj hn (by omega) (by omega) (by omega)
      obtain ⟨n, hnn⟩ : ∃ n, anr j ab = n := ⟨_, rfl⟩
      obtain ⟨f, hff⟩ : ∃ n, afr j ab = n := ⟨_, rfl⟩
      rw [hnn] at K0 HT hR hN t1 t2 t3 t4 hn s1 s2 z1 z2 h3 g2 qb
      rw [hff] at K0 HT hR t1 t3 t4 hf s3 s4 g3
      clear hnn hff e1 e2 hv hq hp
      obtain ⟨dj, e⟩ : ∃ q, zs.getD j 0 = q := ⟨_, rfl⟩
      rw [e] at h1 hZ
      clear e
      obtain ⟨dk, e⟩ : ∃ q, zs.getD (j + 1) 0 = q := ⟨_, rfl⟩
      rw [e] at h2 hZ
      clear e
      obtain ⟨dn, e⟩ : ∃ q, zs.getD n 0 = q := ⟨_, rfl⟩
      rw [e] at h3 HT z1 z2
      clear e
      obtain ⟨ui, e⟩ : ∃ q, ys.getD i 0 = q := ⟨_, rfl⟩
      rw [e] at g1 hN qa t2 t3
      clear e
      obtain ⟨un, e⟩ : ∃ q, ys.getD n 0 = q := ⟨_, rfl⟩
      rw [e] at g2 hN hR qb s1 s2 t1 t2 t3
      clear e
      obtain ⟨uf, e⟩ : ∃ q, ys.getD f 0 = q := ⟨_, rfl⟩
      rw [e] at g3 hR s3 s4 t1
      clear e
      obtain ⟨Z, eZ⟩ : ∃ q, zD zs j = q := ⟨_, rfl⟩
      rw [eZ] at hZ hz hN
      clear eZ
      obtain ⟨V, eV⟩ : ∃ q, riS ys c n f = q := ⟨_, rfl⟩
      rw [eV] at HT hR t1 t3 t4
      clear eV
      obtain ⟨N, eN⟩ : ∃ q, tdN zs ys i c h j ab = q := ⟨_, rfl⟩
      rw [eN] at HT hN
      clear eN
      have w1 : IntKind.wrap .i64 (dk - dj) = Z := by rw [← hZ]; exact IntWalk.i64_in _ (by omega)
      obtain ⟨A, eA⟩ : ∃ q, h * ui = q := ⟨_, rfl⟩
      rw [eA] at qa hN t2 t3
      have w2 : IntKind.wrap .i64 (h * ui) = A := by rw [eA]; exact IntWalk.i64_in _ (by omega)
      clear eA
      obtain ⟨B, eB⟩ : ∃ q, c * un = q := ⟨_, rfl⟩
      rw [eB] at qb hN t1 t2 t3
      have w3 : IntKind.wrap .i64 (c * un) = B := by rw [eB]; exact IntWalk.i64_in _ (by omega)
      clear eB
      obtain ⟨U, eU⟩ : ∃ q, A - B = q := ⟨_, rfl⟩
      rw [eU] at hN t2 t3
      have w4 : IntKind.wrap .i64 (A - B) = U := by rw [eU]; exact IntWalk.i64_in _ (by omega)
      have mN := mul_in (a := Z) (b := U) (A := 1000000) (B := 1700000000) (by omega) (by omega) (by omega) (by omega)
      have w5 : IntKind.wrap .i64 (Z * U) = N := by rw [hN]; exact IntWalk.i64_in _ (by omega)
      rw [← hN] at mN
      clear eU
      obtain ⟨G, eG⟩ : ∃ q, uf - un = q := ⟨_, rfl⟩
      rw [eG] at hR
      have w6 : IntKind.wrap .i64 (uf - un) = G := by rw [eG]; exact IntWalk.i64_in _ (by omega)
      have w7 : IntKind.wrap .i64 (c * G) = V := by rw [← hR]; exact IntWalk.i64_in _ (by omega)
      clear eG
      have fq0 := fdiv_ge0 mN.1 (show 0 < V by omega)
      have fq1 := (fdiv_bd N V).2
      have fc0 := cdiv_ge0 mN.1 (show 0 < V by omega)
      have fc1 : cdiv N V ≤ N := (cdiv_le_q (by omega)).2 (by have := Int.mul_le_mul_of_nonneg_left (show 1 ≤ V by omega) mN.1; omega)
      have KF : Hid (∀ W : World, Calls Try.prog 152 #[.int .i64 N, .int .i64 V] W fun e w' => e = .returned (.int .i64 (N.fdiv V)) ∧ W = w') := Lib.hid (fun W => lfl_any N V (by omega) (by omega) (by omega) (by omega) (by omega) W)
      have KC : Hid (∀ W : World, Calls Try.prog 153 #[.int .i64 N, .int .i64 V] W fun e w' => e = .returned (.int .i64 (cdiv N V)) ∧ W = w') := Lib.hid (fun W => lce_any N V (by omega) (by omega) (by omega) (by omega) (by omega) W)
      obtain ⟨F, eF⟩ : ∃ q, N.fdiv V = q := ⟨_, rfl⟩
      rw [eF] at KF HT fq0 fq1
      obtain ⟨C, eC⟩ : ∃ q, cdiv N V = q := ⟨_, rfl⟩
      rw [eC] at KC HT fc0 fc1
      clear eF eC
      have w8 : IntKind.wrap .i64 (dn + F) = dn + F := IntWalk.i64_in _ (by omega)
      have w9 : IntKind.wrap .i64 (dn + C) = dn + C := IntWalk.i64_in _ (by omega)
      have w10 : IntKind.wrap .i64 (dn - C) = dn - C := IntWalk.i64_in _ (by omega)
      have w11 : IntKind.wrap .i64 (dn - F) = dn - F := IntWalk.i64_in _ (by omega)
      have i1 : (0 : Int) ≤ (j : Int) + 1 := by omega
      have i2 : ((j : Int) + 1).toNat = j + 1 := by omega
      have i3 : (j : Int) + 1 < (zs.length : Int) := by omega
      have i4 : (j : Int) < (zs.length : Int) := by omega
      have i5 : (n : Int) < (zs.length : Int) := by omega
      have i6 : (n : Int) < (ys.length : Int) := by omega
      have i7 : (f : Int) < (ys.length : Int) := by omega
      have i8 : (i : Int) < (ys.length : Int) := by omega
      have ew : IntKind.wrap .i64 ((j : Int) + 1) = (j : Int) + 1 := IntWalk.i64_in _ (by omega)
      clear hN hR hZ hz qa qb hn hf hly s1 s2 s3 s4 z1 z2 h12 hi t1 t2 t3 t4 mN fq0 fq1 fc0 fc1 r hj
      cases ab
      all_goals
        go_enter Try.func121, Try.ntmps121
        go_wp2_with fail
        generalize hW : World.alloc _ _ = W
        have bP : Bk W (w.heap.size) #[.slice (some ⟨p, o, none⟩) zs.length ca, .slice (some ⟨p', o', none⟩) ys.length cb] 51 := by rw [← hW]; repeat (first | exact Bk.new' (by simp) | refine Bk.alloc ?_ _)
        have bD : Bk W (w.heap.size + 1) #[.int .i64 c, .int .i64 s, .int .i64 h] 32 := by rw [← hW]; repeat (first | exact Bk.new' (by simp) | refine Bk.alloc ?_ _)
        have bR : Bk W (w.heap.size + 1 + 1) #[.int .i64 0, .int .i64 0] 48 := by rw [← hW]; repeat (first | exact Bk.new' (by simp) | refine Bk.alloc ?_ _)
        have HB : Hid (Below w.heap.size w W) := Lib.hid (by rw [← hW]; exact (by repeat (first | exact Below.refl _ _ | (refine Below.alloc ?_ (by simp <;> omega) _) | (refine Below.setCell ?_ (by simp <;> omega) _) | (refine Below.drew ?_) | (refine bel_drewN ?_ _))))
        clear hW
        replace h1 := kc1 h1 HB.out
        replace h2 := kc1 h2 HB.out
        replace h3 := kc1 h3 HB.out
        replace g1 := kc1 g1 HB.out
        replace g2 := kc1 g2 HB.out
        replace g3 := kc1 g3 HB.out
        (with_reducible refine Calls.mono (K.out _ HB.out) ?_)
        rintro e wa ⟨rfl, hb⟩
        replace bP := bP.on hb
        replace bD := bD.on hb
        replace bR := bR.on hb
        replace h1 := kc1 h1 hb
        replace h2 := kc1 h2 hb
        replace h3 := kc1 h3 hb
        replace g1 := kc1 g1 hb
        replace g2 := kc1 g2 hb
        replace g3 := kc1 g3 hb
        replace HB := Lib.hid (bel_end HB.out hb)
        clear hb
        have bP_0 := bP.cell 0 rfl
        have bP_1 := bP.cell 1 rfl
        have bP_l := bP.lt
        have bD_0 := bD.cell 0 rfl
        have bD_1 := bD.cell 1 rfl
        have bD_2 := bD.cell 2 rfl
        have bD_l := bD.lt
        have bR_0 := bR.cell 0 rfl
        have bR_1 := bR.cell 1 rfl
        have bR_f0 := bR.frozen 0
        have bR_f1 := bR.frozen 1
        have bR_l := bR.lt
        go_wp2_with fail
        (with_reducible refine Calls.mono (KV.out _ HB.out) ?_)
        rintro e wb ⟨rfl, hb⟩
        replace bP := bP.on hb
        replace bD := bD.on hb
        replace bR := bR.on hb
        replace h1 := kc1 h1 hb
        replace h2 := kc1 h2 hb
        replace h3 := kc1 h3 hb
        replace g1 := kc1 g1 hb
        replace g2 := kc1 g2 hb
        replace g3 := kc1 g3 hb
        replace HB := Lib.hid (bel_end HB.out hb)
        clear hb
        clear bP_0 bP_1 bP_l
        clear bD_0 bD_1 bD_2 bD_l
        clear bR_0 bR_1 bR_f0 bR_f1 bR_l
        have bP_0 := bP.cell 0 rfl
        have bP_1 := bP.cell 1 rfl
        have bP_l := bP.lt
        have bD_0 := bD.cell 0 rfl
        have bD_1 := bD.cell 1 rfl
        have bD_2 := bD.cell 2 rfl
        have bD_l := bD.lt
        have bR_0 := bR.cell 0 rfl
        have bR_1 := bR.cell 1 rfl
        have bR_f0 := bR.frozen 0
        have bR_f1 := bR.frozen 1
        have bR_l := bR.lt
        go_wp2_with (go_at_call 147; (with_reducible refine Calls.mono (K0.out _) ?_); rintro e w' ⟨rfl, hw⟩; subst hw)
        go_quiet (fail)
        go_wp2_with fail
        generalize hW : World.drewN _ _ = wc
        have hb : Below wb.heap.size wb wc := by rw [← hW]; exact bel_drewN (Below.refl _ _) _
        clear hW
        clear bP_0 bP_1 bP_l
        clear bD_0 bD_1 bD_2 bD_l
        clear bR_0 bR_1 bR_f0 bR_f1 bR_l
        replace bP := bP.on hb
        replace bD := bD.on hb
        replace bR := bR.on hb
        replace h1 := kc1 h1 hb
        replace h2 := kc1 h2 hb
        replace h3 := kc1 h3 hb
        replace g1 := kc1 g1 hb
        replace g2 := kc1 g2 hb
        replace g3 := kc1 g3 hb
        replace HB := Lib.hid (bel_end HB.out hb)
        clear hb
        have bP_0 := bP.cell 0 rfl
        have bP_1 := bP.cell 1 rfl
        have bP_l := bP.lt
        have bD_0 := bD.cell 0 rfl
        have bD_1 := bD.cell 1 rfl
        have bD_2 := bD.cell 2 rfl
        have bD_l := bD.lt
        have bR_0 := bR.cell 0 rfl
        have bR_1 := bR.cell 1 rfl
        have bR_f0 := bR.frozen 0
        have bR_f1 := bR.frozen 1
        have bR_l := bR.lt
        go_quiet (fail)
        go_wp2_with fail
        generalize hW : World.drewN _ _ = wd
        have hb : Below wc.heap.size wc wd := by rw [← hW]; exact bel_drewN (Below.refl _ _) _
        clear hW
        clear bP_0 bP_1 bP_l
        clear bD_0 bD_1 bD_2 bD_l
        clear bR_0 bR_1 bR_f0 bR_f1 bR_l
        replace bP := bP.on hb
        replace bD := bD.on hb
        replace bR := bR.on hb
        replace h1 := kc1 h1 hb
        replace h2 := kc1 h2 hb
        replace h3 := kc1 h3 hb
        replace g1 := kc1 g1 hb
        replace g2 := kc1 g2 hb
        replace g3 := kc1 g3 hb
        replace HB := Lib.hid (bel_end HB.out hb)
        clear hb
        have bP_0 := bP.cell 0 rfl
        have bP_1 := bP.cell 1 rfl
        have bP_l := bP.lt
        have bD_0 := bD.cell 0 rfl
        have bD_1 := bD.cell 1 rfl
        have bD_2 := bD.cell 2 rfl
        have bD_l := bD.lt
        have bR_0 := bR.cell 0 rfl
        have bR_1 := bR.cell 1 rfl
        have bR_f0 := bR.frozen 0
        have bR_f1 := bR.frozen 1
        have bR_l := bR.lt
        go_region_held3 (fun w' => w'.cell? ⟨w.heap.size, 0, none⟩ = some (.slice (some ⟨p, o, none⟩) zs.length ca) ∧ w'.cell? ⟨p, o + n, none⟩ = some (.int .i64 dn) ∧ w'.cell? ⟨w.heap.size + 1 + 1, 0, none⟩ = some (gotA w' ⟨w.heap.size + 1 + 1, 0, none⟩) ∧ w'.cell? ⟨w.heap.size + 1 + 1, 1, none⟩ = some (gotA w' ⟨w.heap.size + 1 + 1, 1, none⟩) ∧ w'.frozen? ⟨w.heap.size + 1 + 1, 0, none⟩ = false ∧ w'.frozen? ⟨w.heap.size + 1 + 1, 1, none⟩ = false ∧ Below w.heap.size w w')
          (first
            | (exact ⟨bP_0, h3, gotA_mk bR_0, gotA_mk bR_1, bR_f0, bR_f1, HB.out.drew⟩)
            | (go_split_ands; exact ⟨by assumption, by assumption, by assumption, by assumption, by assumption, by assumption, by assumption⟩)
            | (go_split_ands; exact ⟨set2_ne (by omega) (by assumption), set2_ne (by omega) (by assumption), gotA_mk (set2_cells (by assumption) (by assumption)).1, gotA_mk (set2_cells (by assumption) (by assumption)).2, set2_frA (by assumption), set2_frA (by assumption), bel_set2 (by assumption) (Nat.le_add_right _ 2)⟩))
          (first
            | (go_at_call 152; (with_reducible refine Calls.mono (KF.out _) ?_); rintro e wt ⟨rfl, rfl⟩)
            | (go_at_call 153; (with_reducible refine Calls.mono (KC.out _) ?_); rintro e wt ⟨rfl, rfl⟩))
        all_goals
          go_split_ands
          go_wp2
          first
            | exact bodyPost_ret (v := .tuple #[.agg #[.int .i64 (dn - C), .int .i64 (dn - F)], .int .i64 0]) (by simp [results, Try.results121, go_sem, bR_0, bR_1]) rfl ⟨resA4 HT.out, by assumption⟩
            | exact bodyPost_ret (v := .tuple #[.agg #[.int .i64 (dn + F), .int .i64 (dn + C)], .int .i64 0]) (by simp [results, Try.results121, go_sem, bR_0, bR_1]) rfl ⟨resA4 HT.out, by assumption⟩

end Go.Proofs.Ytaaklnabomhleaa
