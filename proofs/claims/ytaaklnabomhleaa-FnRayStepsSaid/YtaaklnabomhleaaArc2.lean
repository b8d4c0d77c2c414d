/- Contracts of the program's arcs: the depth of turning, the radius. -/
import Derived.Test.YtaaklnabomhleaaArc
import Derived.Test.YtaaklnabomhleaaRts
import Derived.Deep.RegionHeld3
import Derived.Deep.DeepCutAuto
import Derived.Deep.RegionWith
namespace Go.Proofs.Ytaaklnabomhleaa
open Go.ChangeShapes Go.WideShapes Go.ChangeAt Go.RowKit Go.Shelf Num
set_option linter.unusedVariables false
def gotA (w : World) (p : Addr) : Value := (w.cell? p).getD undef
theorem gotA_mk {w : World} {p : Addr} {v : Value} (h : w.cell? p = some v) : w.cell? p = some (gotA w p) := by unfold gotA; rw [h]; rfl
theorem set2_oldA {w : World} {m o : Nat} {a b v : Value} (h : w.cell? ⟨m, o, none⟩ = some v) : ((w.setCell ⟨m + 1, 0, none⟩ a).setCell ⟨m + 1, 1, none⟩ b).cell? ⟨m, o, none⟩ = some v := by simp [h, go_sem]
theorem set2_frA {w : World} {p m o : Nat} {a b : Value} {r : Bool} (h : w.frozen? ⟨m, o, none⟩ = r) : ((w.setCell ⟨p, 0, none⟩ a).setCell ⟨p, 1, none⟩ b).frozen? ⟨m, o, none⟩ = r := by simp [h, go_sem]

set_option maxRecDepth 100000 in
set_option maxHeartbeats 4000000 in
theorem atd_any (w : World) (a b : Option Addr) (ca cb : Nat) (zs ys : List Int) (i n f : Nat) (c s h : Int) (hp : Prof w w.heap.size a b zs ys) (r : RyOk zs ys i c s h) (hn : n < zs.length) (hf : f < zs.length) (hpos : 0 < riS ys c n f) :
    Calls Try.prog 154 #[.agg #[.slice a zs.length ca, .slice b ys.length cb, .int .i64 (i : Int), .int .i64 c, .int .i64 s, .int .i64 h, .int .i64 (n : Int), .int .i64 (f : Int)]] w fun e w' => e = .returned (.agg #[.int .i64 ((zs.getD n 0 * riS ys c n f + (zs.getD f 0 - zs.getD n 0) * (h * ys.getD i 0 - c * ys.getD n 0)).fdiv (riS ys c n f)), .int .i64 (cdiv (zs.getD n 0 * riS ys c n f + (zs.getD f 0 - zs.getD n 0) * (h * ys.getD i 0 - c * ys.getD n 0)) (riS ys c n f))]) ∧ Below w.heap.size w w' := by
  have HP := Lib.hid hp
  have KS : Hid (∀ W : World, Below w.heap.size w W → Calls Try.prog 162 #[.agg #[.slice a zs.length ca, .slice b ys.length cb, .int .i64 (i : Int), .int .i64 c, .int .i64 s, .int .i64 h]] W fun e w' => e = .returned (.int .i64 (h * ys.getD i 0)) ∧ Below W.heap.size W w') := Lib.hid (fun W hb => rsc_any W a b ca cb zs ys i i c s h (HP.out.on hb) r.ok r.hi rfl r.od.h1 r.od.h2)
  have KC : Hid (∀ W : World, Below w.heap.size w W → Calls Try.prog 161 #[.agg #[.slice a zs.length ca, .slice b ys.length cb, .int .i64 (i : Int), .int .i64 c, .int .i64 s, .int .i64 h], .int .i64 (n : Int)] W fun e w' => e = .returned (.int .i64 (c * ys.getD n 0)) ∧ Below W.heap.size W w') := Lib.hid (fun W hb => rco_any W a b ca cb zs ys i n c s h (HP.out.on hb) r.ok hn r.od.c1 (by have := r.od.c2; have := r.od.h2; omega))
  have KK : Hid (∀ W : World, Below w.heap.size w W → Calls Try.prog 123 #[.agg #[.slice a zs.length ca, .slice b ys.length cb], .int .i64 (n : Int)] W fun e w' => e = .returned (.agg #[.int .i64 (zs.getD n 0), .int .i64 (ys.getD n 0)]) ∧ Below W.heap.size W w') := Lib.hid (fun W hb => kat_any W a b ca cb zs ys n (HP.out.on hb) r.ok.len hn)
  have KW : Hid (∀ W : World, Below w.heap.size w W → Calls Try.prog 169 #[.agg #[.slice a zs.length ca, .slice b ys.length cb, .int .i64 (i : Int), .int .i64 c, .int .i64 s, .int .i64 h, .int .i64 (n : Int), .int .i64 (f : Int)]] W fun e w' => e = .returned (.int .i64 (zs.getD f 0 - zs.getD n 0)) ∧ Below W.heap.size W w') := Lib.hid (fun W hb => awy_any W a b ca cb zs ys i n f c s h (HP.out.on hb) r hn hf)
  have KR : Hid (∀ W : World, Below w.heap.size w W → Calls Try.prog 168 #[.agg #[.slice a zs.length ca, .slice b ys.length cb, .int .i64 (i : Int), .int .i64 c, .int .i64 s, .int .i64 h, .int .i64 (n : Int), .int .i64 (f : Int)]] W fun e w' => e = .returned (.int .i64 (riS ys c n f)) ∧ Below W.heap.size W w') := Lib.hid (fun W hb => ari_any W a b ca cb zs ys i n f c s h (HP.out.on hb) r hn hf)
  have qa := r.A
  have q1 := r.ok.lo n
  have q2 := r.ok.hi n
  have q3 := r.ok.lo f
  have q4 := r.ok.hi f
  have qn := r.B n
  have qf := r.B f
  have er : riS ys c n f = c * ys.getD f 0 - c * ys.getD n 0 := by unfold riS; rw [Int.mul_sub]
  obtain ⟨A, hA⟩ : ∃ u, h * ys.getD i 0 = u := ⟨_, rfl⟩
  obtain ⟨E, hE⟩ : ∃ u, c * ys.getD n 0 = u := ⟨_, rfl⟩
  obtain ⟨R, hR⟩ : ∃ u, riS ys c n f = u := ⟨_, rfl⟩
  obtain ⟨Y, hY⟩ : ∃ u, zs.getD f 0 - zs.getD n 0 = u := ⟨_, rfl⟩
  rw [hA] at qa KS ⊢
  rw [hE] at qn er KC ⊢
  rw [hR] at er KR hpos ⊢
  rw [hY] at KW ⊢
  obtain ⟨x, hx⟩ : ∃ u, zs.getD n 0 = u := ⟨_, rfl⟩
  obtain ⟨v, hv⟩ : ∃ u, ys.getD n 0 = u := ⟨_, rfl⟩
  have y1 : -1000000 ≤ Y ∧ Y ≤ 1000000 := by omega
  rw [hx] at q1 q2 KK ⊢
  rw [hv] at KK
  obtain ⟨D, hD⟩ : ∃ u, A - E = u := ⟨_, rfl⟩
  have d1 : -1700000000 ≤ D ∧ D ≤ 1700000000 := by omega
  have e0 : IntKind.wrap .i64 (A - E) = D := by rw [hD]; exact IntWalk.i64_in _ (by omega)
  rw [hD]
  have m1 := mul_abs (a := x) (n := R) (A := 1000000) (N := 1700000000) (by omega) (by omega)
  have m2 := mul_abs (a := Y) (n := D) (A := 1000000) (N := 1700000000) (by omega) (by omega)
  have e1 : IntKind.wrap .i64 (x * R) = x * R := IntWalk.i64_in _ (by omega)
  have e2 : IntKind.wrap .i64 (Y * D) = Y * D := IntWalk.i64_in _ (by omega)
  have n0 : -9000000000000000000 ≤ x * R + Y * D ∧ x * R + Y * D ≤ 9000000000000000000 := by omega
  obtain ⟨N, hN⟩ : ∃ u, x * R + Y * D = u := ⟨_, rfl⟩
  have e3 : IntKind.wrap .i64 (x * R + Y * D) = N := by rw [hN]; exact IntWalk.i64_in _ (by omega)
  rw [hN] at n0 ⊢
  obtain ⟨p, hp1⟩ : ∃ u, N.fdiv R = u := ⟨_, rfl⟩
  obtain ⟨q, hq1⟩ : ∃ u, cdiv N R = u := ⟨_, rfl⟩
  rw [hp1, hq1]
  have KD : Hid (∀ W : World, Calls Try.prog 170 #[.agg #[.int .i64 N, .int .i64 N], .agg #[.int .i64 R, .int .i64 R]] W fun e w' => e = .returned (.agg #[.int .i64 p, .int .i64 q]) ∧ Below W.heap.size W w') := Lib.hid (fun W => by have := dvb_any N N R R (by omega) (by omega) (by omega) (by omega) (by omega) (by omega) (by omega) (by omega) (by omega) (by omega) W; have g := by_one (a := N) (b := N) (m := R) (Int.le_refl _) (by omega); rwa [g.1, g.2, hp1, hq1] at this)
  have KN : Hid (∀ W : World, Calls Try.prog 122 #[.int .i64 N] W fun e w' => e = .returned (.agg #[.int .i64 N, .int .i64 N]) ∧ Below W.heap.size W w') := Lib.hid (fun W => exa_any N W)
  have KE : Hid (∀ W : World, Calls Try.prog 122 #[.int .i64 R] W fun e w' => e = .returned (.agg #[.int .i64 R, .int .i64 R]) ∧ Below W.heap.size W w') := Lib.hid (fun W => exa_any R W)
  clear hA hE hR hY hx hv hD hN hp1 hq1 qa q1 q2 q3 q4 qn qf er y1 d1 m1 m2 n0 hp r hn hf hpos
  go_enter Try.func154, Try.ntmps154
  go_wp2_with fail
  generalize hW : World.alloc _ _ = W
  have bX : Bk W (w.heap.size) #[.slice a zs.length ca, .slice b ys.length cb, .int .i64 (i : Int), .int .i64 c, .int .i64 s, .int .i64 h, .int .i64 (n : Int), .int .i64 (f : Int)] 193 := by rw [← hW]; repeat (first | exact Bk.new' (by simp) | refine Bk.alloc ?_ _)
  have bR : Bk W (w.heap.size + 1) #[.int .i64 0, .int .i64 0] 48 := by rw [← hW]; repeat (first | exact Bk.new' (by simp) | refine Bk.alloc ?_ _)
  have HB : Hid (Below w.heap.size w W) := Lib.hid (by rw [← hW]; exact (by repeat (first | exact Below.refl _ _ | (refine Below.alloc ?_ (by simp <;> omega) _) | (refine Below.setCell ?_ (by simp <;> omega) _) | (refine Below.drew ?_) | (refine bel_drewN ?_ _))))
  clear hW
  go_cut [3] (fun s3 wx => s3 = .int .i64 D ∧ Below W.heap.size W wx)
  case first =>
    go_region_held3 (fun w' => w'.cell? ⟨w.heap.size, 0, none⟩ = some (.slice a zs.length ca) ∧ w'.cell? ⟨w.heap.size, 1, none⟩ = some (.slice b ys.length cb) ∧ w'.cell? ⟨w.heap.size, 2, none⟩ = some (.int .i64 (i : Int)) ∧ w'.cell? ⟨w.heap.size, 3, none⟩ = some (.int .i64 c) ∧ w'.cell? ⟨w.heap.size, 4, none⟩ = some (.int .i64 s) ∧ w'.cell? ⟨w.heap.size, 5, none⟩ = some (.int .i64 h) ∧ w'.cell? ⟨w.heap.size, 6, none⟩ = some (.int .i64 (n : Int)) ∧ w'.cell? ⟨w.heap.size, 7, none⟩ = some (.int .i64 (f : Int)) ∧ Below W.heap.size W w')
      (first
        | (exact at8 bX (Below.refl _ W).drew)
        | (go_split_ands; (with_reducible exact at8 bX hkB))
        | (go_split_ands; (with_reducible exact at8 bX (bel_al hkB (Nat.le_refl _)))))
      (first
        | (go_at_call 162; (with_reducible refine Calls.mono (KS.out _ (bel_end HB.out ?hq)) ?_); (case hq => (go_split_ands; assumption)); rintro e wA ⟨rfl, hbwA⟩; have hkB := bel_in hbwA (by go_split_ands; assumption) (Nat.le_refl _))
        | (go_at_call 161; (with_reducible refine Calls.mono (KC.out _ (bel_end HB.out ?hq)) ?_); (case hq => (go_split_ands; assumption)); rintro e wB ⟨rfl, hbwB⟩; have hkB := bel_in hbwB (by go_split_ands; assumption) (Nat.le_refl _)))
    all_goals (go_wp2_with fail; go_meet; go_split_ands)
    all_goals exact ⟨by first | rfl | rw [e0], hkB⟩
  case rest =>
    obtain ⟨rfl, hB⟩ := hcut
    replace bX := bX.on hB
    replace bR := bR.on hB
    replace HB := Lib.hid (bel_end HB.out hB)
    clear hB
    have bX_0 := bX.cell 0 rfl
    have bX_1 := bX.cell 1 rfl
    have bX_2 := bX.cell 2 rfl
    have bX_3 := bX.cell 3 rfl
    have bX_4 := bX.cell 4 rfl
    have bX_5 := bX.cell 5 rfl
    have bX_6 := bX.cell 6 rfl
    have bX_7 := bX.cell 7 rfl
    have bX_l := bX.lt
    have f1 := fun (w : World) => fld_depth w x v
    go_wp2_with fail
    (with_reducible refine Calls.mono (KK.out _ HB.out) ?_)
    rintro e w3 ⟨rfl, hb⟩
    replace bX := bX.on hb
    replace bR := bR.on hb
    replace HB := Lib.hid (bel_end HB.out hb)
    clear hb
    clear bX_0 bX_1 bX_2 bX_3 bX_4 bX_5 bX_6 bX_7 bX_l
    go_wp2_with fail
    go_region_held3 (fun w' => w'.cell? ⟨w.heap.size, 0, none⟩ = some (.slice a zs.length ca) ∧ w'.cell? ⟨w.heap.size, 1, none⟩ = some (.slice b ys.length cb) ∧ w'.cell? ⟨w.heap.size, 2, none⟩ = some (.int .i64 (i : Int)) ∧ w'.cell? ⟨w.heap.size, 3, none⟩ = some (.int .i64 c) ∧ w'.cell? ⟨w.heap.size, 4, none⟩ = some (.int .i64 s) ∧ w'.cell? ⟨w.heap.size, 5, none⟩ = some (.int .i64 h) ∧ w'.cell? ⟨w.heap.size, 6, none⟩ = some (.int .i64 (n : Int)) ∧ w'.cell? ⟨w.heap.size, 7, none⟩ = some (.int .i64 (f : Int)) ∧ w'.cell? ⟨w.heap.size + 1, 0, none⟩ = some (gotA w' ⟨w.heap.size + 1, 0, none⟩) ∧ w'.cell? ⟨w.heap.size + 1, 1, none⟩ = some (gotA w' ⟨w.heap.size + 1, 1, none⟩) ∧ w'.frozen? ⟨w.heap.size + 1, 0, none⟩ = false ∧ w'.frozen? ⟨w.heap.size + 1, 1, none⟩ = false ∧ Below w.heap.size w w')
      (first
        | (exact ⟨bX.cell 0 rfl, bX.cell 1 rfl, bX.cell 2 rfl, bX.cell 3 rfl, bX.cell 4 rfl, bX.cell 5 rfl, bX.cell 6 rfl, bX.cell 7 rfl, gotA_mk (bR.cell 0 rfl), gotA_mk (bR.cell 1 rfl), bR.frozen 0, bR.frozen 1, HB.out.drew⟩)
        | (go_split_ands; exact ⟨by assumption, by assumption, by assumption, by assumption, by assumption, by assumption, by assumption, by assumption, by assumption, by assumption, by assumption, by assumption, by assumption⟩)
        | (go_split_ands; exact ⟨kp1 (by assumption) hb, kp1 (by assumption) hb, kp1 (by assumption) hb, kp1 (by assumption) hb, kp1 (by assumption) hb, kp1 (by assumption) hb, kp1 (by assumption) hb, kp1 (by assumption) hb, gotA_mk (kp1 (by assumption) hb), gotA_mk (kp1 (by assumption) hb), kp_fr (by assumption) (by assumption) hb, kp_fr (by assumption) (by assumption) hb, bel_end (by assumption) hb⟩)
        | (go_split_ands; exact ⟨set2_oldA (by assumption), set2_oldA (by assumption), set2_oldA (by assumption), set2_oldA (by assumption), set2_oldA (by assumption), set2_oldA (by assumption), set2_oldA (by assumption), set2_oldA (by assumption), gotA_mk (set2_cells (by assumption) (by assumption)).1, gotA_mk (set2_cells (by assumption) (by assumption)).2, set2_frA (by assumption), set2_frA (by assumption), Below.setCell (Below.setCell (by assumption) (by simp) _) (by simp) _⟩))
      (first
        | (go_at_call 169; (with_reducible refine Calls.mono (KW.out _ ?hq) ?_); (case hq => (go_split_ands; assumption)); rintro e wB ⟨rfl, hb⟩)
        | (go_at_call 168; (with_reducible refine Calls.mono (KR.out _ ?hq) ?_); (case hq => (go_split_ands; assumption)); rintro e wC ⟨rfl, hb⟩)
        | (go_at_call 122; (with_reducible refine Calls.mono (KN.out _) ?_); rintro e wD ⟨rfl, hb⟩)
        | (go_at_call 122; (with_reducible refine Calls.mono (KE.out _) ?_); rintro e wE ⟨rfl, hb⟩)
        | (go_at_call 170; (with_reducible refine Calls.mono (KD.out _) ?_); rintro e wF ⟨rfl, hb⟩))
    all_goals
      have hW : Below w3.heap.size w3 _ := (Below.refl _ w3).drew
      repeat (replace hW := bel_end hW (by assumption))
      have c2 := (bR.on hW).cell 0 rfl
      have c3 := (bR.on hW).cell 1 rfl
      go_split_ands
      go_wp2
      exact bodyPost_ret (v := .agg #[.int .i64 p, .int .i64 q]) (by simp [results, Try.results154, go_sem, c2, c3]) rfl ⟨rfl, by assumption⟩
end Go.Proofs.Ytaaklnabomhleaa
