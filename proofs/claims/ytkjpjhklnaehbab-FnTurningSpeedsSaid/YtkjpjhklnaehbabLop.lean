/- Contracts of LayersOpen, the program's and the model's. -/
import Derived.Test.YtkjpjhklnaehbabCns
import Derived.Test.YtkjpjhklnaehbabTrn
import Derived.Test.YtkjpjhklnaehbabLys
namespace Go.Proofs.Ytkjpjhklnaehbab
open Go.ChangeShapes Go.WideShapes Go.ChangeAt Go.RowKit Go.Shelf Num
set_option linter.unusedVariables false
attribute [local go_sem ↓] Go.wp_at_zero Go.wp_at_succ

/-- both knots of a layer can be crossed -/
def opP (ys : List Int) (src c h : Int) (j : Nat) : Bool := crB ys src c h (j : Int) && crB ys src c h ((j + 1 : Nat) : Int)
/-- the open layers below n -/
def opL (ys : List Int) (src c h : Int) (n : Nat) : List Int := ((List.range n).filter (opP ys src c h)).map (fun (j : Nat) => (j : Int))
theorem opL_t {ys : List Int} {src c h : Int} {n : Nat} (e : opP ys src c h n = true) : opL ys src c h (n + 1) = opL ys src c h n ++ [(n : Int)] := by
  unfold opL; rw [List.range_succ, List.filter_append, List.map_append]; simp [e]
theorem opL_f {ys : List Int} {src c h : Int} {n : Nat} (e : opP ys src c h n = false) : opL ys src c h (n + 1) = opL ys src c h n := by
  unfold opL; rw [List.range_succ, List.filter_append, List.map_append]; simp [e]
theorem opL_len (ys : List Int) (src c h : Int) (n : Nat) : (opL ys src c h n).length ≤ n := by
  unfold opL; rw [List.length_map]; exact Nat.le_trans (List.length_filter_le _ _) (by simp)
theorem opP_t {ys : List Int} {src c h : Int} {n : Nat} (h1 : crB ys src c h (n : Int) = true) (h2 : crB ys src c h ((n + 1 : Nat) : Int) = true) : opP ys src c h n = true := by unfold opP; rw [h1, h2]; rfl
theorem opP_f1 {ys : List Int} {src c h : Int} {n : Nat} (h1 : crB ys src c h (n : Int) = false) : opP ys src c h n = false := by unfold opP; rw [h1]; rfl
theorem opP_f2 {ys : List Int} {src c h : Int} {n : Nat} (h2 : crB ys src c h ((n + 1 : Nat) : Int) = false) : opP ys src c h n = false := by unfold opP; rw [h2, Bool.and_false]
/-- the open layers of a ray -/
def loL (zs ys : List Int) (src c s h : Int) : List Int := if rcod zs ys src c s h src = 0 then opL ys src c h (zs.length - 1) else []
theorem hlB_yes {zs : List Int} {k : Nat} (h : k + 1 < zs.length) : hlB zs (k : Int) = true := by unfold hlB; simp; omega
theorem hlB_no {zs : List Int} {k : Nat} (h : ¬ k + 1 < zs.length) : hlB zs (k : Int) = false := by unfold hlB; simp; omega

set_option maxRecDepth 100000 in
set_option maxHeartbeats 1000000 in
theorem ilo_no (w : World) (a b : Option Addr) (ca cb : Nat) (zs ys : List Int) (src c s h : Int) (q : Int) (hq : rcod zs ys src c s h src = q) (h0 : ¬ q = 0) (hp : Prof w w.heap.size a b zs ys) :
    Calls Try.prog 15 #[.agg #[.slice a zs.length ca, .slice b ys.length cb], .int .i64 src, .agg #[.int .i64 c, .int .i64 s, .int .i64 h]] w fun e w' => ∃ (a' : Option Addr) (c' : Nat), e = .returned (.tuple #[.slice a' (loL zs ys src c s h).length c', .int .i64 (rcod zs ys src c s h src)]) ∧ OwnA w' w.heap.size w'.heap.size a' c' (loL zs ys src c s h) ∧ Below w.heap.size w w' := by
  have HP := Lib.hid hp
  have HT : Hid (loL zs ys src c s h = []) := Lib.hid (by unfold loL; rw [hq, if_neg h0])
  have HQ := Lib.hid hq
  have K : Hid (∀ W : World, Below w.heap.size w W → Calls Try.prog 27 #[.agg #[.slice a zs.length ca, .slice b ys.length cb, .int .i64 src, .int .i64 c, .int .i64 s, .int .i64 h], .int .i64 src] W fun e w' => e = .returned (.int .i64 q) ∧ Below W.heap.size W w') := Lib.hid (fun W hb => by have := rer_any W a b ca cb zs ys src src c s h (HP.out.on hb); rwa [show rcT (prfB zs ys) (dirB c s h) (hkB zs src) (hkB zs src) = q from hq] at this)
  have hq0 : (q != 0) = true := by simpa using h0
  clear hq h0 hp
  go_enter Try.func15, Try.ntmps15
  go_wp2_with fail
  generalize hW : World.alloc _ _ = W
  have bP : Bk W (w.heap.size) #[.slice a zs.length ca, .slice b ys.length cb] 32 := by rw [← hW]; repeat (first | exact Bk.new' (by simp) | refine Bk.alloc ?_ _)
  have bT : Bk W (w.heap.size + 1 + 1) #[.slice a zs.length ca, .slice b ys.length cb, .int .i64 src, .int .i64 c, .int .i64 s, .int .i64 h] 60 := by rw [← hW]; repeat (first | exact Bk.new' (by simp) | refine Bk.alloc ?_ _)
  have bD : Bk W (w.heap.size + 1) #[.int .i64 c, .int .i64 s, .int .i64 h] 34 := by rw [← hW]; repeat (first | exact Bk.new' (by simp) | refine Bk.alloc ?_ _)
  have HB : Hid (Below w.heap.size w W) := Lib.hid (by rw [← hW]; exact (by repeat (first | exact Below.refl _ _ | (refine Below.alloc ?_ (by simp <;> omega) _) | (refine Below.setCell ?_ (by simp <;> omega) _) | (refine Below.drew ?_) | (refine bel_drewN ?_ _))))
  clear hW
  (with_reducible refine Calls.mono (K.out _ HB.out) ?_)
  rintro e w1 ⟨rfl, hb⟩
  replace bP := bP.on hb
  replace bT := bT.on hb
  replace bD := bD.on hb
  replace HB := Lib.hid (bel_end HB.out hb)
  clear hb
  go_wp2
  go_ret2
  exact ⟨none, 0, by rw [HT.out, HQ.out]; rfl, by rw [HT.out]; exact ⟨World.ownsRow_nil _ _ _ _, fun g e => by simp [Value.ownBlock] at e, Nat.le_refl _⟩, HB.out⟩

set_option maxRecDepth 100000 in
set_option maxHeartbeats 4000000 in
theorem ilo_ok (w : World) (a b : Option Addr) (ca cb : Nat) (zs ys : List Int) (src c s h : Int) (hq : rcod zs ys src c s h src = 0) (hp : Prof w w.heap.size a b zs ys) :
    Calls Try.prog 15 #[.agg #[.slice a zs.length ca, .slice b ys.length cb], .int .i64 src, .agg #[.int .i64 c, .int .i64 s, .int .i64 h]] w fun e w' => ∃ (a' : Option Addr) (c' : Nat), e = .returned (.tuple #[.slice a' (loL zs ys src c s h).length c', .int .i64 (rcod zs ys src c s h src)]) ∧ OwnA w' w.heap.size w'.heap.size a' c' (loL zs ys src c s h) ∧ Below w.heap.size w w' := by
  have HP := Lib.hid hp
  have HQ := Lib.hid hq
  obtain ⟨hv, od, ⟨i, rfl, hi⟩, -⟩ := rcod_0 hq
  have ho := Okp.of hv
  have K : Hid (∀ W : World, Below w.heap.size w W → Calls Try.prog 27 #[.agg #[.slice a zs.length ca, .slice b ys.length cb, .int .i64 (i : Int), .int .i64 c, .int .i64 s, .int .i64 h], .int .i64 (i : Int)] W fun e w' => e = .returned (.int .i64 0) ∧ Below W.heap.size W w') := Lib.hid (fun W hb => by have := rer_any W a b ca cb zs ys (i : Int) (i : Int) c s h (HP.out.on hb); rwa [show rcT (prfB zs ys) (dirB c s h) (hkB zs (i : Int)) (hkB zs (i : Int)) = 0 from hq] at this)
  have n2 := ho.n2
  have n12 := ho.n12
  have HT : Hid (loL zs ys (i : Int) c s h = opL ys (i : Int) c h (zs.length - 1)) := Lib.hid (by unfold loL; rw [hq, if_pos rfl])
  have HL : Hid (∀ (W : World) (x : Int), Calls Try.prog 33 #[.agg #[.slice a zs.length ca, .slice b ys.length cb], .int .i64 x] W fun e w' => e = .returned (.bool (hlB zs x)) ∧ Below W.heap.size W w') := Lib.hid (fun W x => hly_any W a b ca cb zs ys x (by omega))
  have CC : Hid (∀ (W : World) (k : Nat) (x : Int), x = (k : Int) → Below w.heap.size w W → k < zs.length → Calls Try.prog 34 #[.agg #[.slice a zs.length ca, .slice b ys.length cb, .int .i64 (i : Int), .int .i64 c, .int .i64 s, .int .i64 h], .int .i64 x] W fun e w' => e = .returned (.bool (crB ys (i : Int) c h (k : Int))) ∧ Below W.heap.size W w') := Lib.hid (fun W k x hx hb hk => by subst hx; exact rcc_any W a b ca cb zs ys i k c s h (HP.out.on hb) ho hi hk od)
  clear hq hv od ho hp
  obtain ⟨i0, hi0, hz0, hz1, hz2⟩ := info_parts info_i64
  go_enter Try.func15, Try.ntmps15
  go_wp2_with fail
  generalize hW : World.alloc _ _ = W
  have bP : Bk W (w.heap.size) #[.slice a zs.length ca, .slice b ys.length cb] 32 := by rw [← hW]; repeat (first | exact Bk.new' (by simp) | refine Bk.alloc ?_ _)
  have bT : Bk W (w.heap.size + 1 + 1) #[.slice a zs.length ca, .slice b ys.length cb, .int .i64 (i : Int), .int .i64 c, .int .i64 s, .int .i64 h] 60 := by rw [← hW]; repeat (first | exact Bk.new' (by simp) | refine Bk.alloc ?_ _)
  have bD : Bk W (w.heap.size + 1) #[.int .i64 c, .int .i64 s, .int .i64 h] 34 := by rw [← hW]; repeat (first | exact Bk.new' (by simp) | refine Bk.alloc ?_ _)
  have HB : Hid (Below w.heap.size w W) := Lib.hid (by rw [← hW]; exact (by repeat (first | exact Below.refl _ _ | (refine Below.alloc ?_ (by simp <;> omega) _) | (refine Below.setCell ?_ (by simp <;> omega) _) | (refine Below.drew ?_) | (refine bel_drewN ?_ _))))
  clear hW
  (with_reducible refine Calls.mono (K.out _ HB.out) ?_)
  rintro e w1 ⟨rfl, hb⟩
  replace bP := bP.on hb
  replace bT := bT.on hb
  replace bD := bD.on hb
  replace HB := Lib.hid (bel_end HB.out hb)
  clear hb
  have p0 := bP.cell 0 rfl
  have p1 := bP.cell 1 rfl
  have t0 := bT.cell 0 rfl
  have t1 := bT.cell 1 rfl
  have t2 := bT.cell 2 rfl
  have t3 := bT.cell 3 rfl
  have t4 := bT.cell 4 rfl
  have t5 := bT.cell 5 rfl
  go_wp2_with fail
  go_loopw [10, 11] (fun v x wr => ∃ (k : Nat) (a' : Option Addr) (c' : Nat) (L : List Int), x = .int .i64 (k : Int) ∧ k + 1 ≤ zs.length ∧ L = opL ys (i : Int) c h k ∧ v = .slice a' L.length c' ∧ RowIn w1 a' c' L wr) (fun _ x _ => zs.length - (intOf x).toNat)
  case atStart => exact ⟨0, none, 0, [], rfl, by omega, rfl, rfl, RowIn.nil _⟩
  case round =>
    obtain ⟨k, a', c', L, rfl, hk, hL, rfl, hR⟩ := hrel
    have hLn : L.length ≤ 12 := by rw [hL]; exact Nat.le_trans (opL_len _ _ _ _ _) (by omega)
    have EL := Lib.hid hL
    have bP2 := bP.on hR.bel
    have bT2 := bT.on hR.bel
    have HB2 := Lib.hid (bel_end HB.out hR.bel)
    have HR := Lib.hid hR
    clear hL hR p0 p1 t0 t1 t2 t3 t4 t5
    have p0 := bP2.cell 0 rfl
    have p1 := bP2.cell 1 rfl
    have t0 := bT2.cell 0 rfl
    have t1 := bT2.cell 1 rfl
    have t2 := bT2.cell 2 rfl
    have t3 := bT2.cell 3 rfl
    have t4 := bT2.cell 4 rfl
    have t5 := bT2.cell 5 rfl
    by_cases hlt : k + 1 < zs.length
    case pos =>
      have HY := Lib.hid (hlB_yes hlt)
      go_wp2_with fail
      (with_reducible refine Calls.mono (HL.out _ _) ?_)
      rw [HY.out]
      rintro e wa ⟨rfl, hb⟩
      replace bP2 := bP2.on hb
      replace bT2 := bT2.on hb
      replace HB2 := Lib.hid (bel_end HB2.out hb)
      replace HR := Lib.hid (HR.out.on hb)
      clear hb p0 p1 t0 t1 t2 t3 t4 t5
      have p0 := bP2.cell 0 rfl
      have p1 := bP2.cell 1 rfl
      have t0 := bT2.cell 0 rfl
      have t1 := bT2.cell 1 rfl
      have t2 := bT2.cell 2 rfl
      have t3 := bT2.cell 3 rfl
      have t4 := bT2.cell 4 rfl
      have t5 := bT2.cell 5 rfl
      cases h1 : crB ys (i : Int) c h (k : Int)
      · have H1 := Lib.hid h1
        clear h1
        go_wp2_with fail
        (with_reducible refine Calls.mono (CC.out _ k _ rfl HB2.out (by omega)) ?_)
        rw [H1.out]
        rintro e wb ⟨rfl, hb⟩
        replace bP2 := bP2.on hb
        replace bT2 := bT2.on hb
        replace HB2 := Lib.hid (bel_end HB2.out hb)
        replace HR := Lib.hid (HR.out.on hb)
        clear hb p0 p1 t0 t1 t2 t3 t4 t5
        have p0 := bP2.cell 0 rfl
        have p1 := bP2.cell 1 rfl
        have t0 := bT2.cell 0 rfl
        have t1 := bT2.cell 1 rfl
        have t2 := bT2.cell 2 rfl
        have t3 := bT2.cell 3 rfl
        have t4 := bT2.cell 4 rfl
        have t5 := bT2.cell 5 rfl
        go_wp2
        go_roundw
        (case rel => exact ⟨k + 1, a', c', L, by go_num, by omega, by rw [EL.out]; exact (opL_f (opP_f1 H1.out)).symm, rfl, HR.out⟩)
        (case measure => simp [intOf]; omega)
      · have H1 := Lib.hid h1
        clear h1
        go_wp2_with fail
        (with_reducible refine Calls.mono (CC.out _ k _ rfl HB2.out (by omega)) ?_)
        rw [H1.out]
        rintro e wb ⟨rfl, hb⟩
        replace bP2 := bP2.on hb
        replace bT2 := bT2.on hb
        replace HB2 := Lib.hid (bel_end HB2.out hb)
        replace HR := Lib.hid (HR.out.on hb)
        clear hb p0 p1 t0 t1 t2 t3 t4 t5
        have p0 := bP2.cell 0 rfl
        have p1 := bP2.cell 1 rfl
        have t0 := bT2.cell 0 rfl
        have t1 := bT2.cell 1 rfl
        have t2 := bT2.cell 2 rfl
        have t3 := bT2.cell 3 rfl
        have t4 := bT2.cell 4 rfl
        have t5 := bT2.cell 5 rfl
        go_wp2_with fail
        (with_reducible refine Calls.mono (CC.out _ (k + 1) _ (by omega) HB2.out (by omega)) ?_)
        cases h2 : crB ys (i : Int) c h ((k + 1 : Nat) : Int)
        · have H2 := Lib.hid h2
          clear h2
          rintro e wd ⟨rfl, hb⟩
          replace bP2 := bP2.on hb
          replace bT2 := bT2.on hb
          replace HB2 := Lib.hid (bel_end HB2.out hb)
          replace HR := Lib.hid (HR.out.on hb)
          clear hb p0 p1 t0 t1 t2 t3 t4 t5
          have p0 := bP2.cell 0 rfl
          have p1 := bP2.cell 1 rfl
          have t0 := bT2.cell 0 rfl
          have t1 := bT2.cell 1 rfl
          have t2 := bT2.cell 2 rfl
          have t3 := bT2.cell 3 rfl
          have t4 := bT2.cell 4 rfl
          have t5 := bT2.cell 5 rfl
          go_wp2
          go_roundw
          (case rel => exact ⟨k + 1, a', c', L, by go_num, by omega, by rw [EL.out]; exact (opL_f (opP_f2 H2.out)).symm, rfl, HR.out⟩)
          (case measure => simp [intOf]; omega)
        · have H2 := Lib.hid h2
          clear h2
          rintro e wd ⟨rfl, hb⟩
          replace bP2 := bP2.on hb
          replace bT2 := bT2.on hb
          replace HB2 := Lib.hid (bel_end HB2.out hb)
          replace HR := Lib.hid (HR.out.on hb)
          clear hb p0 p1 t0 t1 t2 t3 t4 t5
          have p0 := bP2.cell 0 rfl
          have p1 := bP2.cell 1 rfl
          have t0 := bT2.cell 0 rfl
          have t1 := bT2.cell 1 rfl
          have t2 := bT2.cell 2 rfl
          have t3 := bT2.cell 3 rfl
          have t4 := bT2.cell 4 rfl
          have t5 := bT2.cell 5 rfl
          go_wp2_with (at_builtin; refine wpList_append_lies _ rfl _ _ 22 rfl (w1.heap.size) 2 i0 (.int .i64 0) 1 8 Try.underlying22 hi0 hz0 hz1 hz2 rfl (by decide) (.slice a' L.length c') L.length (L.map iv4) rfl (HR.out.own.alloc _) ⟨wd.heap.size, 0, none⟩ 1 1 [.int .i64 (k : Int)] rfl rfl (cell_one_new _ _ _) (by simp [Value.oneCell']) (by decide) (by unfold maxLen; omega) (by omega) (by simp; exact Nat.le_succ_of_le HR.out.bel.size) (wd.heap.size + 1) (by simp) ?_; intro g1 cp1 w9 hown hgrow hat hlt9; have R9 := Lib.hid (HR.out.snoc hown hgrow); clear hown hgrow hat hlt9)
          go_roundw
          (case rel => exact ⟨k + 1, some ⟨g1, 0, none⟩, cp1, L ++ [(k : Int)], by go_num, by omega, by rw [EL.out]; exact (opL_t (opP_t H1.out H2.out)).symm, by simp, R9.out⟩)
          (case measure => simp [intOf]; omega)
    case neg =>
      have HY := Lib.hid (hlB_no hlt)
      go_wp2_with fail
      (with_reducible refine Calls.mono (HL.out _ _) ?_)
      rw [HY.out]
      rintro e wa ⟨rfl, hb⟩
      replace bP2 := bP2.on hb
      replace bT2 := bT2.on hb
      replace HB2 := Lib.hid (bel_end HB2.out hb)
      replace HR := Lib.hid (HR.out.on hb)
      clear hb p0 p1 t0 t1 t2 t3 t4 t5
      have p0 := bP2.cell 0 rfl
      have p1 := bP2.cell 1 rfl
      have t0 := bT2.cell 0 rfl
      have t1 := bT2.cell 1 rfl
      have t2 := bT2.cell 2 rfl
      have t3 := bT2.cell 3 rfl
      have t4 := bT2.cell 4 rfl
      have t5 := bT2.cell 5 rfl
      have EN : Hid (L = loL zs ys (i : Int) c s h) := Lib.hid (by rw [EL.out, HT.out, show k = zs.length - 1 by omega])
      go_wp2
      go_ret2
      exact ⟨a', c', by rw [← EN.out, HQ.out]; rfl, by rw [← EN.out]; exact HR.out.ownA HB.out.size, HB2.out⟩

theorem ilo_any (w : World) (a b : Option Addr) (ca cb : Nat) (zs ys : List Int) (src c s h : Int) (hp : Prof w w.heap.size a b zs ys) :
    Calls Try.prog 15 #[.agg #[.slice a zs.length ca, .slice b ys.length cb], .int .i64 src, .agg #[.int .i64 c, .int .i64 s, .int .i64 h]] w fun e w' => ∃ (a' : Option Addr) (c' : Nat), e = .returned (.tuple #[.slice a' (loL zs ys src c s h).length c', .int .i64 (rcod zs ys src c s h src)]) ∧ OwnA w' w.heap.size w'.heap.size a' c' (loL zs ys src c s h) ∧ Below w.heap.size w w' := by
  by_cases hq : rcod zs ys src c s h src = 0
  · exact ilo_ok w a b ca cb zs ys src c s h hq hp
  · exact ilo_no w a b ca cb zs ys src c s h _ rfl hq hp

set_option maxRecDepth 100000 in
set_option maxHeartbeats 1000000 in
theorem slo_no (w : World) (a b : Option Addr) (ca cb : Nat) (zs ys : List Int) (src c s h : Int) (q : Int) (hq : rcod zs ys src c s h src = q) (h0 : ¬ q = 0) (hp : Prof w w.heap.size a b zs ys) :
    Calls Try.prog 16 #[.agg #[.slice a zs.length ca, .slice b ys.length cb], .int .i64 src, .agg #[.int .i64 c, .int .i64 s, .int .i64 h]] w fun e w' => ∃ (a' : Option Addr) (c' : Nat), e = .returned (.tuple #[.slice a' (loL zs ys src c s h).length c', .int .i64 (rcod zs ys src c s h src)]) ∧ OwnA w' w.heap.size w'.heap.size a' c' (loL zs ys src c s h) ∧ Below w.heap.size w w' := by
  have HP := Lib.hid hp
  have HT : Hid (loL zs ys src c s h = []) := Lib.hid (by unfold loL; rw [hq, if_neg h0])
  have HQ := Lib.hid hq
  have K : Hid (∀ W : World, Below w.heap.size w W → Calls Try.prog 24 #[.agg #[.slice a zs.length ca, .slice b ys.length cb], .int .i64 src, .agg #[.int .i64 c, .int .i64 s, .int .i64 h], .int .i64 0] W fun e w' => e = .returned (.int .i64 q) ∧ Below W.heap.size W w') := Lib.hid (fun W hb => by have := lrc_any W a b ca cb zs ys src 0 c s h (HP.out.on hb); rwa [show rcT (prfB zs ys) (dirB c s h) (hkB zs src) (hkB zs 0) = q from (rcod_src zs ys src c s h).trans hq] at this)
  have hq0 : (q != 0) = true := by simpa using h0
  clear hq h0 hp
  go_enter Try.func16, Try.ntmps16
  go_wp2_with fail
  generalize hW : World.alloc _ _ = W
  have bP : Bk W (w.heap.size) #[.slice a zs.length ca, .slice b ys.length cb] 32 := by rw [← hW]; repeat (first | exact Bk.new' (by simp) | refine Bk.alloc ?_ _)
  have bD : Bk W (w.heap.size + 1) #[.int .i64 c, .int .i64 s, .int .i64 h] 34 := by rw [← hW]; repeat (first | exact Bk.new' (by simp) | refine Bk.alloc ?_ _)
  have HB : Hid (Below w.heap.size w W) := Lib.hid (by rw [← hW]; exact (by repeat (first | exact Below.refl _ _ | (refine Below.alloc ?_ (by simp <;> omega) _) | (refine Below.setCell ?_ (by simp <;> omega) _) | (refine Below.drew ?_) | (refine bel_drewN ?_ _))))
  clear hW
  (with_reducible refine Calls.mono (K.out _ HB.out) ?_)
  rintro e w1 ⟨rfl, hb⟩
  replace bP := bP.on hb
  replace bD := bD.on hb
  replace HB := Lib.hid (bel_end HB.out hb)
  clear hb
  go_wp2
  go_ret2
  exact ⟨none, 0, by rw [HT.out, HQ.out]; rfl, by rw [HT.out]; exact ⟨World.ownsRow_nil _ _ _ _, fun g e => by simp [Value.ownBlock] at e, Nat.le_refl _⟩, HB.out⟩

set_option maxRecDepth 100000 in
set_option maxHeartbeats 4000000 in
theorem slo_ok (w : World) (a b : Option Addr) (ca cb : Nat) (zs ys : List Int) (src c s h : Int) (hq : rcod zs ys src c s h src = 0) (hp : Prof w w.heap.size a b zs ys) :
    Calls Try.prog 16 #[.agg #[.slice a zs.length ca, .slice b ys.length cb], .int .i64 src, .agg #[.int .i64 c, .int .i64 s, .int .i64 h]] w fun e w' => ∃ (a' : Option Addr) (c' : Nat), e = .returned (.tuple #[.slice a' (loL zs ys src c s h).length c', .int .i64 (rcod zs ys src c s h src)]) ∧ OwnA w' w.heap.size w'.heap.size a' c' (loL zs ys src c s h) ∧ Below w.heap.size w w' := by
  have HP := Lib.hid hp
  have HQ := Lib.hid hq
  obtain ⟨hv, od, ⟨i, rfl, hi⟩, -⟩ := rcod_0 hq
  have ho := Okp.of hv
  have K : Hid (∀ W : World, Below w.heap.size w W → Calls Try.prog 24 #[.agg #[.slice a zs.length ca, .slice b ys.length cb], .int .i64 (i : Int), .agg #[.int .i64 c, .int .i64 s, .int .i64 h], .int .i64 0] W fun e w' => e = .returned (.int .i64 0) ∧ Below W.heap.size W w') := Lib.hid (fun W hb => by have := lrc_any W a b ca cb zs ys (i : Int) 0 c s h (HP.out.on hb); rwa [show rcT (prfB zs ys) (dirB c s h) (hkB zs (i : Int)) (hkB zs 0) = 0 from (rcod_src zs ys (i : Int) c s h).trans hq] at this)
  have n2 := ho.n2
  have n12 := ho.n12
  have HT : Hid (loL zs ys (i : Int) c s h = opL ys (i : Int) c h (zs.length - 1)) := Lib.hid (by unfold loL; rw [hq, if_pos rfl])
  have CC : Hid (∀ (W : World) (k : Nat) (x : Int), x = (k : Int) → Below w.heap.size w W → k < zs.length → Calls Try.prog 35 #[.agg #[.slice a zs.length ca, .slice b ys.length cb], .int .i64 (i : Int), .agg #[.int .i64 c, .int .i64 s, .int .i64 h], .int .i64 x] W fun e w' => ∃ N : Int, e = .returned (.int .i64 N) ∧ decide (0 < N) = crB ys (i : Int) c h (k : Int) ∧ Below W.heap.size W w') := Lib.hid (fun W k x hx hb hk => by
    subst hx
    have q1 := mul_in (a := h) (b := ys.getD i 0) (A := 1000) (B := 1700000) (by have := od.h1; omega) (by have := od.h2; omega) (ho.sge i) (ho.shi i)
    have q2 := mul_in (a := c) (b := ys.getD k 0) (A := 1000) (B := 1700000) (by have := od.c1; omega) (by have := od.c2; have := od.h2; omega) (ho.sge k) (ho.shi k)
    refine (lsq_any W a b ca cb zs ys i k c s h (HP.out.on hb) ho hi hk od).mono ?_
    rintro e w' ⟨rfl, hb'⟩
    refine ⟨_, rfl, ?_, hb'⟩
    unfold crB
    rw [rA_nat, rB_nat, Bool.eq_iff_iff, decide_eq_true_eq, decide_eq_true_eq]
    exact sq_pos q1.1 q2.1)
  clear hq hv od ho hp
  obtain ⟨i0, hi0, hz0, hz1, hz2⟩ := info_parts info_i64
  go_enter Try.func16, Try.ntmps16
  go_wp2_with fail
  generalize hW : World.alloc _ _ = W
  have bP : Bk W (w.heap.size) #[.slice a zs.length ca, .slice b ys.length cb] 32 := by rw [← hW]; repeat (first | exact Bk.new' (by simp) | refine Bk.alloc ?_ _)
  have bD : Bk W (w.heap.size + 1) #[.int .i64 c, .int .i64 s, .int .i64 h] 34 := by rw [← hW]; repeat (first | exact Bk.new' (by simp) | refine Bk.alloc ?_ _)
  have HB : Hid (Below w.heap.size w W) := Lib.hid (by rw [← hW]; exact (by repeat (first | exact Below.refl _ _ | (refine Below.alloc ?_ (by simp <;> omega) _) | (refine Below.setCell ?_ (by simp <;> omega) _) | (refine Below.drew ?_) | (refine bel_drewN ?_ _))))
  clear hW
  (with_reducible refine Calls.mono (K.out _ HB.out) ?_)
  rintro e w1 ⟨rfl, hb⟩
  replace bP := bP.on hb
  replace bD := bD.on hb
  replace HB := Lib.hid (bel_end HB.out hb)
  clear hb
  have p0 := bP.cell 0 rfl
  have p1 := bP.cell 1 rfl
  have d0 := bD.cell 0 rfl
  have d1 := bD.cell 1 rfl
  have d2 := bD.cell 2 rfl
  have R0 := Lib.hid (RowIn.lit w1)
  go_wp2_with fail
  go_loopw [9, 10] (fun v x wr => ∃ (k : Nat) (a' : Option Addr) (c' : Nat) (L : List Int), x = .int .i64 (k : Int) ∧ k + 1 ≤ zs.length ∧ L = opL ys (i : Int) c h k ∧ v = .slice a' L.length c' ∧ RowIn w1 a' c' L wr) (fun _ x _ => zs.length - (intOf x).toNat)
  case atStart => exact ⟨0, _, 0, [], rfl, by omega, rfl, rfl, R0.out⟩
  case round =>
    obtain ⟨k, a', c', L, rfl, hk, hL, rfl, hR⟩ := hrel
    have hLn : L.length ≤ 12 := by rw [hL]; exact Nat.le_trans (opL_len _ _ _ _ _) (by omega)
    have EL := Lib.hid hL
    have bP2 := bP.on hR.bel
    have bD2 := bD.on hR.bel
    have HB2 := Lib.hid (bel_end HB.out hR.bel)
    have HR := Lib.hid hR
    clear hL hR p0 p1 d0 d1 d2 R0
    have p0 := bP2.cell 0 rfl
    have p1 := bP2.cell 1 rfl
    have d0 := bD2.cell 0 rfl
    have d1 := bD2.cell 1 rfl
    have d2 := bD2.cell 2 rfl
    by_cases hlt : k + 1 < zs.length
    case pos =>
      go_wp2_with fail
      (with_reducible refine Calls.mono (CC.out _ k _ rfl HB2.out (by omega)) ?_)
      rintro e wb ⟨N, rfl, hN, hb⟩
      replace bP2 := bP2.on hb
      replace bD2 := bD2.on hb
      replace HB2 := Lib.hid (bel_end HB2.out hb)
      replace HR := Lib.hid (HR.out.on hb)
      clear hb p0 p1 d0 d1 d2
      have p0 := bP2.cell 0 rfl
      have p1 := bP2.cell 1 rfl
      have d0 := bD2.cell 0 rfl
      have d1 := bD2.cell 1 rfl
      have d2 := bD2.cell 2 rfl
      cases h1 : crB ys (i : Int) c h (k : Int)
      · rw [h1] at hN
        have H1 := Lib.hid h1
        have hN1 : ¬ 0 < N := of_decide_eq_false hN
        clear h1 hN
        go_wp2
        go_roundw
        (case rel => exact ⟨k + 1, a', c', L, by go_num, by omega, by rw [EL.out]; exact (opL_f (opP_f1 H1.out)).symm, rfl, HR.out⟩)
        (case measure => simp [intOf]; omega)
      · rw [h1] at hN
        have H1 := Lib.hid h1
        have hN1 : 0 < N := of_decide_eq_true hN
        clear h1 hN
        go_wp2_with fail
        (with_reducible refine Calls.mono (CC.out _ (k + 1) _ (by omega) HB2.out (by omega)) ?_)
        rintro e wd ⟨M, rfl, hM, hb⟩
        replace bP2 := bP2.on hb
        replace bD2 := bD2.on hb
        replace HB2 := Lib.hid (bel_end HB2.out hb)
        replace HR := Lib.hid (HR.out.on hb)
        clear hb p0 p1 d0 d1 d2
        have p0 := bP2.cell 0 rfl
        have p1 := bP2.cell 1 rfl
        have d0 := bD2.cell 0 rfl
        have d1 := bD2.cell 1 rfl
        have d2 := bD2.cell 2 rfl
        cases h2 : crB ys (i : Int) c h ((k + 1 : Nat) : Int)
        · rw [h2] at hM
          have H2 := Lib.hid h2
          have hM1 : ¬ 0 < M := of_decide_eq_false hM
          clear h2 hM
          go_wp2
          go_roundw
          (case rel => exact ⟨k + 1, a', c', L, by go_num, by omega, by rw [EL.out]; exact (opL_f (opP_f2 H2.out)).symm, rfl, HR.out⟩)
          (case measure => simp [intOf]; omega)
        · rw [h2] at hM
          have H2 := Lib.hid h2
          have hM1 : 0 < M := of_decide_eq_true hM
          clear h2 hM
          go_wp2_with (at_builtin; refine wpList_append_lies _ rfl _ _ 22 rfl (w1.heap.size) 2 i0 (.int .i64 0) 1 8 Try.underlying22 hi0 hz0 hz1 hz2 rfl (by decide) (.slice a' L.length c') L.length (L.map iv4) rfl (HR.out.own.alloc _) ⟨wd.heap.size, 0, none⟩ 1 1 [.int .i64 (k : Int)] rfl rfl (cell_one_new _ _ _) (by simp [Value.oneCell']) (by decide) (by unfold maxLen; omega) (by omega) (by simp; exact Nat.le_succ_of_le HR.out.bel.size) (wd.heap.size + 1) (by simp) ?_; intro g1 cp1 w9 hown hgrow hat hlt9; have R9 := Lib.hid (HR.out.snoc hown hgrow); clear hown hgrow hat hlt9)
          go_roundw
          (case rel => exact ⟨k + 1, some ⟨g1, 0, none⟩, cp1, L ++ [(k : Int)], by go_num, by omega, by rw [EL.out]; exact (opL_t (opP_t H1.out H2.out)).symm, by simp, R9.out⟩)
          (case measure => simp [intOf]; omega)
    case neg =>
      have EN : Hid (L = loL zs ys (i : Int) c s h) := Lib.hid (by rw [EL.out, HT.out, show k = zs.length - 1 by omega])
      go_wp2
      go_ret2
      exact ⟨a', c', by rw [← EN.out, HQ.out]; rfl, by rw [← EN.out]; exact HR.out.ownA HB.out.size, HB2.out⟩

theorem slo_any (w : World) (a b : Option Addr) (ca cb : Nat) (zs ys : List Int) (src c s h : Int) (hp : Prof w w.heap.size a b zs ys) :
    Calls Try.prog 16 #[.agg #[.slice a zs.length ca, .slice b ys.length cb], .int .i64 src, .agg #[.int .i64 c, .int .i64 s, .int .i64 h]] w fun e w' => ∃ (a' : Option Addr) (c' : Nat), e = .returned (.tuple #[.slice a' (loL zs ys src c s h).length c', .int .i64 (rcod zs ys src c s h src)]) ∧ OwnA w' w.heap.size w'.heap.size a' c' (loL zs ys src c s h) ∧ Below w.heap.size w w' := by
  by_cases hq : rcod zs ys src c s h src = 0
  · exact slo_ok w a b ca cb zs ys src c s h hq hp
  · exact slo_no w a b ca cb zs ys src c s h _ rfl hq hp
end Go.Proofs.Ytkjpjhklnaehbab
