/- The greatest depth of a ray: what is computed, and the contract of the program's depthOf. -/
import Derived.Test.YtaaklnabomhleaaRyX
import Derived.Test.YtaaklnabomhleaaRyT
import Derived.Test.YtaaklnabomhleaaArcU
import Derived.Test.YtaaklnabomhleaaArcT
import Derived.Test.YtaaklnabomhleaaLys
import Derived.Handy
import Derived.Outline
import Derived.LoopTactic
import Derived.Deep.RegionHeld3
import Derived.Deep.DeepCutAuto
import Derived.Deep.RegionWith
namespace Go.Proofs.Ytaaklnabomhleaa
open Go.ChangeShapes Go.WideShapes Go.ChangeAt Go.RowKit Go.Shelf Num
set_option linter.unusedVariables false
set_option linter.unusedSimpArgs false
theorem fld_z (w : World) (z u : Int) : (Instr.field 171 (.agg #[.int .i64 z, .int .i64 u]) 0).run Try.prog w = .ok (.int .i64 z) w := by kernel_rfl
/-- the greater one -/
def mx (x y : Int) : Int := if x < y then y else x
theorem mx_l (x y : Int) : x ≤ mx x y := by unfold mx; split <;> omega
theorem mx_r (x y : Int) : y ≤ mx x y := by unfold mx; split <;> omega
theorem mx_mx {m z : Int} (t : Int) (h : z ≤ m) : mx m (mx z t) = mx m t := by unfold mx; repeat' split <;> omega
/-- the depths that an event reaches -/
def dpA (zs ys : List Int) (i : Nat) (c h : Int) (x : RSt) : Int := if evV zs ys i c h x.k x.dn = 2 then tdLo zs ys i c h (lk x.k x.dn) x.dn else zs.getD (nxt zs ys i c h x).k 0
def dpB (zs ys : List Int) (i : Nat) (c h : Int) (x : RSt) : Int := if evV zs ys i c h x.k x.dn = 2 then tdHi zs ys i c h (lk x.k x.dn) x.dn else zs.getD (nxt zs ys i c h x).k 0
/-- the greatest depths after the first events -/
def dpF (zs ys : List Int) (i : Nat) (c h : Int) (x : RSt) : Nat → Int × Int
  | 0 => (zs.getD x.k 0, zs.getD x.k 0)
  | n + 1 => (mx (dpF zs ys i c h x n).1 (dpA zs ys i c h (runS zs ys i c h x n)), mx (dpF zs ys i c h x n).2 (dpB zs ys i c h (runS zs ys i c h x n)))
theorem nxt_2 {zs ys : List Int} {i : Nat} {c h : Int} {x : RSt} (e : evV zs ys i c h x.k x.dn = 2) : (nxt zs ys i c h x).k = x.k := by unfold nxt; rw [e]; rfl
theorem dp_ge (zs ys : List Int) (i : Nat) (c h : Int) (x : RSt) : ∀ n, zs.getD (runS zs ys i c h x n).k 0 ≤ (dpF zs ys i c h x n).1 ∧ zs.getD (runS zs ys i c h x n).k 0 ≤ (dpF zs ys i c h x n).2
  | 0 => ⟨Int.le_refl _, Int.le_refl _⟩
  | n + 1 => by
    have ih := dp_ge zs ys i c h x n
    show zs.getD (nxt zs ys i c h (runS zs ys i c h x n)).k 0 ≤ mx _ _ ∧ zs.getD (nxt zs ys i c h (runS zs ys i c h x n)).k 0 ≤ mx _ _
    by_cases e : evV zs ys i c h (runS zs ys i c h x n).k (runS zs ys i c h x n).dn = 2
    · rw [nxt_2 e]
      exact ⟨Int.le_trans ih.1 (mx_l _ _), Int.le_trans ih.2 (mx_l _ _)⟩
    · unfold dpA dpB
      rw [if_neg e, if_neg e]
      exact ⟨mx_r _ _, mx_r _ _⟩
def dpT (zs ys : List Int) (src c s h n : Int) : Int × Int := if tcod zs ys src c s h n = 0 then dpF zs ys src.toNat c h (fst0 src.toNat s) n.toNat else (0, 0)
theorem acod_tc {zs ys : List Int} {src c s h n : Int} (e : tcod zs ys src c s h n = 0) {j : Nat} (hj : j + 1 < zs.length) : acod zs ys src c s h (j : Int) = 0 := by
  have e1 : fcod zs ys src c s h = 0 := by
    by_cases q : fcod zs ys src c s h = 0
    · exact q
    · unfold tcod at e; rw [if_neg q] at e; exact e
  unfold fcod rcod at e1
  obtain ⟨h1, h2, h3, -⟩ := rcT_0 e1
  unfold acod rcT
  rw [h1, h2, h3, show hlB zs (j : Int) = true from by unfold hlB; simp; omega]
  rfl
theorem evV_2 {zs ys : List Int} {i k : Nat} {c h : Int} {dn : Bool} (e : evV zs ys i c h k dn = 2) : inP zs.length k dn = true ∧ crB ys (i : Int) c h (fk k dn : Nat) = false := by
  unfold evV at e
  cases hin : inP zs.length k dn
  · rw [hin] at e; cases dn <;> simp at e
  · cases hc : crB ys (i : Int) c h (fk k dn : Nat)
    · exact ⟨rfl, rfl⟩
    · rw [hin, hc] at e; simp at e
theorem tdF_ok {zs ys : List Int} {i k : Nat} {c s h n : Int} {dn : Bool} (e : tcod zs ys (i : Int) c s h n = 0) (hk : k < zs.length) (hcr : crB ys (i : Int) c h (k : Int) = true) (hv : evV zs ys i c h k dn = 2) :
    tdF zs ys (i : Int) c s h (lyI k dn) dn = (tdLo zs ys i c h (lk k dn) dn, tdHi zs ys i c h (lk k dn) dn, 0) := by
  obtain ⟨hin, hc⟩ := evV_2 hv
  obtain ⟨hl, hn, hf, hfl⟩ := inP_l hk hin
  rw [lyI_n hin]
  unfold tdF
  rw [if_pos (acod_tc e hl), Int.toNat_natCast, Int.toNat_natCast, hn, hf, show vdV ys i c h k (fk k dn) = 2 from by unfold vdV; rw [hcr, hc]; rfl]
  rfl

set_option maxRecDepth 100000 in
set_option maxHeartbeats 4000000 in
theorem dpo_any (w : World) (a b : Option Addr) (ca cb : Nat) (zs ys : List Int) (i k K : Nat) (c s h lo hi : Int) (dn d2 : Bool) (hp : Prof w w.heap.size a b zs ys) (r : RyOk zs ys i c s h) (hk : k < zs.length) (hcr : crB ys (i : Int) c h (k : Int) = true) (hK : K < zs.length) :
    Calls Try.prog 124 #[.agg #[.slice a zs.length ca, .slice b ys.length cb, .int .i64 (i : Int), .int .i64 c, .int .i64 s, .int .i64 h], .agg #[evW a b ca cb zs ys i c s h k dn, .int .i64 (K : Int), .bool d2, .int .i64 lo, .int .i64 hi]] w fun e w' => e = .returned (.agg #[.int .i64 (if evV zs ys i c h k dn = 2 then tdLo zs ys i c h (lk k dn) dn else zs.getD K 0), .int .i64 (if evV zs ys i c h k dn = 2 then tdHi zs ys i c h (lk k dn) dn else zs.getD K 0)]) ∧ Below w.heap.size w w' := by
  have HP := Lib.hid hp
  have KA : Hid (∀ W : World, Below w.heap.size w W → Calls Try.prog 123 #[.agg #[.slice a zs.length ca, .slice b ys.length cb], .int .i64 (K : Int)] W fun e w' => e = .returned (.agg #[.int .i64 (zs.getD K 0), .int .i64 (ys.getD K 0)]) ∧ Below W.heap.size W w') := Lib.hid (fun W hb => kat_any W a b ca cb zs ys K (HP.out.on hb) r.ok.len hK)
  have KX : Hid (∀ (x : Int) (W : World), Calls Try.prog 122 #[.int .i64 x] W fun e w' => e = .returned (.agg #[.int .i64 x, .int .i64 x]) ∧ Below W.heap.size W w') := Lib.hid (fun x W => exa_any x W)
  by_cases hv : evV zs ys i c h k dn = 2
  case pos =>
    obtain ⟨hin, hc⟩ := evV_2 hv
    obtain ⟨hl, hn, hf, hfl⟩ := inP_l hk hin
    have hpos : 0 < riS ys c (anr (lk k dn) dn) (afr (lk k dn) dn) := by
      rw [hn, hf]
      have g := r.turn hcr hc
      omega
    have KT : Hid (∀ W : World, Below w.heap.size w W → Calls Try.prog 154 #[.agg #[.slice a zs.length ca, .slice b ys.length cb, .int .i64 (i : Int), .int .i64 c, .int .i64 s, .int .i64 h, .int .i64 (k : Int), .int .i64 (fkI k dn)]] W fun e w' => e = .returned (.agg #[.int .i64 (tdLo zs ys i c h (lk k dn) dn), .int .i64 (tdHi zs ys i c h (lk k dn) dn)]) ∧ Below W.heap.size W w') := Lib.hid (fun W hb => by
      have g := atd_any W a b ca cb zs ys i (anr (lk k dn) dn) (afr (lk k dn) dn) c s h (HP.out.on hb) r (anr_lt hl) (afr_lt hl) hpos
      rw [(td_eq r hpos).1, (td_eq r hpos).2, hn, hf] at g
      rw [fkI_n hin]
      exact g)
    rw [if_pos hv, if_pos hv]
    rw [show evW a b ca cb zs ys i c s h k dn = .iface 196 (.agg #[.slice a zs.length ca, .slice b ys.length cb, .int .i64 (i : Int), .int .i64 c, .int .i64 s, .int .i64 h, .int .i64 (k : Int), .int .i64 (fkI k dn)]) from by unfold evW; rw [hin, hc]; rfl]
    obtain ⟨X, hX⟩ : ∃ X, tdLo zs ys i c h (lk k dn) dn = X := ⟨_, rfl⟩
    obtain ⟨Y, hY⟩ : ∃ X, tdHi zs ys i c h (lk k dn) dn = X := ⟨_, rfl⟩
    obtain ⟨F, hF⟩ : ∃ X, fkI k dn = X := ⟨_, rfl⟩
    rw [hX, hY] at KT ⊢
    rw [hF] at KT ⊢
    have t_22 := ta_22
    clear hp r hk hcr hK hv hin hc hl hn hf hfl hpos hX hY hF KA KX
    go_enter Try.func124, Try.ntmps124
    go_wp2_with fail
    generalize hW : World.alloc _ _ = W
    have bR : Bk W (w.heap.size + 1 + 1) #[.int .i64 0, .int .i64 0] 48 := by rw [← hW]; repeat (first | (refine Bk.new' ?_; (simp; done)) | refine Bk.alloc ?_ _)
    have HB : Hid (Below w.heap.size w W) := Lib.hid (by rw [← hW]; exact (by repeat (first | exact Below.refl _ _ | (refine Below.alloc ?_ (by simp <;> omega) _) | (refine Below.setCell ?_ (by simp <;> omega) _) | (refine Below.drew ?_) | (refine bel_drewN ?_ _))))
    clear hW
    (with_reducible refine Calls.mono (KT.out _ HB.out) ?_)
    rintro e w1 ⟨rfl, hb⟩
    replace bR := bR.on hb
    replace HB := Lib.hid (bel_end HB.out hb)
    clear hb
    have bR_0 := bR.cell 0 rfl
    have bR_1 := bR.cell 1 rfl
    have bR_f0 := bR.frozen 0
    have bR_f1 := bR.frozen 1
    have bR_l := bR.lt
    go_wp2
    exact bodyPost_ret (v := .agg #[.int .i64 X, .int .i64 Y]) (by simp [results, Try.results124, go_sem, bR_0, bR_1]) rfl ⟨rfl, (by repeat (first | exact HB.out | (refine Below.setCell ?_ (by simp <;> omega) _) | (refine Below.alloc ?_ (by simp <;> omega) _) | (refine Below.drew ?_)))⟩
  case neg =>
    rw [if_neg hv, if_neg hv]
    obtain ⟨X, hX⟩ : ∃ X, zs.getD K 0 = X := ⟨_, rfl⟩
    obtain ⟨Y, hY⟩ : ∃ X, ys.getD K 0 = X := ⟨_, rfl⟩
    rw [hX, hY] at KA
    rw [hX]
    have hE : ∃ t v, evW a b ca cb zs ys i c s h k dn = .iface t v ∧ (t = 195 ∨ t = 198 ∨ t = 211) := by
      unfold evW
      unfold evV at hv
      cases hin : inP zs.length k dn <;> cases hc : crB ys (i : Int) c h (fk k dn : Nat) <;> cases dn <;> simp [hin, hc] at hv ⊢
    obtain ⟨t, v, hE, ht⟩ := hE
    rw [hE]
    have t_12 := ta_12
    have t_32 := ta_32
    have t_42 := ta_42
    have f_z := fld_z
    clear hp r hk hcr hK hv hX hY hE
    rcases ht with rfl | rfl | rfl
    all_goals
      go_enter Try.func124, Try.ntmps124
      go_wp2_with fail
      generalize hW : World.alloc _ _ = W
      have bR : Bk W (w.heap.size + 1 + 1) #[.int .i64 0, .int .i64 0] 48 := by rw [← hW]; repeat (first | (refine Bk.new' ?_; (simp; done)) | refine Bk.alloc ?_ _)
      have HB : Hid (Below w.heap.size w W) := Lib.hid (by rw [← hW]; exact (by repeat (first | exact Below.refl _ _ | (refine Below.alloc ?_ (by simp <;> omega) _) | (refine Below.setCell ?_ (by simp <;> omega) _) | (refine Below.drew ?_) | (refine bel_drewN ?_ _))))
      clear hW
      (with_reducible refine Calls.mono (KA.out _ HB.out) ?_)
      rintro e w1 ⟨rfl, hb⟩
      replace bR := bR.on hb
      replace HB := Lib.hid (bel_end HB.out hb)
      clear hb
      go_wp2_with fail
      (with_reducible refine Calls.mono (KX.out _ _) ?_)
      rintro e w2 ⟨rfl, hb⟩
      replace bR := bR.on hb
      replace HB := Lib.hid (bel_end HB.out hb)
      clear hb
      have bR_0 := bR.cell 0 rfl
      have bR_1 := bR.cell 1 rfl
      have bR_f0 := bR.frozen 0
      have bR_f1 := bR.frozen 1
      have bR_l := bR.lt
      go_wp2
      exact bodyPost_ret (v := .agg #[.int .i64 X, .int .i64 X]) (by simp [results, Try.results124, go_sem, bR_0, bR_1]) rfl ⟨rfl, (by repeat (first | exact HB.out | (refine Below.setCell ?_ (by simp <;> omega) _) | (refine Below.alloc ?_ (by simp <;> omega) _) | (refine Below.drew ?_)))⟩
end Go.Proofs.Ytaaklnabomhleaa
