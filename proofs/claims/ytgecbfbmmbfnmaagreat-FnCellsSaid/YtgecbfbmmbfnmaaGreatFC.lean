import Derived.Test.YtgecbfbmmbfnmaaGreatCelR
import Derived.Test.YtgecbfbmmbfnmaaGreatDcw
import Derived.Test.YtgecbfbmmbfnmaaGreatCelI
import Derived.Test.YtgecbfbmmbfnmaaGreatRyZ
import Derived.BigQuiet
import Derived.LoopTactic
import Derived.Handy
import Derived.Outline
namespace Go.Proofs.YtgecbfbmmbfnmaaGreat
section
/- Facts on the range and the verdict of a cell: the order of its directions, what a certain verdict tells. -/
open Go.ChangeShapes Go.WideShapes Go.ChangeAt Go.RowKit Go.Shelf Num
set_option linter.unusedVariables false
set_option linter.unusedSimpArgs false
theorem mnI_comm (a b : Int) : mnI a b = mnI b a := by unfold mnI; split <;> split <;> omega
theorem mxI_comm (a b : Int) : mxI a b = mxI b a := by unfold mxI; split <;> split <;> omega
theorem enS_swap (zs ys : List Int) (i : Nat) (c s h x y z : Int) : ∀ n, enS zs ys i c s h x y z n = enS zs ys i x y z c s h n
  | 0 => rfl
  | n + 1 => by
    unfold enS
    rw [enS_swap zs ys i c s h x y z n, mnI_comm, mxI_comm]
theorem hsB_swap (zs ys : List Int) (i : Nat) (c s h x y z : Int) : ∀ n, hsB zs ys i c s h x y z n = hsB zs ys i x y z c s h n
  | 0 => rfl
  | n + 1 => by
    have e : (evJ zs ys i c s h n == evJ zs ys i x y z n) = (evJ zs ys i x y z n == evJ zs ys i c s h n) := by rw [Bool.eq_iff_iff, beq_iff_eq, beq_iff_eq]; exact ⟨Eq.symm, Eq.symm⟩
    unfold hsB
    rw [hsB_swap zs ys i c s h x y z n, e]
theorem tlB_swap (zs ys : List Int) (i : Nat) (c s h x y z : Int) : ∀ n, tlB zs ys i c s h x y z n = tlB zs ys i x y z c s h n
  | 0 => rfl
  | n + 1 => by
    unfold tlB
    rw [tlB_swap zs ys i c s h x y z n, enS_swap zs ys i c s h x y z (n + 1)]
    cases nxB zs ys i c h (runS zs ys i c h (fst0 i s) n) <;> cases nxB zs ys i x z (runS zs ys i x z (fst0 i y) n) <;> simp
theorem mcT_swap (zs ys : List Int) (src c s h x y z n : Int) : mcT zs ys src c s h x y z n = mcT zs ys src x y z c s h n := by
  unfold mcT
  cases prfB zs ys <;> cases dirB c s h <;> cases dirB x y z <;> cases decide (0 < s) <;> cases decide (0 < y) <;> rfl
theorem hs_run {zs ys : List Int} {i : Nat} {c s h x y z : Int} (hd : (decide (0 < s) == decide (0 < y)) = true) : ∀ n, hsB zs ys i c s h x y z n = true → (runS zs ys i c h (fst0 i s) n).k = (runS zs ys i x z (fst0 i y) n).k ∧ (runS zs ys i c h (fst0 i s) n).dn = (runS zs ys i x z (fst0 i y) n).dn
  | 0, _ => ⟨rfl, by show decide (0 < s) = decide (0 < y); exact eq_of_beq hd⟩
  | n + 1, e => by
    unfold hsB at e
    rw [Bool.and_eq_true] at e
    obtain ⟨e1, e2⟩ := e
    obtain ⟨k1, k2⟩ := hs_run hd n e1
    have e3 : evV zs ys i c h (runS zs ys i c h (fst0 i s) n).k (runS zs ys i c h (fst0 i s) n).dn = evV zs ys i x z (runS zs ys i x z (fst0 i y) n).k (runS zs ys i x z (fst0 i y) n).dn   := eq_of_beq e2
    constructor
    · show (if evV zs ys i c h (runS zs ys i c h (fst0 i s) n).k (runS zs ys i c h (fst0 i s) n).dn = 1 then fk (runS zs ys i c h (fst0 i s) n).k (runS zs ys i c h (fst0 i s) n).dn else (runS zs ys i c h (fst0 i s) n).k) = (if evV zs ys i x z (runS zs ys i x z (fst0 i y) n).k (runS zs ys i x z (fst0 i y) n).dn = 1 then fk (runS zs ys i x z (fst0 i y) n).k (runS zs ys i x z (fst0 i y) n).dn else (runS zs ys i x z (fst0 i y) n).k)
      rw [e3, k1, k2]
    · show (if evV zs ys i c h (runS zs ys i c h (fst0 i s) n).k (runS zs ys i c h (fst0 i s) n).dn = 1 then (runS zs ys i c h (fst0 i s) n).dn else !(runS zs ys i c h (fst0 i s) n).dn) = (if evV zs ys i x z (runS zs ys i x z (fst0 i y) n).k (runS zs ys i x z (fst0 i y) n).dn = 1 then (runS zs ys i x z (fst0 i y) n).dn else !(runS zs ys i x z (fst0 i y) n).dn)
      rw [e3, k2]
theorem vrC_swap (k l1 h1 l2 h2 lo hi kn ds : Int) : vrC k l1 h1 l2 h2 lo hi kn ds = vrC k l2 h2 l1 h1 lo hi kn ds := by
  unfold vrC
  split
  · split <;> split <;> first | rfl | omega
  · rfl
theorem mc_dd {zs ys : List Int} {src c s h x y z n : Int} (e : mcT zs ys src c s h x y z n = 0) : (decide (0 < s) == decide (0 < y)) = true := by
  unfold mcT at e
  cases hd : (decide (0 < s) == decide (0 < y))
  · rw [hd] at e
    cases h1 : prfB zs ys <;> cases h2 : dirB c s h <;> cases h3 : dirB x y z <;> cases h4 : hkB zs src <;> cases h5 : inB n 0 100 <;> rw [h1, h2, h3, h4, h5] at e <;> simp at e
  · rfl
theorem mc_all {zs ys : List Int} {src c s h x y z n : Int} (e : mcT zs ys src c s h x y z n = 0) : prfB zs ys = true ∧ dirB c s h = true ∧ dirB x y z = true ∧ hkB zs src = true ∧ inB n 0 100 = true := by
  unfold mcT at e
  cases h1 : prfB zs ys <;> cases h2 : dirB c s h <;> cases h3 : dirB x y z <;> cases h4 : hkB zs src <;> cases h5 : inB n 0 100 <;> rw [h1, h2, h3, h4, h5] at e <;> simp at e ⊢
theorem tc_ok8 {zs ys : List Int} {i N : Nat} {c s h : Int} (h1 : prfB zs ys = true) (h2 : dirB c s h = true) (h4 : hkB zs (i : Int) = true) (h5 : inB (N : Int) 0 100 = true) (o : okN zs ys i c h (fst0 i s) N = true) : tcod zs ys (i : Int) c s h (N : Int) = 0 := by
  have f1 : fcod zs ys (i : Int) c s h = 0 := by unfold fcod rcod rcT; rw [h1, h2, h4]; rfl
  unfold tcod
  rw [if_pos f1, h5, if_pos rfl, Int.toNat_natCast, Int.toNat_natCast, o]
  rfl
/-- the verdict on a cell doesn't ask for the order of its directions -/
theorem mv_swap (zs ys : List Int) (src c s h x y z n kn ds : Int) : mvT zs ys src c s h x y z n kn ds = mvT zs ys src x y z c s h n kn ds := by
  unfold mvT
  rw [mcT_swap zs ys src x y z c s h n, tlB_swap zs ys src.toNat x y z c s h, hsB_swap zs ys src.toNat x y z c s h, enS_swap zs ys src.toNat x y z c s h]
  by_cases hq : mcT zs ys src c s h x y z n = 0
  · cases hs : hsB zs ys src.toNat c s h x y z n.toNat
    · rfl
    · have k := (hs_run (mc_dd hq) n.toNat hs).1
      rw [k, vrC_swap]
  · rw [if_neg hq, if_neg hq]
theorem en_has (zs ys : List Int) (i : Nat) (c s h x y z : Int) : ∀ n : Nat, (enS zs ys i c s h x y z n).1 ≤ (runS zs ys i c h (fst0 i s) n).lo ∧ (runS zs ys i c h (fst0 i s) n).hi ≤ (enS zs ys i c s h x y z n).2
  | 0 => ⟨Int.le_refl _, Int.le_refl _⟩
  | n + 1 => by
    obtain ⟨g1, g2⟩ := en_has zs ys i c s h x y z n
    show (enS zs ys i c s h x y z n).1 + mnI _ _ ≤ (runS zs ys i c h (fst0 i s) n).lo + adLo zs ys i c h (runS zs ys i c h (fst0 i s) n).k (runS zs ys i c h (fst0 i s) n).dn ∧ (runS zs ys i c h (fst0 i s) n).hi + adHi zs ys i c h (runS zs ys i c h (fst0 i s) n).k (runS zs ys i c h (fst0 i s) n).dn ≤ (enS zs ys i c s h x y z n).2 + mxI _ _
    unfold mnI mxI
    split <;> split <;> (constructor <;> omega)
/-- a cell whose range stands: both rays are traced, and their ranges lie in it -/
theorem mr_in {zs ys : List Int} {src c s h x y z n : Int} (e : (mrgT zs ys src c s h x y z n).2.2 = 0) :
    ∃ i N : Nat, src = (i : Int) ∧ n = (N : Int) ∧ RyOk zs ys i c s h ∧ RyOk zs ys i x y z ∧ tcod zs ys src c s h n = 0 ∧ tcod zs ys src x y z n = 0 ∧ (runS zs ys i c h (fst0 i s) N).k = (runS zs ys i x z (fst0 i y) N).k ∧
      mrgT zs ys src c s h x y z n = ((enS zs ys i c s h x y z N).1, (enS zs ys i c s h x y z N).2, 0) ∧ tlB zs ys i c s h x y z N = true ∧ hsB zs ys i c s h x y z N = true ∧ mcT zs ys src c s h x y z n = 0 ∧
      (enS zs ys i c s h x y z N).1 ≤ (runS zs ys i c h (fst0 i s) N).lo ∧ (runS zs ys i c h (fst0 i s) N).hi ≤ (enS zs ys i c s h x y z N).2 ∧ (enS zs ys i c s h x y z N).1 ≤ (runS zs ys i x z (fst0 i y) N).lo ∧ (runS zs ys i x z (fst0 i y) N).hi ≤ (enS zs ys i c s h x y z N).2 := by
  by_cases hq : mcT zs ys src c s h x y z n = 0
  · have hd := mc_dd hq
    obtain ⟨i, N, rfl, rfl, hN, r, q⟩ := mcT_00 hq
    obtain ⟨p1, p2, p3, p4, p5⟩ := mc_all hq
    have e0 := e
    unfold mrgT at e
    rw [if_pos hq, Int.toNat_natCast, Int.toNat_natCast] at e
    cases ht : tlB zs ys i c s h x y z N
    · rw [ht] at e; simp at e
    cases hs : hsB zs ys i c s h x y z N
    · rw [ht, hs] at e; simp at e
    obtain ⟨o1, o2, -, -⟩ := tlB_ok ht
    have hm : mrgT zs ys (i : Int) c s h x y z (N : Int) = ((enS zs ys i c s h x y z N).1, (enS zs ys i c s h x y z N).2, 0) := by
      unfold mrgT
      rw [if_pos hq, Int.toNat_natCast, Int.toNat_natCast, ht, hs, if_pos rfl, if_pos rfl]
    have g1 := en_has zs ys i c s h x y z N
    have g2 := en_has zs ys i x y z c s h N
    rw [← enS_swap] at g2
    refine ⟨i, N, rfl, rfl, r, q, ?_, ?_, (hs_run hd N hs).1, hm, ht, hs, hq, g1.1, g1.2, g2.1, g2.2⟩
    · exact tc_ok8 p1 p2 p4 p5 o1
    · exact tc_ok8 p1 p3 p4 p5 o2
  · exfalso
    unfold mrgT at e
    rw [if_neg hq] at e
    exact hq e
/-- a certain verdict: the rays end at the receiver's knot, on its two sides -/
theorem mv_two {zs ys : List Int} {c s h x y z kn ds : Int} {i N : Nat} (hq : mcT zs ys (i : Int) c s h x y z (N : Int) = 0) (ht : tlB zs ys i c s h x y z N = true) (hs : hsB zs ys i c s h x y z N = true) (e : (mvT zs ys (i : Int) c s h x y z (N : Int) kn ds).1 = 2) :
    ((runS zs ys i c h (fst0 i s) N).k : Int) = kn ∧ (((runS zs ys i c h (fst0 i s) N).hi < ds ∧ ds < (runS zs ys i x z (fst0 i y) N).lo) ∨ ((runS zs ys i x z (fst0 i y) N).hi < ds ∧ ds < (runS zs ys i c h (fst0 i s) N).lo)) := by
  unfold mvT at e
  rw [if_neg (by rw [hq]; decide), Int.toNat_natCast, Int.toNat_natCast, ht, hs, if_pos hq, if_pos rfl, if_pos rfl] at e
  cases hg : tgB zs kn ds
  · rw [hg] at e
    simp at e
  · rw [hg, if_pos rfl] at e
    dsimp only at e
    unfold vrC at e
    split at e
    · rename_i g
      split at e
      · rename_i g2
        exact ⟨g.1, g2⟩
      · simp at e
    · simp at e
end
section
/- The walk of the law of cells. -/
open Go.ChangeShapes Go.WideShapes Go.ChangeAt Go.RowKit Go.Shelf Num
set_option linter.unusedVariables false
attribute [local go_sem ↓] Go.wp_at_zero Go.wp_at_succ
theorem eq_iv (w : World) (a b : Int) : (Op.equal 34 (.agg #[.int .i64 a, .int .i64 b]) (.agg #[.int .i64 a, .int .i64 b])).run Tryz.prog w = .ok true w := by
  show (Op.equalIn 10000 34 (.agg #[.int .i64 a, .int .i64 b]) (.agg #[.int .i64 a, .int .i64 b])).run Tryz.prog w = _
  simp [go_sem]
set_option maxRecDepth 100000 in
theorem ins_any (a b c d : Int) (h1 : c ≤ a) (h2 : b ≤ d) (w : World) :
    Calls Tryz.prog 11 #[.agg #[.int .i64 a, .int .i64 b], .agg #[.int .i64 c, .int .i64 d]] w fun e w' => e = .returned (.bool true) ∧ Below w.heap.size w w' := by
  go_enter Tryz.func11, Tryz.ntmps11
  go_wp2
  go_ret
  exact ⟨rfl, (by repeat (first | exact Below.refl _ _ | (refine Below.alloc ?_ (by simp <;> omega) _) | (refine Below.setCell ?_ (by simp <;> omega) _) | (refine Below.drew ?_) | (refine bel_drewN ?_ _)))⟩
theorem fc_all {zs ys : List Int} {sr c s h x y z n kn ds v q A E qr K1 l1 h1 K2 l2 h2 : Int} {d1 d2 : Bool} (hT : mvT zs ys sr c s h x y z n kn ds = (v, q)) (hR : mrgT zs ys sr c s h x y z n = (A, E, qr)) (hS1 : trS zs ys sr c s h n = (K1, d1, l1, h1)) (hS2 : trS zs ys sr x y z n = (K2, d2, l2, h2)) (e : qr = 0) :
    tcod zs ys sr c s h n = 0 ∧ tcod zs ys sr x y z n = 0 ∧ A ≤ l1 ∧ h1 ≤ E ∧ A ≤ l2 ∧ h2 ≤ E ∧ (v = 2 → K1 = kn ∧ ((h1 < ds ∧ ds < l2) ∨ (h2 < ds ∧ ds < l1))) := by
  subst e
  obtain ⟨i, N, rfl, rfl, r, q', t1, t2, hk, hm, ht, hs, hq, g1, g2, g3, g4⟩ := mr_in (show (mrgT zs ys sr c s h x y z n).2.2 = 0 by rw [hR])
  rw [hm] at hR
  unfold trS at hS1 hS2
  rw [if_pos t1, Int.toNat_natCast, Int.toNat_natCast] at hS1
  rw [if_pos t2, Int.toNat_natCast, Int.toNat_natCast] at hS2
  simp only [Prod.mk.injEq] at hR hS1 hS2
  obtain ⟨rfl, rfl, -⟩ := hR
  obtain ⟨rfl, rfl, rfl, rfl⟩ := hS1
  obtain ⟨rfl, rfl, rfl, rfl⟩ := hS2
  exact ⟨t1, t2, g1, g2, g3, g4, fun hv => mv_two hq ht hs (by rw [hT]; exact hv)⟩

set_option maxRecDepth 100000 in
set_option maxHeartbeats 16000000 in
theorem lcls (a0 : Option Addr) (len0 cap0 : Nat) (z0 : List Int) (w : World) (w0 : IsRow .u8 w a0 len0 cap0 z0) :
    Calls Tryz.prog 3 #[.slice a0 len0 cap0] w fun e w' => e = .returned (.bool true) ∧ Below w.heap.size w w' := by
  obtain ⟨hln, hc⟩ := Code8.of_row w0
  clear w0
  obtain ⟨cs, hcs⟩ : ∃ cs, z0.take len0 = cs := ⟨_, rfl⟩
  rw [hcs] at hln hc
  subst hln
  clear hcs
  have HC := Lib.hid hc
  clear hc
  by_cases hbig : 4096 < (cs.length : Int)
  · have HB0 : Hid (decide (4096 < (cs.length : Int)) = true) := Lib.hid (decide_eq_true hbig)
    clear hbig
    go_enter Tryz.func3, Tryz.ntmps3
    go_wp2_with fail
    refine (big_any _ _ _ _).mono ?_
    rw [HB0.out]
    rintro e w1 ⟨rfl, rfl⟩
    go_wp2
    go_ret
    exact ⟨rfl, Below.refl _ _⟩
  have HB0 : Hid (decide (4096 < (cs.length : Int)) = false) := Lib.hid (decide_eq_false hbig)
  clear hbig
  go_enter Tryz.func3, Tryz.ntmps3
  go_wp2_with fail
  refine (big_any _ _ _ _).mono ?_
  rw [HB0.out]
  rintro e w1 ⟨rfl, hw1⟩
  subst hw1
  go_wp2_with fail
  refine (dcv_any _ _ _ cs HC.out).mono ?_
  rintro e w1 ⟨aP, bP, cP, dP, zs, ys, sr, c, s, h, x, y, z, n, kn, ds, rfl, hp, hb⟩
  have HB := Lib.hid hb
  have HP := Lib.hid hp.at_
  clear hp
  obtain ⟨⟨v, q⟩, hT⟩ : ∃ U, mvT zs ys sr c s h x y z n kn ds = U := ⟨_, rfl⟩
  obtain ⟨⟨A, E, qr⟩, hR⟩ : ∃ U, mrgT zs ys sr c s h x y z n = U := ⟨_, rfl⟩
  obtain ⟨⟨K1, d1, l1, h1⟩, hS1⟩ : ∃ U, trS zs ys sr c s h n = U := ⟨_, rfl⟩
  obtain ⟨⟨K2, d2, l2, h2⟩, hS2⟩ : ∃ U, trS zs ys sr x y z n = U := ⟨_, rfl⟩
  obtain ⟨L1, hL1⟩ : ∃ U, (trL zs ys sr c s h n).length = U := ⟨_, rfl⟩
  obtain ⟨L2, hL2⟩ : ∃ U, (trL zs ys sr x y z n).length = U := ⟨_, rfl⟩
  obtain ⟨q1, hq1⟩ : ∃ U, tcod zs ys sr c s h n = U := ⟨_, rfl⟩
  obtain ⟨q2, hq2⟩ : ∃ U, tcod zs ys sr x y z n = U := ⟨_, rfl⟩
  have KV : Hid (∀ (w : World) (a b : Option Addr) (c_ d_ : Nat), Prof w w.heap.size a b zs ys → Calls Tryz.prog 6 #[.agg #[.slice a zs.length c_, .slice b ys.length d_], .int .i64 sr, .agg #[.int .i64 c, .int .i64 s, .int .i64 h], .agg #[.int .i64 x, .int .i64 y, .int .i64 z], .int .i64 n, .int .i64 kn, .int .i64 ds] w fun e w' => e = .returned (.tuple #[.int .i64 v, .int .i64 q]) ∧ Below w.heap.size w w') := Lib.hid (fun w a b c_ d_ hp => by have := icw_any w a b c_ d_ zs ys sr c s h x y z n kn ds hp; rw [hT] at this; exact this)
  have KU : Hid (∀ (w : World) (a b : Option Addr) (c_ d_ : Nat), Prof w w.heap.size a b zs ys → Calls Tryz.prog 7 #[.agg #[.slice a zs.length c_, .slice b ys.length d_], .int .i64 sr, .agg #[.int .i64 c, .int .i64 s, .int .i64 h], .agg #[.int .i64 x, .int .i64 y, .int .i64 z], .int .i64 n, .int .i64 kn, .int .i64 ds] w fun e w' => e = .returned (.tuple #[.int .i64 v, .int .i64 q]) ∧ Below w.heap.size w w') := Lib.hid (fun w a b c_ d_ hp => by have := scv_any w a b c_ d_ zs ys sr c s h x y z n kn ds hp; rw [hT] at this; exact this)
  have KW : Hid (∀ (w : World) (a b : Option Addr) (c_ d_ : Nat), Prof w w.heap.size a b zs ys → Calls Tryz.prog 6 #[.agg #[.slice a zs.length c_, .slice b ys.length d_], .int .i64 sr, .agg #[.int .i64 x, .int .i64 y, .int .i64 z], .agg #[.int .i64 c, .int .i64 s, .int .i64 h], .int .i64 n, .int .i64 kn, .int .i64 ds] w fun e w' => e = .returned (.tuple #[.int .i64 v, .int .i64 q]) ∧ Below w.heap.size w w') := Lib.hid (fun w a b c_ d_ hp => by have := icw_any w a b c_ d_ zs ys sr x y z c s h n kn ds hp; rw [← mv_swap, hT] at this; exact this)
  have KC : Hid (∀ (w : World) (a b : Option Addr) (c_ d_ : Nat), Prof w w.heap.size a b zs ys → Calls Tryz.prog 8 #[.agg #[.slice a zs.length c_, .slice b ys.length d_], .int .i64 sr, .agg #[.int .i64 c, .int .i64 s, .int .i64 h], .agg #[.int .i64 x, .int .i64 y, .int .i64 z], .int .i64 n] w fun e w' => e = .returned (.tuple #[.agg #[.int .i64 A, .int .i64 E], .int .i64 qr]) ∧ Below w.heap.size w w') := Lib.hid (fun w a b c_ d_ hp => by have := icr_any w a b c_ d_ zs ys sr c s h x y z n hp; rw [crg_eq, hR] at this; exact this)
  have KD : Hid (∀ (w : World) (a b : Option Addr) (c_ d_ : Nat), Prof w w.heap.size a b zs ys → Calls Tryz.prog 9 #[.agg #[.slice a zs.length c_, .slice b ys.length d_], .int .i64 sr, .agg #[.int .i64 c, .int .i64 s, .int .i64 h], .agg #[.int .i64 x, .int .i64 y, .int .i64 z], .int .i64 n] w fun e w' => e = .returned (.tuple #[.agg #[.int .i64 A, .int .i64 E], .int .i64 qr]) ∧ Below w.heap.size w w') := Lib.hid (fun w a b c_ d_ hp => by have := scr_any w a b c_ d_ zs ys sr c s h x y z n hp; rw [hR] at this; exact this)
  have KT : Hid (∀ (w : World) (a b : Option Addr) (c_ d_ : Nat), Prof w w.heap.size a b zs ys → Calls Tryz.prog 10 #[.agg #[.slice a zs.length c_, .slice b ys.length d_], .int .i64 sr, .agg #[.int .i64 c, .int .i64 s, .int .i64 h], .int .i64 n] w fun e w' => ∃ (a' : Option Addr) (c' : Nat), e = .returned (.tuple #[.slice a' L1 c', .agg #[.int .i64 K1, .bool d1, .int .i64 l1, .int .i64 h1], .int .i64 q1]) ∧ Below w.heap.size w w') := Lib.hid (fun w a b c_ d_ hp => by have := itr_any w a b c_ d_ zs ys sr c s h n hp; rw [hL1, hS1, hq1] at this; exact this.mono fun e w' h => by obtain ⟨a', c', g1, -, g2⟩ := h; exact ⟨a', c', g1, g2⟩)
  have KX : Hid (∀ (w : World) (a b : Option Addr) (c_ d_ : Nat), Prof w w.heap.size a b zs ys → Calls Tryz.prog 10 #[.agg #[.slice a zs.length c_, .slice b ys.length d_], .int .i64 sr, .agg #[.int .i64 x, .int .i64 y, .int .i64 z], .int .i64 n] w fun e w' => ∃ (a' : Option Addr) (c' : Nat), e = .returned (.tuple #[.slice a' L2 c', .agg #[.int .i64 K2, .bool d2, .int .i64 l2, .int .i64 h2], .int .i64 q2]) ∧ Below w.heap.size w w') := Lib.hid (fun w a b c_ d_ hp => by have := itr_any w a b c_ d_ zs ys sr x y z n hp; rw [hL2, hS2, hq2] at this; exact this.mono fun e w' h => by obtain ⟨a', c', g1, -, g2⟩ := h; exact ⟨a', c', g1, g2⟩)
  have FF : Hid (qr = 0 → q1 = 0 ∧ q2 = 0 ∧ A ≤ l1 ∧ h1 ≤ E ∧ A ≤ l2 ∧ h2 ≤ E ∧ (v = 2 → K1 = kn ∧ ((h1 < ds ∧ ds < l2) ∨ (h2 < ds ∧ ds < l1)))) := Lib.hid (fun e => by have := fc_all hT hR hS1 hS2 e; rw [hq1, hq2] at this; exact this)
  clear hT hR hS1 hS2 hL1 hL2 hq1 hq2
  clear hb
  go_upto_region 4 with fail
  obtain ⟨W2, hW⟩ : ∃ W, W = (((w1.alloc (.cells #[.slice aP zs.length cP, .slice bP ys.length dP] 26)).alloc (.cells #[.int .i64 c, .int .i64 s, .int .i64 h] 28)).alloc (.cells #[.int .i64 x, .int .i64 y, .int .i64 z] 28)) := ⟨_, rfl⟩
  have hb : Below w1.heap.size w1 W2 := by rw [hW]; exact (by repeat (first | exact Below.refl _ _ | (refine Below.alloc ?_ (by simp <;> omega) _) | (refine Below.setCell ?_ (by simp <;> omega) _) | (refine Below.drew ?_) | (refine bel_drewN ?_ _)))
  have bA : Bk W2 (w1.heap.size) #[.slice aP zs.length cP, .slice bP ys.length dP] 26 := by rw [hW]; exact (((Bk.new' (by simp)).alloc _).alloc _)
  have bD : Bk W2 (w1.heap.size + 1) #[.int .i64 c, .int .i64 s, .int .i64 h] 28 := by rw [hW]; exact ((Bk.new' (by simp)).alloc _)
  have bE : Bk W2 (w1.heap.size + 1 + 1) #[.int .i64 x, .int .i64 y, .int .i64 z] 28 := by rw [hW]; exact (Bk.new' (by simp))
  replace HP := Lib.hid (HP.out.on hb)
  replace HB := Lib.hid (bel_end HB.out hb)
  rw [← hW]
  clear hW hb
  have bA_0 := bA.cell 0 rfl
  have bA_1 := bA.cell 1 rfl
  have bA_l := bA.lt
  have bD_0 := bD.cell 0 rfl
  have bD_1 := bD.cell 1 rfl
  have bD_2 := bD.cell 2 rfl
  have bD_l := bD.lt
  have bE_0 := bE.cell 0 rfl
  have bE_1 := bE.cell 1 rfl
  have bE_2 := bE.cell 2 rfl
  have bE_l := bE.lt
  go_wp2_with fail
  refine (KV.out _ _ _ _ _ HP.out).mono ?_
  rintro e w3 ⟨rfl, hb⟩
  replace bA := bA.on hb
  replace bD := bD.on hb
  replace bE := bE.on hb
  replace HP := Lib.hid (HP.out.on hb)
  replace HB := Lib.hid (bel_end HB.out hb)
  clear hb
  clear bA_0 bA_1 bA_l bD_0 bD_1 bD_2 bD_l bE_0 bE_1 bE_2 bE_l
  have bA_0 := bA.cell 0 rfl
  have bA_1 := bA.cell 1 rfl
  have bA_l := bA.lt
  have bD_0 := bD.cell 0 rfl
  have bD_1 := bD.cell 1 rfl
  have bD_2 := bD.cell 2 rfl
  have bD_l := bD.lt
  have bE_0 := bE.cell 0 rfl
  have bE_1 := bE.cell 1 rfl
  have bE_2 := bE.cell 2 rfl
  have bE_l := bE.lt
  go_wp2_with fail
  refine (KU.out _ _ _ _ _ HP.out).mono ?_
  rintro e w4 ⟨rfl, hb⟩
  replace bA := bA.on hb
  replace bD := bD.on hb
  replace bE := bE.on hb
  replace HP := Lib.hid (HP.out.on hb)
  replace HB := Lib.hid (bel_end HB.out hb)
  clear hb
  clear bA_0 bA_1 bA_l bD_0 bD_1 bD_2 bD_l bE_0 bE_1 bE_2 bE_l
  have bA_0 := bA.cell 0 rfl
  have bA_1 := bA.cell 1 rfl
  have bA_l := bA.lt
  have bD_0 := bD.cell 0 rfl
  have bD_1 := bD.cell 1 rfl
  have bD_2 := bD.cell 2 rfl
  have bD_l := bD.lt
  have bE_0 := bE.cell 0 rfl
  have bE_1 := bE.cell 1 rfl
  have bE_2 := bE.cell 2 rfl
  have bE_l := bE.lt
  go_wp2_with fail
  refine (KC.out _ _ _ _ _ HP.out).mono ?_
  rintro e w5 ⟨rfl, hb⟩
  replace bA := bA.on hb
  replace bD := bD.on hb
  replace bE := bE.on hb
  replace HP := Lib.hid (HP.out.on hb)
  replace HB := Lib.hid (bel_end HB.out hb)
  clear hb
  clear bA_0 bA_1 bA_l bD_0 bD_1 bD_2 bD_l bE_0 bE_1 bE_2 bE_l
  go_upto_region 7 with fail
  obtain ⟨W6, hW⟩ : ∃ W, W = (w5.alloc (.cells #[.int .i64 A, .int .i64 E] 34)) := ⟨_, rfl⟩
  have hb : Below w5.heap.size w5 W6 := by rw [hW]; exact (by repeat (first | exact Below.refl _ _ | (refine Below.alloc ?_ (by simp <;> omega) _) | (refine Below.setCell ?_ (by simp <;> omega) _) | (refine Below.drew ?_) | (refine bel_drewN ?_ _)))
  have bX : Bk W6 (w5.heap.size) #[.int .i64 A, .int .i64 E] 34 := by rw [hW]; exact (Bk.new' (by simp))
  replace bA := bA.on hb
  replace bD := bD.on hb
  replace bE := bE.on hb
  replace HP := Lib.hid (HP.out.on hb)
  replace HB := Lib.hid (bel_end HB.out hb)
  rw [← hW]
  clear hW hb
  have bA_0 := bA.cell 0 rfl
  have bA_1 := bA.cell 1 rfl
  have bA_l := bA.lt
  have bD_0 := bD.cell 0 rfl
  have bD_1 := bD.cell 1 rfl
  have bD_2 := bD.cell 2 rfl
  have bD_l := bD.lt
  have bE_0 := bE.cell 0 rfl
  have bE_1 := bE.cell 1 rfl
  have bE_2 := bE.cell 2 rfl
  have bE_l := bE.lt
  have bX_0 := bX.cell 0 rfl
  have bX_1 := bX.cell 1 rfl
  have bX_l := bX.lt
  go_wp2_with fail
  refine (KD.out _ _ _ _ _ HP.out).mono ?_
  rintro e w7 ⟨rfl, hb⟩
  replace bA := bA.on hb
  replace bD := bD.on hb
  replace bE := bE.on hb
  replace bX := bX.on hb
  replace HP := Lib.hid (HP.out.on hb)
  replace HB := Lib.hid (bel_end HB.out hb)
  clear hb
  clear bA_0 bA_1 bA_l bD_0 bD_1 bD_2 bD_l bE_0 bE_1 bE_2 bE_l bX_0 bX_1 bX_l
  go_upto_region 8 with fail
  obtain ⟨W8, hW⟩ : ∃ W, W = (w7.alloc (.cells #[.int .i64 A, .int .i64 E] 34)) := ⟨_, rfl⟩
  have hb : Below w7.heap.size w7 W8 := by rw [hW]; exact (by repeat (first | exact Below.refl _ _ | (refine Below.alloc ?_ (by simp <;> omega) _) | (refine Below.setCell ?_ (by simp <;> omega) _) | (refine Below.drew ?_) | (refine bel_drewN ?_ _)))
  have bY : Bk W8 (w7.heap.size) #[.int .i64 A, .int .i64 E] 34 := by rw [hW]; exact (Bk.new' (by simp))
  replace bA := bA.on hb
  replace bD := bD.on hb
  replace bE := bE.on hb
  replace bX := bX.on hb
  replace HP := Lib.hid (HP.out.on hb)
  replace HB := Lib.hid (bel_end HB.out hb)
  rw [← hW]
  clear hW hb
  have bA_0 := bA.cell 0 rfl
  have bA_1 := bA.cell 1 rfl
  have bA_l := bA.lt
  have bD_0 := bD.cell 0 rfl
  have bD_1 := bD.cell 1 rfl
  have bD_2 := bD.cell 2 rfl
  have bD_l := bD.lt
  have bE_0 := bE.cell 0 rfl
  have bE_1 := bE.cell 1 rfl
  have bE_2 := bE.cell 2 rfl
  have bE_l := bE.lt
  have bX_0 := bX.cell 0 rfl
  have bX_1 := bX.cell 1 rfl
  have bX_l := bX.lt
  have bY_0 := bY.cell 0 rfl
  have bY_1 := bY.cell 1 rfl
  have bY_l := bY.lt
  go_wp2_with fail
  refine (KW.out _ _ _ _ _ HP.out).mono ?_
  rintro e w9 ⟨rfl, hb⟩
  replace bA := bA.on hb
  replace bD := bD.on hb
  replace bE := bE.on hb
  replace bX := bX.on hb
  replace bY := bY.on hb
  replace HP := Lib.hid (HP.out.on hb)
  replace HB := Lib.hid (bel_end HB.out hb)
  clear hb
  clear bA_0 bA_1 bA_l bD_0 bD_1 bD_2 bD_l bE_0 bE_1 bE_2 bE_l bX_0 bX_1 bX_l bY_0 bY_1 bY_l
  clear KV KU KW KC KD
  have hEQ : ∀ w : World, _ := fun w => eq_iv w A E
  have bA_0 := bA.cell 0 rfl
  have bA_1 := bA.cell 1 rfl
  have bA_l := bA.lt
  have bD_0 := bD.cell 0 rfl
  have bD_1 := bD.cell 1 rfl
  have bD_2 := bD.cell 2 rfl
  have bD_l := bD.lt
  have bE_0 := bE.cell 0 rfl
  have bE_1 := bE.cell 1 rfl
  have bE_2 := bE.cell 2 rfl
  have bE_l := bE.lt
  have bX_0 := bX.cell 0 rfl
  have bX_1 := bX.cell 1 rfl
  have bX_l := bX.lt
  have bY_0 := bY.cell 0 rfl
  have bY_1 := bY.cell 1 rfl
  have bY_l := bY.lt
  go_upto_region 11 with fail
  clear bA_0 bA_1 bA_l bD_0 bD_1 bD_2 bD_l bE_0 bE_1 bE_2 bE_l bX_0 bX_1 bX_l bY_0 bY_1 bY_l
  clear hEQ bY
  by_cases hq : q = 0
  case neg =>
    have hqb : (q != 0) = true := by simpa using hq
    go_wp2
    go_ret
    exact ⟨rfl, HB.out⟩
  case pos =>
    subst hq
    by_cases hr : qr = 0
    case neg =>
      have hrb : (qr != 0) = true := by simpa using hr
      go_wp2
      go_ret
      exact ⟨rfl, HB.out⟩
    case pos =>
      obtain ⟨rfl, rfl, e1, e2, e3, e4, FV⟩ := FF.out hr
      subst hr
      have FV := Lib.hid FV
      clear FF
      have bA_0 := bA.cell 0 rfl
      have bA_1 := bA.cell 1 rfl
      have bA_l := bA.lt
      have bD_0 := bD.cell 0 rfl
      have bD_1 := bD.cell 1 rfl
      have bD_2 := bD.cell 2 rfl
      have bD_l := bD.lt
      have bE_0 := bE.cell 0 rfl
      have bE_1 := bE.cell 1 rfl
      have bE_2 := bE.cell 2 rfl
      have bE_l := bE.lt
      have bX_0 := bX.cell 0 rfl
      have bX_1 := bX.cell 1 rfl
      have bX_l := bX.lt
      go_wp2_with fail
      refine (KT.out _ _ _ _ _ HP.out).mono ?_
      rintro e w10 ⟨ea, ec, rfl, hb⟩
      replace bA := bA.on hb
      replace bD := bD.on hb
      replace bE := bE.on hb
      replace bX := bX.on hb
      replace HP := Lib.hid (HP.out.on hb)
      replace HB := Lib.hid (bel_end HB.out hb)
      clear hb
      clear bA_0 bA_1 bA_l bD_0 bD_1 bD_2 bD_l bE_0 bE_1 bE_2 bE_l bX_0 bX_1 bX_l
      go_upto_region 14 with fail
      obtain ⟨W11, hW⟩ : ∃ W, W = (w10.alloc (.cells #[.int .i64 K1, .bool d1, .int .i64 l1, .int .i64 h1] 38)) := ⟨_, rfl⟩
      have hb : Below w10.heap.size w10 W11 := by rw [hW]; exact (by repeat (first | exact Below.refl _ _ | (refine Below.alloc ?_ (by simp <;> omega) _) | (refine Below.setCell ?_ (by simp <;> omega) _) | (refine Below.drew ?_) | (refine bel_drewN ?_ _)))
      have bS : Bk W11 (w10.heap.size) #[.int .i64 K1, .bool d1, .int .i64 l1, .int .i64 h1] 38 := by rw [hW]; exact (Bk.new' (by simp))
      replace bA := bA.on hb
      replace bD := bD.on hb
      replace bE := bE.on hb
      replace bX := bX.on hb
      replace HP := Lib.hid (HP.out.on hb)
      replace HB := Lib.hid (bel_end HB.out hb)
      rw [← hW]
      clear hW hb
      have bA_0 := bA.cell 0 rfl
      have bA_1 := bA.cell 1 rfl
      have bA_l := bA.lt
      have bD_0 := bD.cell 0 rfl
      have bD_1 := bD.cell 1 rfl
      have bD_2 := bD.cell 2 rfl
      have bD_l := bD.lt
      have bE_0 := bE.cell 0 rfl
      have bE_1 := bE.cell 1 rfl
      have bE_2 := bE.cell 2 rfl
      have bE_l := bE.lt
      have bX_0 := bX.cell 0 rfl
      have bX_1 := bX.cell 1 rfl
      have bX_l := bX.lt
      have bS_0 := bS.cell 0 rfl
      have bS_1 := bS.cell 1 rfl
      have bS_2 := bS.cell 2 rfl
      have bS_3 := bS.cell 3 rfl
      have bS_l := bS.lt
      go_wp2_with fail
      refine (KX.out _ _ _ _ _ HP.out).mono ?_
      rintro e w12 ⟨ma, mc, rfl, hb⟩
      replace bA := bA.on hb
      replace bD := bD.on hb
      replace bE := bE.on hb
      replace bX := bX.on hb
      replace bS := bS.on hb
      replace HP := Lib.hid (HP.out.on hb)
      replace HB := Lib.hid (bel_end HB.out hb)
      clear hb
      clear bA_0 bA_1 bA_l bD_0 bD_1 bD_2 bD_l bE_0 bE_1 bE_2 bE_l bX_0 bX_1 bX_l bS_0 bS_1 bS_2 bS_3 bS_l
      go_upto_region 15 with fail
      obtain ⟨W13, hW⟩ : ∃ W, W = (w12.alloc (.cells #[.int .i64 K2, .bool d2, .int .i64 l2, .int .i64 h2] 38)) := ⟨_, rfl⟩
      have hb : Below w12.heap.size w12 W13 := by rw [hW]; exact (by repeat (first | exact Below.refl _ _ | (refine Below.alloc ?_ (by simp <;> omega) _) | (refine Below.setCell ?_ (by simp <;> omega) _) | (refine Below.drew ?_) | (refine bel_drewN ?_ _)))
      have bT : Bk W13 (w12.heap.size) #[.int .i64 K2, .bool d2, .int .i64 l2, .int .i64 h2] 38 := by rw [hW]; exact (Bk.new' (by simp))
      replace bA := bA.on hb
      replace bD := bD.on hb
      replace bE := bE.on hb
      replace bX := bX.on hb
      replace bS := bS.on hb
      replace HP := Lib.hid (HP.out.on hb)
      replace HB := Lib.hid (bel_end HB.out hb)
      rw [← hW]
      clear hW hb
      clear KT KX bA bD bE HP
      have bX_0 := bX.cell 0 rfl
      have bX_1 := bX.cell 1 rfl
      have bX_l := bX.lt
      have bS_0 := bS.cell 0 rfl
      have bS_1 := bS.cell 1 rfl
      have bS_2 := bS.cell 2 rfl
      have bS_3 := bS.cell 3 rfl
      have bS_l := bS.lt
      have bT_0 := bT.cell 0 rfl
      have bT_1 := bT.cell 1 rfl
      have bT_2 := bT.cell 2 rfl
      have bT_3 := bT.cell 3 rfl
      have bT_l := bT.lt
      go_wp2_with fail
      refine (ins_any _ _ _ _ e1 e2 _).mono ?_
      rintro e w14 ⟨rfl, hb⟩
      replace bX := bX.on hb
      replace bS := bS.on hb
      replace bT := bT.on hb
      replace HB := Lib.hid (bel_end HB.out hb)
      clear hb
      clear bX_0 bX_1 bX_l bS_0 bS_1 bS_2 bS_3 bS_l bT_0 bT_1 bT_2 bT_3 bT_l
      have bX_0 := bX.cell 0 rfl
      have bX_1 := bX.cell 1 rfl
      have bX_l := bX.lt
      have bS_0 := bS.cell 0 rfl
      have bS_1 := bS.cell 1 rfl
      have bS_2 := bS.cell 2 rfl
      have bS_3 := bS.cell 3 rfl
      have bS_l := bS.lt
      have bT_0 := bT.cell 0 rfl
      have bT_1 := bT.cell 1 rfl
      have bT_2 := bT.cell 2 rfl
      have bT_3 := bT.cell 3 rfl
      have bT_l := bT.lt
      go_wp2_with fail
      refine (ins_any _ _ _ _ e3 e4 _).mono ?_
      rintro e w15 ⟨rfl, hb⟩
      replace bX := bX.on hb
      replace bS := bS.on hb
      replace bT := bT.on hb
      replace HB := Lib.hid (bel_end HB.out hb)
      clear hb
      clear bX_0 bX_1 bX_l bS_0 bS_1 bS_2 bS_3 bS_l bT_0 bT_1 bT_2 bT_3 bT_l
      by_cases hv : v = 2
      case neg =>
        have hvb : (v != 2) = true := by simpa using hv
        have bX_0 := bX.cell 0 rfl
        have bX_1 := bX.cell 1 rfl
        have bX_l := bX.lt
        have bS_0 := bS.cell 0 rfl
        have bS_1 := bS.cell 1 rfl
        have bS_2 := bS.cell 2 rfl
        have bS_3 := bS.cell 3 rfl
        have bS_l := bS.lt
        have bT_0 := bT.cell 0 rfl
        have bT_1 := bT.cell 1 rfl
        have bT_2 := bT.cell 2 rfl
        have bT_3 := bT.cell 3 rfl
        have bT_l := bT.lt
        go_wp2
        go_ret
        exact ⟨rfl, HB.out⟩
      case pos =>
        obtain ⟨rfl, hor⟩ := FV.out hv
        subst hv
        clear FV
        by_cases p1 : h1 < ds <;> by_cases p2 : ds < l2 <;> by_cases p3 : h2 < ds <;> by_cases p4 : ds < l1
        all_goals
          first
          | (exfalso; omega)
          | skip
        all_goals
          have bX_0 := bX.cell 0 rfl
          have bX_1 := bX.cell 1 rfl
          have bX_l := bX.lt
          have bS_0 := bS.cell 0 rfl
          have bS_1 := bS.cell 1 rfl
          have bS_2 := bS.cell 2 rfl
          have bS_3 := bS.cell 3 rfl
          have bS_l := bS.lt
          have bT_0 := bT.cell 0 rfl
          have bT_1 := bT.cell 1 rfl
          have bT_2 := bT.cell 2 rfl
          have bT_3 := bT.cell 3 rfl
          have bT_l := bT.lt
          clear hor
          go_wp2
          go_ret
          exact ⟨rfl, HB.out⟩
end
end Go.Proofs.YtgecbfbmmbfnmaaGreat
