/- The candidates of peaks as a map from indices to marks: what it reads as, one put in, one taken out; marksOver. -/
import Derived.Test.YtndbpekmjpelaaaPkS
import Derived.Maps.OwnSet
import Derived.Maps.Views
import Derived.Maps.Range
import Derived.Maps.RangeWalk
namespace Go.Proofs.Ytndbpekmjpelaaa
open Go.ChangeShapes Go.WideShapes Go.ChangeAt Go.RowKit Go.Shelf Num
open Go.Maps (Keyed int_keyed keyOf_int_mk has)
set_option linter.unusedVariables false
set_option linter.unusedSimpArgs false
/-- how a mark reads -/
def mkD (i x : Int) : DataW Nat := .agg [.lit (.int .i64 i), .lit (.int .i64 x)]
def mkR2 : List Value → Option (DataW Nat × List MemPlace)
  | [.int .i64 i, .int .i64 x] => some (mkD i x, [])
  | _ => none
def mkR (v : Value) : Option (DataW Nat × List MemPlace) := match v with
  | .agg cs => mkR2 cs.toList
  | _ => none
theorem mkR_inv {v : Value} {z : DataW Nat × List MemPlace} (h : mkR v = some z) : ∃ i x, v = .agg #[.int .i64 i, .int .i64 x] ∧ z = (mkD i x, []) := by
  unfold mkR at h
  split at h
  · rename_i cs
    unfold mkR2 at h
    split at h
    · rename_i i x he
      cases h
      refine ⟨i, x, ?_, rfl⟩
      have : cs = cs.toList.toArray := by simp
      rw [this, he]
    · cases h
  · cases h
theorem mkD_inj {i x j y : Int} (h : mkD i x = mkD j y) : i = j ∧ x = y := by
  unfold mkD at h
  injection h with h
  injection h with h1 h2
  injection h2 with h2 h3
  injection h1 with h1
  injection h1 with _ h1
  injection h2 with h2
  injection h2 with _ h2
  exact ⟨h1, h2⟩
theorem keyed64 : Keyed Try.prog 2 := int_keyed Try.underlying2
theorem wfK64 {n : Int} (h : -9223372036854775808 ≤ n ∧ n ≤ 9223372036854775807) : (Lit.int .i64 n).wf = true := by
  simp [Lit.wf, IntKind.min, IntKind.max, IntKind.signed, IntKind.bits]
  omega
theorem key64 {i : Int} (h : (Lit.int .i64 i).wf = true) : keyOf Try.prog 2 (.int .i64 i) = some (.int .i64 i) := keyOf_int_mk Try.underlying2 h
/-- a map holds just the indices of q, each with its mark -/
def MapQ (D : DataW Nat) (zs : List Int) (q : Int → Bool) : Prop := ∀ i : Int, (Lit.int .i64 i).wf = true → has D (.int .i64 i) = q i ∧ (q i = true → ∀ z, D.atKey (.int .i64 i) z = mkD i (zs.getD i.toNat 0))
theorem keyLit64 (i : Int) : WideAt.IsKeyLit (.int .i64 i) := by simp [WideAt.IsKeyLit]
theorem lit_ne {i j : Int} (h : i ≠ j) : (Lit.int .i64 i) ≠ (Lit.int .i64 j) := fun e => by injection e with _ e; exact h e
theorem MapQ.empty (zs : List Int) : MapQ (.map []) zs (fun _ => false) := fun i _ => ⟨rfl, fun h => by cases h⟩
theorem MapQ.put {D : DataW Nat} {zs : List Int} {q : Int → Bool} (h : MapQ D zs q) (hD : Go.Maps.IsMap D) (k : Nat) : MapQ (D.put (.int .i64 (k : Int)) (mkD (k : Int) (zs.getD k 0))) zs (fun i => q i || decide (i = (k : Int))) := fun i hw => by
  by_cases e : i = (k : Int)
  · subst e
    refine ⟨by rw [Go.Maps.has_put_same hD (keyLit64 _)]; simp, fun _ z => ?_⟩
    rw [Go.Maps.atKey_put_same hD (keyLit64 _), Int.toNat_natCast]
  · refine ⟨by rw [Go.Maps.has_put_other (lit_ne e), (h i hw).1]; simp [e], fun hq z => ?_⟩
    simp only [decide_eq_false e, Bool.or_false] at hq
    rw [Go.Maps.atKey_put_other (lit_ne e)]
    exact (h i hw).2 hq z
theorem MapQ.del {D : DataW Nat} {zs : List Int} {q : Int → Bool} (h : MapQ D zs q) (k : Int) : MapQ (D.del (.int .i64 k)) zs (fun i => q i && !decide (i = k)) := fun i hw => by
  by_cases e : i = k
  · subst e
    refine ⟨by rw [Go.Maps.has_del_same]; simp, fun hq => by simp at hq⟩
  · refine ⟨by rw [Go.Maps.has_del_other (lit_ne e), (h i hw).1]; simp [e], fun hq z => ?_⟩
    simp only [decide_eq_false e, Bool.not_false, Bool.and_true] at hq
    rw [Go.Maps.atKey_del_other (lit_ne e)]
    exact (h i hw).2 hq z
theorem MapQ.congr {D : DataW Nat} {zs : List Int} {q r : Int → Bool} (h : MapQ D zs q) (he : ∀ i, q i = r i) : MapQ D zs r := fun i hw => by rw [← he i]; exact h i hw
/-- the candidates among the first k -/
def cndQ (zs : List Int) (th : Int) (k : Nat) (i : Int) : Bool := decide (0 ≤ i) && decide (i < (k : Int)) && decide (th ≤ aV zs i.toNat)
/-- a map of one's own -/
def MapO (w : World) (zs : List Int) (q : Int → Bool) (b : Nat) (W : World) : Prop := ∃ (n : Nat) (D : DataW Nat), W.ownsMap Try.prog 2 mkR b n D ∧ n ≤ 1000 ∧ MapQ D zs q
set_option maxRecDepth 100000 in
set_option maxHeartbeats 4000000 in
theorem mov_any (w : World) (a : Option Addr) (cap : Nat) (zs : List Int) (th : Int) (h4 : zs.length ≤ 400) (hs : smlL 1000000000000 zs) (hz : Ints .i64 w w.heap.size a zs) :
    Calls Try.prog 26 #[.slice a zs.length cap, .int .i64 th] w fun e w' => ∃ b : Nat, e = .returned (.map (some b)) ∧ w.heap.size ≤ b ∧ MapO w zs (cndQ zs th zs.length) b w' ∧ Below w.heap.size w w' := by
  have HZ := Lib.hid hz
  have HS := Lib.hid hs
  clear hz hs
  have hmm : ∀ w, (Instr.makeMap 43 none).run Try.prog w = .ok (.map (some w.heap.size)) (w.alloc (.map #[] 0)) := fun w => run_makeMap _ _
  go_enter Try.func26, Try.ntmps26
  go_wp2_with fail
  clear hmm
  obtain ⟨W, hW⟩ : ∃ X, X = w.alloc (.map #[] 0) := ⟨_, rfl⟩
  obtain ⟨b, hb⟩ : ∃ b, w.heap.size = b := ⟨_, rfl⟩
  have HO0 : Hid (W.ownsMap Try.prog 2 mkR b 0 (.map [] : DataW Nat)) := Lib.hid (by rw [hW, ← hb]; exact World.ownsMap_made w Try.prog 2 mkR)
  have hBW : Below w.heap.size w W := by rw [hW]; exact (by repeat (first | exact Below.refl _ _ | (refine Below.alloc ?_ (by simp <;> omega) _) | (refine Below.setCell ?_ (by simp <;> omega) _) | (refine Below.drew ?_) | (refine bel_drewN ?_ _)))
  have HZ1 := Lib.hid ((HZ.out.below hBW).more hBW.size)
  have hbl : b < W.heap.size := by rw [hW, ← hb]; simp
  have HBW := Lib.hid hBW
  have HBs := Lib.hid hb
  rw [← hW]
  rw [hb]
  clear hW hb hBW
  refine (mko_any W a cap zs (by omega) HZ1.out).mono ?_
  rintro e w1 ⟨g, rfl, hm, hg, hb1⟩
  have HM := Lib.hid hm
  have HO1 := Lib.hid (HO0.out.kept (grown_none hb1) (by simp))
  replace HBW := Lib.hid (bel_end HBW.out hb1)
  have hbg : b < g := by omega
  have hgl : g < w1.heap.size := hm.1
  clear hm hb1 HO0
  go_wp2_with fail
  go_loopw [12] (fun i wr => ∃ (k nn : Nat) (D : DataW Nat), k ≤ zs.length ∧ i = .int .i64 (k : Int) ∧ nn ≤ k ∧ wr.ownsMap Try.prog 2 mkR b nn D ∧ MapQ D zs (cndQ zs th k) ∧ MkR wr g zs ∧ Below w.heap.size w wr) (fun i _ => zs.length - (intOf i).toNat)
  case atStart => exact ⟨0, 0, .map [], Nat.zero_le _, rfl, Nat.le_refl _, HO1.out, (MapQ.empty zs).congr (fun i => by unfold cndQ; by_cases h : 0 ≤ i; (rw [decide_eq_false (show ¬ i < ((0 : Nat) : Int) by omega)]; simp); (rw [decide_eq_false h]; rfl)), HM.out, HBW.out⟩
  case round =>
    obtain ⟨k, nn, D, hk, rfl, hnn, hO, hQ, hM, hbw⟩ := hrel
    rename_i wr
    have HO := Lib.hid hO
    have HQ := Lib.hid hQ
    replace HM := Lib.hid hM
    replace HBW := Lib.hid hbw
    clear hO hQ hM hbw HO1
    by_cases hlt : k < zs.length
    case pos =>
      obtain ⟨m0, m1⟩ := HM.out.2 k hlt
      obtain ⟨x1, x2⟩ := HS.out k
      have hax : aV zs k = ((zs.getD k 0).natAbs : Int) := rfl
      obtain ⟨x, hx⟩ : ∃ x, zs.getD k 0 = x := ⟨_, rfl⟩
      rw [hx] at m1 x1 x2 hax
      have HX := Lib.hid hx
      clear hx
      have HAX := Lib.hid hax
      clear hax
      go_upto_region 5 with fail
      obtain ⟨W5, hW5⟩ : ∃ X, X = wr.alloc (.cells #[.int .i64 (k : Int), .int .i64 x] 48) := ⟨_, rfl⟩
      have bX : Bk W5 wr.heap.size #[.int .i64 (k : Int), .int .i64 x] 48 := by rw [hW5]; exact Bk.new' rfl
      have hb5 : Below wr.heap.size wr W5 := by rw [hW5]; exact (by repeat (first | exact Below.refl _ _ | (refine Below.alloc ?_ (by simp <;> omega) _) | (refine Below.setCell ?_ (by simp <;> omega) _) | (refine Below.drew ?_) | (refine bel_drewN ?_ _)))
      replace HM := Lib.hid (HM.out.on hb5)
      replace HO := Lib.hid (HO.out.kept (grown_none hb5) (by simp))
      replace HBW := Lib.hid (bel_end HBW.out hb5)
      rw [← hW5]
      clear hW5 hb5 m0 m1
      obtain ⟨bx, hbx⟩ : ∃ bx, wr.heap.size = bx := ⟨_, rfl⟩
      rw [hbx] at bX ⊢
      clear hbx
      have c0 := bX.cell 0 rfl
      have c1 := bX.cell 1 rfl
      by_cases hth : th ≤ (x.natAbs : Int)
      case pos =>
        have hkw : (Lit.int .i64 (k : Int)).wf = true := wfK64 (by omega)
        go_wp2_with (first
          | (go_at_call 41; refine (abs_any _ (by omega) (by omega) _).mono ?_; rintro e w' ⟨rfl, rfl⟩)
          | (at_mapUpdate; refine wpList_mapUpdate_own _ rfl _ _ _ 43 rfl 2 48 keyed64 Try.underlying43 mkR b nn D rfl HO.out (by unfold maxLen; omega) _ _ (.int .i64 (k : Int)) rfl rfl (key64 hkw) (mkD (k : Int) x) [] rfl ?_; intro w6 hown6 hg6; have HO6 := Lib.hid hown6; have HM6 : Hid (MkR w6 g zs) := Lib.hid ⟨Nat.lt_of_lt_of_le HM.out.1 hg6.size, fun j hj => ⟨(World.cell?_of_block (a := ⟨g, j * 2, none⟩) (hg6.block g HM.out.1 (fun e => by injection e; omega))).trans (HM.out.2 j hj).1, (World.cell?_of_block (a := ⟨g, j * 2 + 1, none⟩) (hg6.block g HM.out.1 (fun e => by injection e; omega))).trans (HM.out.2 j hj).2⟩⟩; have HBW6 : Hid (Below w.heap.size w w6) := Lib.hid (HBW.out.grown hg6 HBW.out.size (fun k e => by injection e with e; have := HBs.out; omega)); clear hown6 hg6))
        go_roundw
        case rel => exact ⟨k + 1, nn + 1, _, by omega, by go_num, by omega, HO6.out, by
          have h := HQ.out.put HO.out.isMap k
          rw [HX.out] at h
          exact h.congr (fun i => by
            have ha := HAX.out
            unfold cndQ
            by_cases e : i = (k : Int)
            · subst e
              rw [Int.toNat_natCast, ha, decide_eq_true hth, decide_eq_true (show (0 : Int) ≤ (k : Int) by omega), decide_eq_true (show (k : Int) < ((k + 1 : Nat) : Int) by omega)]
              simp
            · rw [decide_eq_false e, Bool.or_false]
              congr 2
              rw [Bool.eq_iff_iff]
              simp only [decide_eq_true_iff]
              omega), HM6.out, HBW6.out⟩
        case measure => simp [intOf]; omega
      case neg =>
        go_wp2_with (go_at_call 41; refine (abs_any _ (by omega) (by omega) _).mono ?_; rintro e w' ⟨rfl, rfl⟩)
        go_roundw
        case rel => exact ⟨k + 1, nn, D, by omega, by go_num, by omega, HO.out, HQ.out.congr (fun i => by
            have ha := HAX.out
            unfold cndQ
            by_cases e : i = (k : Int)
            · subst e
              rw [Int.toNat_natCast, ha, decide_eq_false (show ¬ th ≤ (x.natAbs : Int) by omega)]
              simp
            · congr 2
              rw [Bool.eq_iff_iff]
              simp only [decide_eq_true_iff]
              omega), HM.out, HBW.out⟩
        case measure => simp [intOf]; omega
    case neg =>
      obtain rfl : k = zs.length := by omega
      go_wp2
      go_ret
      exact ⟨b, rfl, by have := HBs.out; omega, ⟨nn, D, HO.out, by omega, HQ.out⟩, HBW.out⟩
end Go.Proofs.Ytndbpekmjpelaaa
