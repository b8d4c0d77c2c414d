/- PeaksOver, the program's. -/
import Derived.Test.YtndbpekmjpelaaaPkW
import Derived.Test.YtndbpekmjpelaaaMShelf
import Derived.Test.YtndbpekmjpelaaaMfA
import Derived.Shelf.SortM.SortNone
import Derived.Sort.OwnSortedInts
namespace Go.Proofs.Ytndbpekmjpelaaa
open Go.ChangeShapes Go.WideShapes Go.ChangeAt Go.RowKit Go.Shelf Go.Sort Num
open Go.Maps (has)
set_option linter.unusedVariables false
set_option linter.unusedSimpArgs false
theorem lookup_mrk {w : World} {ops : Array Oper} {rest : List Oper} {o : Oper} {a : Act} {Q : Exit → Act → World → Prop} (hg : o.guard = none) (m x : Operand) (hop : o.op = Op.lookup 43 m x true) (b n : Nat) (D : DataW Nat)
    (hm : a.eval m = .map (some b)) (hown : w.ownsMap Try.prog 2 mkR b n D) (i : Int) (hx : a.eval x = .int .i64 i) (hw : (Lit.int .i64 i).wf = true)
    (hK : ∀ p q : Int, wpList Try.prog ops Q rest (a.put o.dst (.tuple #[.agg #[.int .i64 p, .int .i64 q], .bool (has D (.int .i64 i))])) w) : wpList Try.prog ops Q (o :: rest) a w :=
  wpList_lookup_own_ok w hg m x 43 hop 2 48 keyed64 Try.underlying43 mkR (z := .agg #[.int .i64 0, .int .i64 0]) (Try.zeroValue48 _) (mkD 0 0) [] rfl b n D hm hown (.int .i64 i) (.int .i64 i) hx (key64 hw)
    (fun v ps hv => by obtain ⟨p, q, rfl, _⟩ := mkR_inv hv; exact hK p q)
/-- the candidates that are left -/
def okQ (zs : List Int) (th g : Int) (C : List Int) (i : Int) : Bool := cndQ zs th zs.length i && !nrB C g i
/-- what a round keeps -/
structure PkT (w wS : World) (zs : List Int) (S : List Nat) (b : Nat) (aS : Option Addr) (q : Int → Bool) (a : Option Addr) (c : Nat) (C : List Int) (W : World) : Prop where
  row : W.ownsRow wS.heap.size 2 1 (.slice a C.length c) C.length (C.map iv4)
  map : ∃ (nn : Nat) (D : DataW Nat), W.ownsMap Try.prog 2 mkR b nn D ∧ MapQ D zs q
  mks : S = [] ∨ ∃ g, aS = some ⟨g, 0, none⟩ ∧ b < g ∧ g < wS.heap.size ∧ MkP W g zs S
  bel : Below w.heap.size w W
  up : wS.heap.size ≤ W.heap.size
  bl : b < wS.heap.size
  bw : w.heap.size ≤ b
section
variable {w wS W W' : World} {zs : List Int} {S : List Nat} {b : Nat} {aS : Option Addr} {q q' : Int → Bool} {a : Option Addr} {c : Nat} {C : List Int}
theorem PkT.on (h : PkT w wS zs S b aS q a c C W) (hb : Below W.heap.size W W') : PkT w wS zs S b aS q a c C W' := by
  obtain ⟨nn, D, ho, hq⟩ := h.map
  exact ⟨own_bel h.row hb, ⟨nn, D, ho.kept (grown_none hb) (by simp), hq⟩, h.mks.imp id (fun ⟨g, e1, e2, e3, e4⟩ => ⟨g, e1, e2, e3, e4.on hb⟩), bel_end h.bel hb, Nat.le_trans h.up hb.size, h.bl, h.bw⟩
theorem PkT.eqv (h : PkT w wS zs S b aS q a c C W) (he : ∀ i, q i = q' i) : PkT w wS zs S b aS q' a c C W := by
  obtain ⟨nn, D, ho, hq⟩ := h.map
  exact ⟨h.row, ⟨nn, D, ho, hq.congr he⟩, h.mks, h.bel, h.up, h.bl, h.bw⟩
/-- a key taken out -/
theorem PkT.del {nn : Nat} {D : DataW Nat} {k : Int} (h : PkT w wS zs S b aS q a c C W) (hq : MapQ D zs q) (ho : W'.ownsMap Try.prog 2 mkR b nn (D.del (.int .i64 k))) (ht : W.mapTurned W' b) : PkT w wS zs S b aS (fun i => q i && !decide (i = k)) a c C W' :=
  ⟨own_at h.row (fun g e => ht.grown.block g (h.row.lt g e).2 (fun e' => by have := (h.row.lt g e).1; have := h.bl; injection e' with e'; omega)),
   ⟨nn, _, ho, hq.del k⟩, h.mks.imp id (fun ⟨g, e1, e2, e3, e4⟩ => ⟨g, e1, e2, e3, e4.grown ht.grown (fun e' => by injection e' with e'; omega)⟩),
   h.bel.grown ht.grown h.bel.size (fun k e => by cases e; exact h.bw), Nat.le_trans h.up ht.grown.size, h.bl, h.bw⟩
/-- one more chosen -/
theorem PkT.put {w9 : World} {o : Obj} {g' c' : Nat} {x : Int} (h : PkT w wS zs S b aS q a c C W) (hown : w9.ownsRow wS.heap.size 2 1 (.slice (some ⟨g', 0, none⟩) (C.length + 1) c') (C.length + 1) (C.map iv4 ++ [.int .i64 x]))
    (hgrow : (W.alloc o).grownBy w9 (Value.slice a C.length c).ownBlock) : PkT w wS zs S b aS q (some ⟨g', 0, none⟩) c' (C ++ [x]) w9 := by
  obtain ⟨nn, D, ho, hq⟩ := h.map
  have hlo := fun k (e : (Value.slice a C.length c).ownBlock = some k) => (h.row.lt k e).1
  have hbl := h.bl
  have hne : ∀ x, x < wS.heap.size → some x ≠ (Value.slice a C.length c).ownBlock := fun x hx e => by have := hlo x e.symm; omega
  have hbel : Below w.heap.size w w9 := (h.bel.alloc h.bel.size o).grown hgrow (by simp; exact Nat.le_succ_of_le h.bel.size) (fun k e => Nat.le_trans (Nat.le_trans h.bw (Nat.le_of_lt h.bl)) (hlo k e))
  have hup : wS.heap.size ≤ w9.heap.size := by
    have h1 := hgrow.size
    have h2 := h.up
    simp at h1
    omega
  exact ⟨by simpa [iv4] using hown, ⟨nn, D, (ho.kept (World.grownBy_alloc W o none) (by simp)).kept hgrow (hne b hbl), hq⟩, h.mks.imp id (fun ⟨g, e1, e2, e3, e4⟩ => ⟨g, e1, e2, e3, (e4.on ((Below.refl _ _).alloc (Nat.le_refl _) o)).grown hgrow (hne g e3)⟩), hbel, hup, h.bl, h.bw⟩
end
theorem bk2_0 {W : World} {B : Nat} {x y : Value} {t : TypeId} (h : Bk W B #[x, y] t) : W.cell? ⟨B, 0, none⟩ = some x := h.cell 0 rfl
theorem drop_cons {S : List Nat} {k : Nat} (h : k < S.length) : S.drop k = S.getD k 0 :: S.drop (k + 1) := by
  rw [List.drop_eq_getElem_cons h, List.getD_eq_getElem?_getD, List.getElem?_eq_getElem h]
  rfl
theorem getD_mem {S : List Nat} {k : Nat} (h : k < S.length) : S.getD k 0 ∈ S := by
  rw [List.getD_eq_getElem?_getD, List.getElem?_eq_getElem h]
  exact List.getElem_mem h
/-- the sorted row, handed back -/
theorem sorted_row {w w1 w2 : World} {n₀ g cap n : Nat} {os : Array Obj} {zs : List Int} (hb1 : Below w.heap.size w w1) (hn : w.heap.size ≤ n₀) (hown : w1.ownsRow n₀ 2 1 (.slice (some ⟨g, 0, none⟩) zs.length cap) zs.length (zs.map iv4))
    (hw2 : w2 = grow (putRow (Value.int .i64) (Sort.ahead w1 n) g 0 (zs.mergeSort fun x y => decide (x ≤ y)).toArray) os) :
    OwnA w2 w.heap.size w2.heap.size (some ⟨g, 0, none⟩) cap (srtZ zs) ∧ Below w.heap.size w w2 := by
  rcases hown.2 with ⟨hv1, _⟩ | ⟨g', cap1, cur, hv, hbase, hheap, h1, h2, h3, h4⟩
  · cases hv1
  · cases hv
    have hgr : w1.grownBy w2 (some g) := by rw [hw2]; exact grownBy_sortedI _
    have hl : (srtZ zs).length = zs.length := List.length_mergeSort _
    have hr : w2.ownsRow n₀ 2 1 (.slice (some ⟨g, 0, none⟩) zs.length cap) zs.length ((srtZ zs).map iv4) := by rw [hw2]; exact ownsRow_sortedI (ts := srtZ zs) hl hbase hheap h1 h2 h3
    refine ⟨⟨by rw [hl]; exact World.ownsRow.mono hr hn, fun g' e => ?_, Nat.le_refl _⟩, hb1.grown hgr hb1.size (fun k e => by injection e; omega)⟩
    have : g = g' := by simpa [Value.ownBlock] using e
    subst this
    exact Nat.lt_of_lt_of_le (Array.getElem?_eq_some_iff.1 hheap).1 hgr.size
theorem row_holds {w1 : World} {n₀ g cap : Nat} {zs : List Int} (hown : w1.ownsRow n₀ 2 1 (.slice (some ⟨g, 0, none⟩) zs.length cap) zs.length (zs.map iv4)) : Holds (Value.int .i64) w1 g 0 zs.toArray ∧ g < w1.heap.size := by
  rcases hown.2 with ⟨hv1, _⟩ | ⟨g', cap1, cur, hv, hbase, hheap, h1, h2, h3, h4⟩
  · cases hv1
  · cases hv
    rw [Nat.mul_one] at h4
    exact ⟨holds_of_blockI (ss := zs) hheap h4, (Array.getElem?_eq_some_iff.1 hheap).1⟩
set_option maxRecDepth 100000 in
set_option maxHeartbeats 4000000 in
theorem ipko_any (w : World) (a : Option Addr) (cap : Nat) (zs : List Int) (th g : Int) (hl : zs.length ≤ 1048576) (hz : Ints .i64 w w.heap.size a zs) :
    Calls Try.prog 7 #[.slice a zs.length cap, .int .i64 th, .int .i64 g] w fun e w' => ∃ (a' : Option Addr) (c' : Nat), e = .returned (.tuple #[.slice a' (poL zs th g).length c', .int .i64 (poC zs th g)]) ∧ OwnA w' w.heap.size w'.heap.size a' c' (poL zs th g) ∧ Below w.heap.size w w' := by
  obtain ⟨i0, hi, hz0, hz1, hz2⟩ := info_parts info_i64
  have HZ := Lib.hid hz
  clear hz
  cases hs : trcB zs
  case false =>
    have H2 : Hid (poC zs th g = 1) := Lib.hid (by unfold poC; rw [hs]; rfl)
    have H1 : Hid (poL zs th g = []) := Lib.hid (by unfold poL; rw [H2.out]; rfl)
    go_enter Try.func7, Try.ntmps7
    go_wp2_with fail
    refine (itc_any w a cap zs (by omega) HZ.out).mono ?_
    rw [hs]
    rintro e w1 ⟨rfl, hb⟩
    have HB := Lib.hid hb
    clear hb
    go_wp2
    go_ret2
    exact ⟨none, 0, by rw [H1.out, H2.out]; rfl, by rw [H1.out]; exact ownA_nil _ _ (Below.size HB.out), HB.out⟩
  case true =>
    cases ht : hasB 1 1000000000000 th
    case false =>
      have H2 : Hid (poC zs th g = 2) := Lib.hid (by unfold poC; rw [hs, ht]; rfl)
      have H1 : Hid (poL zs th g = []) := Lib.hid (by unfold poL; rw [H2.out]; rfl)
      go_enter Try.func7, Try.ntmps7
      go_wp2_with fail
      refine (itc_any w a cap zs (by omega) HZ.out).mono ?_
      rw [hs]
      rintro e w1 ⟨rfl, hb⟩
      have HB := Lib.hid hb
      clear hb
      go_wp2_with (go_at_call 24; refine (ith_any _ _).mono ?_; rw [ht]; rintro e w' ⟨rfl, rfl⟩)
      go_ret2
      exact ⟨none, 0, by rw [H1.out, H2.out]; rfl, by rw [H1.out]; exact ownA_nil _ _ (by have := Below.size HB.out; simp; omega), bel_end HB.out (by repeat (first | exact Below.refl _ _ | (refine Below.alloc ?_ (by simp <;> omega) _) | (refine Below.setCell ?_ (by simp <;> omega) _) | (refine Below.drew ?_) | (refine bel_drewN ?_ _)))⟩
    case true =>
      cases hm : hasB 0 400 g
      case false =>
        have H2 : Hid (poC zs th g = 2) := Lib.hid (by unfold poC; rw [hs, ht, hm]; rfl)
        have H1 : Hid (poL zs th g = []) := Lib.hid (by unfold poL; rw [H2.out]; rfl)
        go_enter Try.func7, Try.ntmps7
        go_wp2_with fail
        refine (itc_any w a cap zs (by omega) HZ.out).mono ?_
        rw [hs]
        rintro e w1 ⟨rfl, hb⟩
        have HB := Lib.hid hb
        clear hb
        go_wp2_with (first | (go_at_call 24; refine (ith_any _ _).mono ?_; rw [ht]; rintro e w' ⟨rfl, rfl⟩) | (go_at_call 25; refine (lacks_any _ _ _ _).mono ?_; rw [hm]; rintro e w' ⟨rfl, rfl⟩))
        go_ret2
        exact ⟨none, 0, by rw [H1.out, H2.out]; rfl, by rw [H1.out]; exact ownA_nil _ _ (by have := Below.size HB.out; simp; omega), bel_end HB.out (by repeat (first | exact Below.refl _ _ | (refine Below.alloc ?_ (by simp <;> omega) _) | (refine Below.setCell ?_ (by simp <;> omega) _) | (refine Below.drew ?_) | (refine bel_drewN ?_ _)))⟩
      case true =>
        have H2 : Hid (poC zs th g = 0) := Lib.hid (by unfold poC; rw [hs, ht, hm]; rfl)
        have H1 : Hid (poL zs th g = poS zs th g) := Lib.hid (by unfold poL; rw [H2.out]; rfl)
        have hm2 := hm
        unfold hasB at hm2
        simp only [Bool.and_eq_true, decide_eq_true_eq] at hm2
        obtain ⟨g0, g1⟩ := hm2
        obtain ⟨h4, hsm⟩ := trcB_t hs
        have HSM := Lib.hid hsm
        obtain ⟨S, hS⟩ : ∃ S, cndS zs th = S := ⟨_, rfl⟩
        obtain ⟨RES, hR⟩ : ∃ R, goP g [] S = R := ⟨_, rfl⟩
        have HRS : Hid (poS zs th g = srtZ RES) := Lib.hid (by unfold poS srtZ; rw [hS, hR])
        have hSl : S.length ≤ 400 := by rw [← hS]; exact Nat.le_trans (cndS_len zs th) h4
        have HSC : Hid (∀ i ∈ S, cnd zs th i = true) := Lib.hid (fun i hi => (cndS_mem zs th i).1 (by rw [hS]; exact hi))
        have HR := Lib.hid hR
        have HCS := Lib.hid hS
        have hpf := mvl_any
        have HPF := Lib.hid hpf
        clear hR hsm hS hpf
        go_enter Try.func7, Try.ntmps7
        go_wp2_with fail
        refine (itc_any w a cap zs (by omega) HZ.out).mono ?_
        rw [hs]
        rintro e w1 ⟨rfl, hb⟩
        have HB := Lib.hid hb
        clear hb
        go_wp2_with (first | (go_at_call 24; refine (ith_any _ _).mono ?_; rw [ht]; rintro e w' ⟨rfl, rfl⟩) | (go_at_call 25; refine (lacks_any _ _ _ _).mono ?_; rw [hm]; rintro e w' ⟨rfl, rfl⟩))
        generalize hW : World.alloc _ _ = W2
        have hb : Below w1.heap.size w1 W2 := by rw [← hW]; exact (by repeat (first | exact Below.refl _ _ | (refine Below.alloc ?_ (by simp <;> omega) _) | (refine Below.setCell ?_ (by simp <;> omega) _) | (refine Below.drew ?_) | (refine bel_drewN ?_ _)))
        replace HB := Lib.hid (bel_end HB.out hb)
        have HZ2 := Lib.hid ((HZ.out.below HB.out).more (Below.size HB.out))
        clear hW hb
        refine (mov_any W2 a cap zs th h4 HSM.out HZ2.out).mono ?_
        rintro e w3 ⟨b, rfl, hbW, ⟨nn, D0, hown, hnn, hQ⟩, hb3⟩
        have hbl := hown.lt
        have hwb : w.heap.size ≤ b := Nat.le_trans (Below.size HB.out) hbW
        replace HB := Lib.hid (bel_end HB.out hb3)
        have HOW := Lib.hid hown
        have HQ0 := Lib.hid hQ
        clear hown hQ hb3 hbW HZ2
        go_wp2_with (go_at_call 28; refine (HPF.out _ _).mono ?_; rintro e w' ⟨rfl, rfl⟩)
        obtain ⟨W4, hW⟩ : ∃ X, X = w3.alloc (.cells #[.map (some b)] 43) := ⟨_, rfl⟩
        have hb : Below w3.heap.size w3 W4 := by rw [hW]; exact (by repeat (first | exact Below.refl _ _ | (refine Below.alloc ?_ (by simp <;> omega) _) | (refine Below.setCell ?_ (by simp <;> omega) _) | (refine Below.drew ?_) | (refine bel_drewN ?_ _)))
        have hcm : W4.cell? ⟨w3.heap.size, 0, none⟩ = some (.map (some b)) := by rw [hW]; simp [go_sem]
        have hsz : w3.heap.size < W4.heap.size := by rw [hW]; simp
        replace HB := Lib.hid (bel_end HB.out hb)
        have hsr := srf_any W4 w3.heap.size b nn D0 zs th h4 HSM.out HQ0.out hnn hsz hcm (HOW.out.kept (grown_none hb) (by simp))
        rw [HCS.out] at hsr
        have HOW4 := Lib.hid (HOW.out.kept (grown_none hb) (by simp) (w' := W4))
        rw [← hW]
        clear hW hb hcm
        refine hsr.mono ?_
        rintro e wS ⟨aS, cS, rfl, hMS, hb5⟩
        have HT0 : Hid (PkT w wS zs S b aS (okQ zs th g []) none 0 [] wS) := Lib.hid ⟨World.ownsRow_nil _ _ _ _, ⟨nn, D0, HOW4.out.kept (grown_none hb5) (by simp), HQ0.out.congr (fun i => by unfold okQ nrB; simp)⟩, hMS.imp id (fun ⟨gS, e1, e2, e3⟩ => ⟨gS, e1, by omega, e3.1, e3⟩), bel_end HB.out hb5, Nat.le_refl _, Nat.lt_of_lt_of_le (Nat.lt_trans hbl hsz) hb5.size, hwb⟩
        clear hsr hMS hb5 HB HOW HQ0 HOW4 HPF hbl hsz
        go_wp2_with fail
        go_loopw [10, 35] (fun v i wr => ∃ (k : Nat) (a' : Option Addr) (c' : Nat) (C : List Int), k ≤ S.length ∧ i = .int .i64 (k : Int) ∧ v = .slice a' C.length c' ∧ PkT w wS zs S b aS (okQ zs th g C) a' c' C wr ∧ C.length ≤ k ∧ goP g C (S.drop k) = RES) (fun _ i _ => S.length - (intOf i).toNat)
        case atStart => exact ⟨0, none, 0, [], Nat.zero_le _, rfl, rfl, HT0.out, Nat.le_refl _, HR.out⟩
        case round =>
          obtain ⟨k, a', c', C, hk, rfl, rfl, hT, hCk, hG⟩ := hrel
          have HT := Lib.hid hT
          have HG := Lib.hid hG
          clear hT hG HT0 HR
          by_cases hlt : k < S.length
          case pos =>
            have hcm := HSC.out _ (getD_mem hlt)
            have HG2 : Hid (goP g C (S.getD k 0 :: S.drop (k + 1)) = RES) := Lib.hid (by rw [← drop_cons hlt]; exact HG.out)
            clear HG
            rcases HT.out.mks with e | ⟨gS, ra, hbg, hgs, hM⟩
            · rw [e] at hlt
              exact absurd hlt (Nat.not_lt_zero _)
            subst ra
            obtain ⟨m0, m1⟩ := hM.2 k hlt
            obtain ⟨m, hm3⟩ : ∃ m, S.getD k 0 = m := ⟨_, rfl⟩
            rw [hm3] at m0 m1 hcm HG2
            obtain ⟨hqm, hml⟩ := cndQ_of hcm
            obtain ⟨x, hx⟩ : ∃ x, zs.getD m 0 = x := ⟨_, rfl⟩
            rw [hx] at m1
            have HQM := Lib.hid hqm
            clear hx hm3 hM hcm hqm
            go_upto_region 11 with fail
            obtain ⟨W5, hW5⟩ : ∃ X, X = wr.alloc (.cells #[.int .i64 (m : Int), .int .i64 x] 48) := ⟨_, rfl⟩
            have bX : Bk W5 wr.heap.size #[.int .i64 (m : Int), .int .i64 x] 48 := by rw [hW5]; exact Bk.new' rfl
            have hb5 : Below wr.heap.size wr W5 := by rw [hW5]; exact (by repeat (first | exact Below.refl _ _ | (refine Below.alloc ?_ (by simp <;> omega) _) | (refine Below.setCell ?_ (by simp <;> omega) _) | (refine Below.drew ?_) | (refine bel_drewN ?_ _)))
            have hup := HT.out.up
            have hrl := fun k e => (HT.out.row.lt k e).2
            have HT5 := Lib.hid (HT.out.on hb5)
            rw [← hW5]
            clear hW5 hb5 m0 m1
            obtain ⟨bx, hbx⟩ : ∃ bx, wr.heap.size = bx := ⟨_, rfl⟩
            rw [hbx] at bX hup hrl ⊢
            clear hbx HT
            have HX := Lib.hid bX
            have HRL := Lib.hid hrl
            have c0 : W5.cell? ⟨bx, 0, none⟩ = some (.int .i64 (m : Int)) := bX.cell 0 rfl
            clear bX hrl
            obtain ⟨nn, D, hO, hQ⟩ := HT5.out.map
            have hkw : (Lit.int .i64 (m : Int)).wf = true := wfK64 (by omega)
            have hhas : has D (.int .i64 (m : Int)) = !nrB C g (m : Int) := by rw [(hQ _ hkw).1]; unfold okQ; rw [HQM.out]; rfl
            have HO := Lib.hid hO
            have HQ := Lib.hid hQ
            clear hO hQ
            cases hn : nrB C g (m : Int)
            case true =>
              rw [hn] at hhas
              have HN := Lib.hid hn
              have HH := Lib.hid hhas
              clear hn hhas
              go_wp2_with (at_lookup; refine lookup_mrk rfl _ _ rfl b nn D rfl HO.out (m : Int) rfl hkw ?_; intro p q; rw [HH.out])
              go_roundw
              case rel => exact ⟨k + 1, a', c', C, by omega, by go_num, rfl, HT5.out.on ((Below.refl _ _).alloc (Nat.le_refl _) _), by omega, by have h := HG2.out; rw [goP_skip HN.out] at h; exact h⟩
              case measure => simp [intOf]; omega
            case false =>
              rw [hn] at hhas
              have HN := Lib.hid hn
              have HH := Lib.hid hhas
              clear hn hhas
              go_upto_region 13 with (at_lookup; refine lookup_mrk rfl _ _ rfl b nn D rfl HO.out (m : Int) rfl hkw ?_; intro p q; rw [HH.out])
              obtain ⟨W6, hW6⟩ : ∃ X, X = W5.alloc (.cells #[.int .i64 p, .int .i64 q] 48) := ⟨_, rfl⟩
              have hb6 : Below W5.heap.size W5 W6 := by rw [hW6]; exact (by repeat (first | exact Below.refl _ _ | (refine Below.alloc ?_ (by simp <;> omega) _) | (refine Below.setCell ?_ (by simp <;> omega) _) | (refine Below.drew ?_) | (refine bel_drewN ?_ _)))
              have HT6 := Lib.hid (HT5.out.on hb6)
              have HX6 := Lib.hid (HX.out.on hb6)
              have hup6 := HT6.out.up
              replace c0 : W6.cell? ⟨bx, 0, none⟩ = some (.int .i64 (m : Int)) := HX6.out.cell 0 rfl
              rw [← hW6]
              clear hW6 hb6 HT5 HX HO HQ HH
              go_wp2_with (at_builtin; refine wpList_append_own _ rfl _ _ 22 rfl wS.heap.size 2 i0 (.int .i64 0) 1 8 Try.underlying22 hi hz0 hz1 hz2 rfl (by decide) (.slice a' C.length c') C.length (C.map iv4) rfl (HT6.out.row.alloc _) ⟨W6.heap.size, 0, none⟩ 1 1 [.int .i64 (m : Int)] rfl rfl (cell_one_new _ _ _) (by simp [Value.oneCell']) (by unfold maxLen; omega) (by omega) (by simp; omega) ?_; intro v1 w9 hown hgrow hnil; clear hnil; obtain ⟨g1, cp1, rfl⟩ := ownsRow_succ hown; have HT9 := Lib.hid (HT6.out.put hown hgrow); have HX9 := Lib.hid ((HX6.out.alloc _).kept hgrow (fun e => by have := HRL.out _ e.symm; omega)); have c9 : w9.cell? ⟨bx, 0, none⟩ = some (.int .i64 (m : Int)) := HX9.out.cell 0 rfl; clear hown hgrow)
              clear HT6 HX6 c0 hup6
              go_loopw [15] (fun i wx => ∃ t : Nat, (t : Int) ≤ 2 * g + 1 ∧ i = .int .i64 ((m : Int) - g + (t : Int)) ∧ PkT w wS zs S b (some ⟨gS, 0, none⟩) (fun j => okQ zs th g C j && !(decide ((m : Int) - g ≤ j) && decide (j < (m : Int) - g + (t : Int)))) (some ⟨g1, 0, none⟩) cp1 (C ++ [(m : Int)]) wx ∧ Bk wx bx #[.int .i64 (m : Int), .int .i64 x] 48) (fun i _ => ((m : Int) + g + 1 - intOf i).toNat)
              case atStart => exact ⟨0, by omega, by go_num, HT9.out.eqv (fun j => by
                  by_cases h : (m : Int) - g ≤ j
                  · rw [decide_eq_false (show ¬ j < (m : Int) - g + ((0 : Nat) : Int) by omega), Bool.and_false]; simp
                  · rw [decide_eq_false h]; simp), HX9.out⟩
              case round =>
                obtain ⟨t, htt, rfl, hT, hX⟩ := hrel
                have HT := Lib.hid hT
                have HX := Lib.hid hX
                have d0 := bk2_0 hX
                clear hT hX HT9 HX9 c9
                by_cases hle : (m : Int) - g + (t : Int) ≤ (m : Int) + g
                case pos =>
                  obtain ⟨nn, D, hO, hQ⟩ := HT.out.map
                  have HO := Lib.hid hO
                  have HQ := Lib.hid hQ
                  have hkw2 : (Lit.int .i64 ((m : Int) - g + (t : Int))).wf = true := wfK64 (by omega)
                  have hbl := HT.out.bl
                  clear hO hQ
                  go_wp2_with (at_delete; refine wpList_delete_own _ rfl _ _ 43 2 rfl 48 keyed64 Try.underlying43 mkR b nn D rfl HO.out (.int .i64 ((m : Int) - g + (t : Int))) (.int .i64 ((m : Int) - g + (t : Int))) rfl (key64 hkw2) ?_; intro w10 hown10 hturn10; have HT10 := Lib.hid (HT.out.del HQ.out hown10 hturn10); have HX10 := Lib.hid (HX.out.kept hturn10.grown (fun e => by injection e; omega)); clear hown10 hturn10)
                  go_roundw
                  case rel => exact ⟨t + 1, by omega, by go_num, HT10.out.eqv (fun j => by
                    have e : (decide ((m : Int) - g ≤ j) && decide (j < (m : Int) - g + ((t + 1 : Nat) : Int))) = ((decide ((m : Int) - g ≤ j) && decide (j < (m : Int) - g + (t : Int))) || decide (j = (m : Int) - g + (t : Int))) := by
                      rw [Bool.eq_iff_iff]
                      simp only [Bool.and_eq_true, Bool.or_eq_true, decide_eq_true_iff]
                      omega
                    rw [e]
                    cases okQ zs th g C j <;> simp), HX10.out⟩
                  case measure => simp [intOf]; omega
                case neg =>
                  have htg : (t : Int) = 2 * g + 1 := by omega
                  have HTF : Hid (PkT w wS zs S b (some ⟨gS, 0, none⟩) (okQ zs th g (C ++ [(m : Int)])) (some ⟨g1, 0, none⟩) cp1 (C ++ [(m : Int)]) wr) := Lib.hid (HT.out.eqv (fun j => by
                    have e : (decide ((m : Int) - g ≤ j) && decide (j < (m : Int) - g + (t : Int))) = decide ((((m : Int) - j).natAbs : Int) ≤ g) := by
                      rw [Bool.eq_iff_iff]
                      simp only [Bool.and_eq_true, decide_eq_true_iff]
                      omega
                    unfold okQ
                    rw [nrB_snoc, e]
                    cases cndQ zs th zs.length j <;> simp))
                  go_wp2
                  go_roundw
                  case rel => exact ⟨k + 1, some ⟨g1, 0, none⟩, cp1, C ++ [(m : Int)], by omega, by go_num, by rw [List.length_append]; rfl, HTF.out, by rw [List.length_append]; simp; omega, by have h := HG2.out; rw [goP_take HN.out] at h; exact h⟩
                  case measure => simp [intOf]; omega
          case neg =>
            obtain rfl : k = S.length := by omega
            obtain rfl : C = RES := by have h := HG.out; rw [List.drop_length] at h; exact h
            go_wp2_with fail
            by_cases hC : C = []
            case pos =>
              subst hC
              refine (AnyM.slices_Sort_int_none Try.layssort a' c' _).mono ?_
              rintro e w' ⟨rfl, rfl⟩
              go_wp2
              go_ret2
              have ez : srtZ ([] : List Int) = [] := by simp [srtZ]
              exact ⟨a', c', by rw [H1.out, H2.out, HRS.out, ez]; rfl, by rw [H1.out, HRS.out, ez]; exact ⟨World.ownsRow.mono HT.out.row (Nat.le_trans HT.out.bw (Nat.le_of_lt HT.out.bl)), fun g e => (HT.out.row.lt g e).2, Nat.le_refl _⟩, HT.out.bel⟩
            case neg =>
              have hrow := HT.out.row
              rcases hrow.2 with ⟨hv1, h0⟩ | ⟨g', cap1, cur, hv, -⟩
              · exact absurd (List.length_eq_zero_iff.1 h0) hC
              · have ra : a' = some ⟨g', 0, none⟩ := by injection hv
                subst ra
                obtain ⟨hH, hgl⟩ := row_holds hrow
                refine (AnyM.slices_Sort_int Try.layssort g' 0 c' C _ hH hgl (by omega)).mono ?_
                rintro e w2 ⟨rfl, n, os, hw2⟩
                obtain ⟨hA, hB⟩ := sorted_row HT.out.bel (Nat.le_trans HT.out.bw (Nat.le_of_lt HT.out.bl)) hrow hw2
                have HA := Lib.hid hA
                have HB := Lib.hid hB
                clear hA hB hw2 hH hgl hrow
                go_wp2
                go_ret2
                exact ⟨some ⟨g', 0, none⟩, c', by rw [H1.out, H2.out, HRS.out]; unfold srtZ; rw [List.length_mergeSort]; rfl, by rw [H1.out, HRS.out]; exact HA.out, HB.out⟩
end Go.Proofs.Ytndbpekmjpelaaa
