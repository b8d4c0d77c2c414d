/- The search for echoes: an echo taken off a signal, the strongest echo, three rows of one's own. -/
import Derived.Test.YthfaejhiabdkbabMfB
import Derived.Test.YthfaejhiabdkbabMfQ
namespace Go.Proofs.Ythfaejhiabdkbab
open Go.ChangeShapes Go.WideShapes Go.ChangeAt Go.RowKit Go.Shelf Num
set_option linter.unusedVariables false
set_option linter.unusedSimpArgs false
theorem addE_at (S : List Int) (d : Nat) (g : Int) (ps : List Int) : ∀ (k j : Nat), d + k ≤ S.length → (addE S d g ps k).getD j 0 = if d ≤ j ∧ j < d + k then S.getD j 0 + g * ps.getD (j - d) 0 else S.getD j 0
  | 0, j, _ => by rw [if_neg (by omega)]; rfl
  | k + 1, j, h => by
    rw [addE_succ, getD_setP, addE_len]
    by_cases e : d + k = j
    · subst e
      rw [if_pos ⟨rfl, by omega⟩, if_pos (by omega), addE_at S d g ps k _ (by omega), if_neg (by omega), show d + k - d = k by omega]
    · rw [if_neg (fun hh => e hh.1), addE_at S d g ps k j (by omega)]
      by_cases hj : d ≤ j ∧ j < d + k
      · rw [if_pos hj, if_pos (by omega)]
      · rw [if_neg hj, if_neg (by omega)]
theorem prod_bdG {x y : Int} (h1 : -1000000000 ≤ x ∧ x ≤ 1000000000) (h2 : -1000 ≤ y ∧ y ≤ 1000) : -1000000000000 ≤ x * y ∧ x * y ≤ 1000000000000 := by
  have := mul_abs (a := x) (n := y) (A := 1000000000) (N := 1000) (by omega) (by omega)
  omega
theorem below_grP {w w' : World} {s B : Nat} (h : w.grownBy w' (some s)) (hB : B ≤ s) (hw : B ≤ w.heap.size) : Below B w w' :=
  ⟨h.os, h.tape, h.output, h.size, fun k hk => h.block k (Nat.lt_of_lt_of_le hk hw) (fun e => by injection e; omega)⟩
set_option maxRecDepth 100000 in
set_option maxHeartbeats 2000000 in
theorem aeg_any (w : World) (B G cG n d m : Nat) (sa pa : Option Addr) (c2 c3 : Nat) (S ps : List Int) (g : Int)
    (hR : w.ownsRow B 2 1 (.slice (some ⟨G, 0, none⟩) n cG) n (S.map iv4)) (hSl : S.length = n) (hsa : 0 < ps.length → sa = some ⟨G, d, none⟩) (hm : n - d = m) (hd : d + ps.length ≤ n) (hn : n ≤ 400) (hg : -1000000000 ≤ g ∧ g ≤ 1000000000) (hp : smlL 1000 ps) (hS : smlL 1000 S) (hB : B ≤ w.heap.size) (hz : Ints .i64 w B pa ps) :
    Calls Try.prog 52 #[.slice sa m c2, .slice pa ps.length c3, .int .i64 g] w fun e w' => e = .returned (.tuple #[]) ∧ w'.ownsRow B 2 1 (.slice (some ⟨G, 0, none⟩) n cG) n ((addE S d g ps ps.length).map iv4) ∧ w.grownBy w' (some G) := by
  have HR0 := Lib.hid hR
  have HGB : Hid (B ≤ G) := Lib.hid (hR.lt G rfl).1
  have HSA := Lib.hid hsa
  have HAT : Hid (∀ k, k ≤ ps.length → (addE S d g ps k).getD (d + k) 0 = S.getD (d + k) 0) := Lib.hid (fun k hk => by rw [addE_at S d g ps k _ (by omega), if_neg (by omega)])
  have HSB := Lib.hid hS
  have HP := Lib.hid hp
  have HL := Lib.hid (fun k => (addE_len S d g ps k).trans hSl)
  have HZ := Lib.hid hz
  have HBw := Lib.hid hB
  obtain ⟨g1, g2⟩ := hg
  clear hR hsa hp hS hSl hz hB
  go_enter Try.func52, Try.ntmps52
  go_wp2
  go_loopw [10] (fun x wr => ∃ k : Nat, k ≤ ps.length ∧ x = .int .i64 (k : Int) ∧ wr.ownsRow B 2 1 (.slice (some ⟨G, 0, none⟩) n cG) n ((addE S d g ps k).map iv4) ∧ w.grownBy wr (some G)) (fun x _ => ps.length - (intOf x).toNat)
  case atStart => exact ⟨0, by omega, rfl, HR0.out, grown_id _ _⟩
  case round =>
    obtain ⟨k, hk, rfl, hR, hgr⟩ := hrel
    rename_i wr
    have HR := Lib.hid hR
    have HG := Lib.hid hgr
    clear hR hgr HR0
    by_cases hlt : k < ps.length
    · have ra := HSA.out (by omega)
      subst ra
      obtain ⟨b1, o1, rb, hB1, hc1⟩ := (HZ.out.below (below_grP HG.out HGB.out HBw.out)).at_ hlt
      subst rb
      have hs := addE_succ S d g ps k
      have hv := HSB.out (d + k)
      have hat := HAT.out k hk
      have hx2 := HP.out k
      have c1 : wr.cell? ⟨G, d + k, none⟩ = some (.int .i64 ((addE S d g ps k).getD (d + k) 0)) := by
        rw [HR.out.cellAt (d + k) (by omega), List.getElem?_map, List.getElem?_eq_getElem (by rw [HL.out]; omega), List.getD_eq_getElem?_getD, List.getElem?_eq_getElem (by rw [HL.out]; omega)]; rfl
      have f1 := HR.out.frozenAt (d + k)
      obtain ⟨x, hx⟩ : ∃ x, ps.getD k 0 = x := ⟨_, rfl⟩
      obtain ⟨v, hvv⟩ : ∃ v, (addE S d g ps k).getD (d + k) 0 = v := ⟨_, rfl⟩
      rw [hx] at hc1 hs hx2
      rw [hvv] at c1 hs hat
      rw [← hat] at hv
      have hpr := prod_bdG ⟨g1, g2⟩ hx2
      obtain ⟨p1, p2⟩ := hpr
      obtain ⟨q1, q2⟩ := hv
      have HS := Lib.hid hs
      clear hx hvv hs hat hx2
      go_wp2_with fail
      go_roundw
      case rel => exact ⟨k + 1, by omega, by go_num, by rw [HS.out]; exact own_set HR.out _ _, grown_cell HG.out _ _⟩
      case measure => simp [intOf]; omega
    · obtain rfl : k = ps.length := by omega
      go_wp2
      go_end0
      exact ⟨rfl, HR.out, HG.out⟩
/-- three rows of one's own behind the world w1 -/
structure F3 (w1 : World) (G cG n : Nat) (R : List Int) (a : Option Addr) (c : Nat) (ds : List Int) (b : Option Addr) (d : Nat) (gs : List Int) (W : World) : Prop where
  rest : W.ownsRow w1.heap.size 2 1 (.slice (some ⟨G, 0, none⟩) n cG) n (R.map iv4)
  fst : W.ownsRow w1.heap.size 2 1 (.slice a ds.length c) ds.length (ds.map iv4)
  snd : W.ownsRow w1.heap.size 2 1 (.slice b gs.length d) gs.length (gs.map iv4)
  n1 : (Value.slice a ds.length c).ownBlock ≠ some G
  n2 : (Value.slice b gs.length d).ownBlock ≠ some G
  n3 : ∀ g, (Value.slice a ds.length c).ownBlock = some g → (Value.slice b gs.length d).ownBlock ≠ some g
  bel : Below w1.heap.size w1 W
  len : R.length = n
section
variable {w1 W W' : World} {G cG n c d : Nat} {R ds gs : List Int} {a b : Option Addr}
theorem F3.on (h : F3 w1 G cG n R a c ds b d gs W) (hb : Below W.heap.size W W') : F3 w1 G cG n R a c ds b d gs W' :=
  ⟨own_bel h.rest hb, own_bel h.fst hb, own_bel h.snd hb, h.n1, h.n2, h.n3, bel_end h.bel hb, h.len⟩
theorem F3.swap (h : F3 w1 G cG n R a c ds b d gs W) : F3 w1 G cG n R b d gs a c ds W :=
  ⟨h.rest, h.snd, h.fst, h.n2, h.n1, fun g e e' => h.n3 g e' e, h.bel, h.len⟩
theorem F3.turn {R' : List Int} (h : F3 w1 G cG n R a c ds b d gs W) (hr : W'.ownsRow w1.heap.size 2 1 (.slice (some ⟨G, 0, none⟩) n cG) n (R'.map iv4)) (hl : R'.length = n) (hg : W.grownBy W' (some G)) : F3 w1 G cG n R' a c ds b d gs W' :=
  ⟨hr, h.fst.kept hg (Or.inr h.n1), h.snd.kept hg (Or.inr h.n2), h.n1, h.n2, h.n3, h.bel.grown hg h.bel.size (fun k e => by injection e with e; subst e; exact (h.rest.lt G rfl).1), hl⟩
theorem F3.put {w9 : World} {o : Obj} {g' c' : Nat} {x : Int} (h : F3 w1 G cG n R a c ds b d gs W) (hown : w9.ownsRow w1.heap.size 2 1 (.slice (some ⟨g', 0, none⟩) (ds.length + 1) c') (ds.length + 1) (ds.map iv4 ++ [.int .i64 x]))
    (hg : (W.alloc o).grownBy w9 (Value.slice a ds.length c).ownBlock) (hat : (Value.slice a ds.length c).ownBlock = some g' ∨ g' = W.heap.size + 1) : F3 w1 G cG n R (some ⟨g', 0, none⟩) c' (ds ++ [x]) b d gs w9 := by
  have h2 := h.on ((Below.refl _ W).alloc (Nat.le_refl _) o)
  have hG := (h.rest.lt G rfl).2
  refine ⟨h2.rest.kept hg (Or.inr fun e => h.n1 e.symm), by simpa [iv4] using hown, h2.snd.kept hg ?_, ?_, h.n2, ?_, h2.bel.grown hg h2.bel.size (fun k e => (h2.fst.lt k e).1), h.len⟩
  · cases e : (Value.slice b gs.length d).ownBlock with
    | none => exact Or.inl rfl
    | some x => exact Or.inr fun e' => h.n3 x e'.symm e
  · intro e
    simp only [Value.ownBlock, Option.some.injEq] at e
    subst e
    rcases hat with e | e
    · exact h.n1 e
    · omega
  · intro g e e'
    simp only [Value.ownBlock, Option.some.injEq] at e
    subst e
    rcases hat with e2 | e2
    · exact h.n3 _ e2 e'
    · have := (h.snd.lt _ e').2
      omega
theorem F3.lo (h : F3 w1 G cG n R a c ds b d gs W) : w1.heap.size ≤ G := (h.rest.lt G rfl).1
theorem F3.restI (h : F3 w1 G cG n R a c ds b d gs W) : Ints .i64 W W.heap.size (some ⟨G, 0, none⟩) R := own_ints (B := w1.heap.size) (c := cG) (by rw [h.len]; exact h.rest)
theorem F3.cap (h : F3 w1 G cG n R a c ds b d gs W) : n ≤ cG := own_caps h.rest
theorem F3.two (h : F3 w1 G cG n R a c ds b d gs W) {lo : Nat} (hl : lo ≤ w1.heap.size) : OwnQ W lo W.heap.size a c b d ds gs :=
  ⟨⟨World.ownsRow.mono h.fst hl, fun g e => (h.fst.lt g e).2, Nat.le_refl _⟩, ⟨World.ownsRow.mono h.snd hl, fun g e => (h.snd.lt g e).2, Nat.le_refl _⟩, h.n3⟩
end
/-- the strongest echo -/
theorem fVl_eq (ps rest : List Int) : fVl ps rest = (mtL rest ps).getD (pkV (mtL rest ps)) 0 := rfl
theorem fGn_lo {ps rest : List Int} {th : Int} (h : ((fVl ps rest).natAbs : Int) < th) : fGn ps th rest = 0 := by unfold fGn; rw [if_pos h]
theorem fGn_hi {ps rest : List Int} {th : Int} (h : ¬ ((fVl ps rest).natAbs : Int) < th) : fGn ps th rest = nqv (fVl ps rest) (cor ps 0) := by unfold fGn; rw [if_neg h]
theorem fVl_bd {ps rest : List Int} (h : mtC rest ps = 0) : -400000000 ≤ fVl ps rest ∧ fVl ps rest ≤ 400000000 := by
  obtain ⟨h1, h2, -, -⟩ := mtC_0 h
  exact mtK_sml (sigB_t h1).2 (sigB_t h2).2 (sigB_t h2).1 (mtN rest ps) _
set_option maxRecDepth 100000 in
set_option maxHeartbeats 2000000 in
theorem ise_any (w : World) (a b : Option Addr) (c d : Nat) (rest ps : List Int) (th : Int) (h : mtC rest ps = 0) (hc : rest.length ≤ c) (hd : ps.length ≤ d) (t1 : 1 ≤ th) (t2 : th ≤ 1000000000000) (hz : Ints .i64 w w.heap.size a rest) (hy : Ints .i64 w w.heap.size b ps) :
    Calls Try.prog 51 #[.slice a rest.length c, .slice b ps.length d, .int .i64 th] w fun e w' => ∃ D : Int, e = .returned (.tuple #[.int .i64 D, .int .i64 (fGn ps th rest)]) ∧ (fGn ps th rest ≠ 0 → D = ((fAt ps rest : Nat) : Int)) ∧ Below w.heap.size w w' := by
  have HZ := Lib.hid hz
  have HY := Lib.hid hy
  obtain ⟨s1, s2, p0, pl⟩ := mtC_0 h
  obtain ⟨v1, v2⟩ := fVl_bd h
  have h4 := (sigB_t s1).1
  have KC := Lib.hid (fun (W : World) (hy : Ints .i64 W w.heap.size b ps) => cra_any W _ b d 0 ps (Nat.zero_le _) (sigB_t s2).1 hd (sigB_t s2).2 hy)
  have HC := Lib.hid h
  have HSM : Hid (smlL 1000000000000 (mtL rest ps)) := Lib.hid (fun i => by have := mtK_sml (sigB_t s1).2 (sigB_t s2).2 (sigB_t s2).1 (mtN rest ps) i; unfold mtL; omega)
  have HLn : Hid ((mtL rest ps).length = rest.length - ps.length + 1) := Lib.hid (mtL_len rest ps)
  have HLO := Lib.hid (fun h => fGn_lo (ps := ps) (rest := rest) (th := th) h)
  have HHI := Lib.hid (fun h => fGn_hi (ps := ps) (rest := rest) (th := th) h)
  have HAT : Hid (fAt ps rest = pkV (mtL rest ps)) := Lib.hid rfl
  have hve := fVl_eq ps rest
  clear s1 s2 hz hy h
  go_enter Try.func51, Try.ntmps51
  go_wp2_with fail
  refine (mto_any w a b c d rest ps HC.out hc HZ.out HY.out).mono ?_
  rintro e w1 ⟨g, c', rfl, ho, hb⟩
  have HO := Lib.hid ho
  have HB := Lib.hid hb
  clear ho hb
  obtain ⟨L, hL⟩ : ∃ L, mtL rest ps = L := ⟨_, rfl⟩
  rw [hL] at HO HSM HLn HAT hve ⊢
  clear hL
  have hL0 : 0 < L.length := by rw [HLn.out]; omega
  have hL4 : L.length ≤ 1048576 := by rw [HLn.out]; omega
  go_wp2_with fail
  refine (ipo2_any w1 _ _ L hL0 hL4 HSM.out HO.out.ints).mono ?_
  rintro e w2 ⟨rfl, hb⟩
  replace HB := Lib.hid (bel_end HB.out hb)
  clear hb hL0 hL4 HO
  rw [← hve]
  obtain ⟨p, hp⟩ : ∃ p, pkV L = p := ⟨_, rfl⟩
  obtain ⟨v, hv⟩ : ∃ v, fVl ps rest = v := ⟨_, rfl⟩
  rw [hp] at HAT ⊢
  rw [hv] at v1 v2 HLO HHI ⊢
  clear hp hv hve
  go_upto_region 2 with fail
  generalize hW : World.alloc _ _ = W2
  have bX : Bk W2 w2.heap.size #[.int .i64 (p : Int), .int .i64 v] 69 := by rw [← hW]; exact Bk.new' rfl
  have hb : Below w2.heap.size w2 W2 := by rw [← hW]; exact (by repeat (first | exact Below.refl _ _ | (refine Below.alloc ?_ (by simp <;> omega) _) | (refine Below.setCell ?_ (by simp <;> omega) _) | (refine Below.drew ?_) | (refine bel_drewN ?_ _)))
  replace HB := Lib.hid (bel_end HB.out hb)
  clear hW hb
  have c0 := bX.cell 0 rfl
  have c1 := bX.cell 1 rfl
  clear bX
  by_cases hlt : (v.natAbs : Int) < th
  · have H1 := Lib.hid (HLO.out hlt)
    go_wp2_with (go_at_call 59; refine (abs_any _ (by omega) (by omega) _).mono ?_; rintro e w' ⟨rfl, rfl⟩)
    go_ret2
    exact ⟨0, by rw [H1.out]; rfl, fun hne => absurd H1.out hne, HB.out⟩
  · have H1 := Lib.hid (HHI.out (by omega))
    obtain ⟨E, hE⟩ : ∃ E, cor ps 0 = E := ⟨_, rfl⟩
    rw [hE] at KC H1
    clear hE
    have KQ := Lib.hid (fun (W : World) => inq_any v E W)
    have K1 := Lib.hid (fun (n : Nat) => KC.out (W2.drewN n) ((HY.out.below HB.out).drewN n))
    go_wp2_with (go_at_call 59; refine (abs_any _ (by omega) (by omega) _).mono ?_; rintro e w' ⟨rfl, rfl⟩)
    go_quiet ((first | (go_at_call 67; exact Calls.quiet_of_same ((K1.out _).mono fun _ _ h => ⟨h.1, h.2.symm⟩)) | (go_at_call 8; exact Calls.quiet_of_same ((KQ.out _).mono fun _ _ h => ⟨h.1, h.2.symm⟩))))
    go_wp2
    go_ret2
    exact ⟨(p : Int), by rw [H1.out]; rfl, fun _ => by rw [HAT.out], bel_end HB.out (below_drewN (Below.refl _ _) _)⟩
end Go.Proofs.Ythfaejhiabdkbab
