/- Contracts of the program's ContactsIn and NearestIn. -/
import Derived.Test.YtlahgdhofakinaaGtG
import Derived.Test.YtlahgdhofakinaaPwS
import Derived.Test.YtlahgdhofakinaaDrw
namespace Go.Proofs.Ytlahgdhofakinaa
open Go.ChangeShapes Go.WideShapes Go.ChangeAt Go.RowKit Go.Shelf Num
set_option linter.unusedVariables false
set_option linter.unusedSimpArgs false

/-- six numbers, those of the list first -/
def padA (L : List Int) : Array Value := (L.map iv4 ++ List.replicate (6 - L.length) (Value.int .i64 0)).toArray
theorem padA_nil : padA [] = #[.int .i64 0, .int .i64 0, .int .i64 0, .int .i64 0, .int .i64 0, .int .i64 0] := rfl
theorem padA_at {L : List Int} {j : Nat} (h : j < L.length) : (padA L)[j]? = some (.int .i64 (L.getD j 0)) := by
  unfold padA
  rw [List.getElem?_toArray, List.getElem?_append_left (by simpa using h), List.getElem?_map, List.getElem?_eq_getElem h, List.getD_eq_getElem?_getD, List.getElem?_eq_getElem h]
  rfl
theorem padA_zero {L : List Int} (h : L.length < 6) : (padA L)[L.length]? = some (.int .i64 0) := by
  unfold padA
  rw [List.getElem?_toArray, List.getElem?_append_right (by simp), List.length_map, Nat.sub_self, List.getElem?_replicate, if_pos (by omega)]
theorem padA_set {L : List Int} (z : Int) (h : L.length < 6) : (padA L).setIfInBounds L.length (.int .i64 z) = padA (L ++ [z]) := by
  unfold padA
  rw [List.setIfInBounds_toArray, List.set_append_right _ _ (by simp), List.length_map, Nat.sub_self, show 6 - L.length = (6 - (L ++ [z]).length) + 1 by simp; omega, List.replicate_succ, List.set_cons_zero, List.map_append, List.append_assoc]
  rfl
theorem padA_ints {W : World} {g : Nat} {L : List Int} {t : TypeId} (h : Bk W g (padA L) t) : Ints .i64 W W.heap.size (some ⟨g, 0, none⟩) L := fun _ => ⟨g, 0, rfl, h.lt, fun j hj => by
  rw [Nat.zero_add]
  exact h.cell j (padA_at hj)⟩
set_option maxRecDepth 100000 in
theorem run_pre6 (g n : Nat) (hn : n ≤ 6) (w : World) : (Instr.sliceAt 89 (.pointer (some ⟨g, 0, none⟩)) none (some (.int .i64 (n : Int))) none).run Try.prog w = .ok (.slice (some ⟨g, 0, none⟩) n 6) w := by
  have ha : Try.prog.arrayLen 89 = 6 := by kernel_rfl
  have hs : (sizeOf (Try.prog.elem 89)).run Try.prog w = .ok 1 w := by kernel_rfl
  rw [run_sliceAt_array_h (w := w) (ht := Try.underlying89) (kh := .i64) (h := (n : Int)) (h0 := by omega) (h2 := by rw [ha]; omega), hs]
  simp [Result.andThen, slicedAt, ha, Addr.add]
theorem wav_self (ps : List Int) : wav ps 0 ps.length = ps := by
  apply List.ext_getElem (by rw [wav_len])
  intro i h1 h2
  have := wav_at ps (o := 0) (N := ps.length) (k := i) h2
  rw [if_pos (by omega), Nat.sub_zero, List.getD_eq_getElem?_getD, List.getD_eq_getElem?_getD, List.getElem?_eq_getElem h1, List.getElem?_eq_getElem h2] at this
  simpa using this
/-- a list copied into a new row of its length -/
theorem cpa_run {w : World} {g n B cp : Nat} {b : Option Addr} {ps : List Int} (ty : TypeId) (hn : ps.length = n) (hg : Bk w g (madeCells #[.int .i64 0] n) 2) (hp : Ints .i64 w B b ps) :
    ∃ w', (Builtin.copy_ #[38, 38] ty #[.slice (some ⟨g, 0, none⟩) n n, .slice b n cp]).run Try.prog w = .ok (goInt n) w' ∧
      Bk w' g (ps.map iv4).toArray 2 ∧ (∀ B, B ≤ g → Below B w w') := by
  subst hn
  obtain ⟨w', h1, h2, -, -, h5⟩ := cpw_run (w := w) (g := g) (N := ps.length) (o := 0) (B := B) (cp := cp) (b := b) (ps := ps) ty (some ⟨g, 0, none⟩) (by omega) (fun _ => rfl) hg hp
  rw [wav_self] at h2
  exact ⟨w', h1, h2, h5⟩

set_option maxRecDepth 100000 in
set_option maxHeartbeats 8000000 in
theorem iid_any (w : World) (x y u v s : Int) (a : Option Addr) (cap : Nat) (ps : List (Int × Int)) (hl : ps.length ≤ 9223372036854775807) (hz : Cts w w.heap.size a ps) (hxy : ctB x y = true) (ha : allC ps = true) (h6 : ps.length ≤ 6) (s0 : 0 ≤ s) (s1 : s ≤ 10000) :
    Calls Try.prog 71 #[.slice a ps.length cap, .agg #[.int .i64 x, .int .i64 y, .int .i64 u, .int .i64 v, .int .i64 s]] w fun e w' => ∃ (a' : Option Addr) (c' : Nat), e = .returned (.slice a' (cinL x y s ps ps.length).length c') ∧ OwnA w' w.heap.size w'.heap.size a' c' (cinL x y s ps ps.length) ∧ Below w.heap.size w w' := by
  have HZ := Lib.hid hz
  have HA := Lib.hid ha
  have HXY := Lib.hid hxy
  have HSP := Lib.hid (And.intro s0 s1)
  clear hz ha hxy s0 s1
  go_enter Try.func71, Try.ntmps71
  go_wp2_with fail
  generalize hW : World.alloc _ _ = W
  have bM : Bk W (w.heap.size) #[.int .i64 x, .int .i64 y, .int .i64 u, .int .i64 v, .int .i64 s] 32 := by rw [← hW]; repeat (first | (refine Bk.new' ?_; (simp; done)) | refine Bk.alloc ?_ _)
  have bF : Bk W (w.heap.size + 1) #[.int .i64 0, .int .i64 0, .int .i64 0, .int .i64 0, .int .i64 0, .int .i64 0] 89 := by rw [← hW]; repeat (first | (refine Bk.new' ?_; (simp; done)) | refine Bk.alloc ?_ _)
  have HB : Hid (Below w.heap.size w W) := Lib.hid (by rw [← hW]; exact (by repeat (first | exact Below.refl _ _ | (refine Below.alloc ?_ (by simp <;> omega) _) | (refine Below.setCell ?_ (by simp <;> omega) _) | (refine Below.drew ?_) | (refine bel_drewN ?_ _))))
  clear hW
  have HM := Lib.hid bM
  clear bM
  go_loopw [6, 12] (fun c i wr => ∃ k n : Nat, k ≤ ps.length ∧ n = (cinL x y s ps k).length ∧ c = .int .i64 n ∧ i = .int .i64 k ∧ Bk wr (w.heap.size + 1) (padA (cinL x y s ps k)) 89 ∧ W.grownBy wr (some (w.heap.size + 1))) (fun _ i _ => ps.length - (intOf i).toNat)
  case atStart => exact ⟨0, 0, by omega, rfl, rfl, rfl, bF, grown_refl _ _⟩
  case round =>
    obtain ⟨k, n, hk, hn, rfl, rfl, bF, hgr⟩ := hrel
    have HG := Lib.hid hgr
    have HN := Lib.hid hn
    have hnk : n ≤ k := by have := cinL_len x y s ps k; omega
    clear hgr hn
    by_cases hlt : k < ps.length
    case pos =>
      have hBW : Below w.heap.size w wr := HB.out.trans (below_of_grown HG.out (by omega) HB.out.size)
      obtain ⟨b, off, p, q, rfl, hBk, hpq, hc0, hc1⟩ := (HZ.out.below hBW).at_ hlt
      clear hBW
      have hcq := allC_at HA.out hlt
      rw [hpq] at hcq
      have HV : Hid (iK x y s ps k = gin x y s p q) := Lib.hid (by unfold iK pX pY; rw [hpq])
      have HS : Hid (cinL x y s ps (k + 1) = if iK x y s ps k then cinL x y s ps k ++ [(k : Int)] else cinL x y s ps k) := Lib.hid rfl
      have K1 : Hid (∀ W : World, Calls Try.prog 103 #[.agg #[.int .i64 x, .int .i64 y, .int .i64 u, .int .i64 v, .int .i64 s], .agg #[.int .i64 p, .int .i64 q]] W fun e w' => e = .returned (.bool (gin x y s p q)) ∧ Below W.heap.size W w') := Lib.hid (fun W => iho_any W x y u v s p q HXY.out hcq HSP.out.1 HSP.out.2)
      obtain ⟨V, hV⟩ : ∃ qq, gin x y s p q = qq := ⟨_, rfl⟩
      rw [hV] at K1 HV
      rw [HV.out] at HS
      clear hV hpq hcq HV
      have bM := HM.out.kept HG.out (by simp)
      have m0 := bM.cell 0 rfl
      have m1 := bM.cell 1 rfl
      have m2 := bM.cell 2 rfl
      have m3 := bM.cell 3 rfl
      have m4 := bM.cell 4 rfl
      have ml := bM.lt
      clear bM
      have hkl : (k : Int) < (ps.length : Int) := by omega
      go_wp2_with fail
      generalize hW : World.alloc _ _ = WC
      have hb0 : Below wr.heap.size wr WC := by rw [← hW]; exact (Below.refl _ _).alloc (Nat.le_refl _) _
      clear hW m0 m1 m2 m3 m4 ml hc0 hc1
      (with_reducible refine Calls.mono (K1.out _) ?_)
      rintro e w2 ⟨rfl, hb⟩
      have hb1 := bel_end hb0 hb
      replace bF := bF.on hb1
      replace HG := Lib.hid (grown_bel HG.out hb1)
      clear hb hb0 hb1
      cases V
      case false =>
        rw [if_neg (by simp)] at HS
        go_wp2_with fail
        go_roundw
        case rel => exact ⟨k + 1, n, by omega, by rw [HS.out]; exact HN.out, rfl, by go_num, by rw [HS.out]; exact bF, HG.out⟩
        case measure => simp [intOf]; omega
      case true =>
        rw [if_pos rfl] at HS
        have hn6 : n < 6 := by omega
        have hn7 : (n : Int) < 6 := by omega
        have f0 : w2.cell? ⟨w.heap.size + 1, n, none⟩ = some (.int .i64 0) := bF.cell n (by have := padA_zero (L := cinL x y s ps k) (by rw [← HN.out]; exact hn6); rwa [← HN.out] at this)
        have f1 := bF.frozen n
        have f2 := bF.lt
        have HF : Hid (Bk (w2.setCell ⟨w.heap.size + 1, n, none⟩ (.int .i64 (k : Int))) (w.heap.size + 1) (padA (cinL x y s ps (k + 1))) 89) := Lib.hid (bF.set n _ (by rw [HS.out, ← padA_set _ (by rw [← HN.out]; exact hn6), ← HN.out]))
        clear bF
        go_wp2_with fail
        go_roundw
        case rel => exact ⟨k + 1, n + 1, by omega, by rw [HS.out, List.length_append, ← HN.out]; rfl, by go_num, by go_num, HF.out, grown_cell HG.out _ _⟩
        case measure => simp [intOf]; omega
    case neg =>
      obtain rfl : k = ps.length := by omega
      have hn6 : n ≤ 6 := by omega
      have hmk : ∀ w, (Instr.makeSlice 38 (.int .i64 (n : Int)) (.int .i64 (n : Int))).run Try.prog w = .ok (.slice (some ⟨w.heap.size, 0, none⟩) n n) (w.alloc (.cells (madeCells #[.int .i64 0] n) 2)) := fun w => run_make_row' (P := Try.prog) 38 2 (.int .i64 0) 8 Try.underlying38 info_i64 rfl .i64 .i64 n (by omega) (by omega) w
      have hsl := fun W0 => run_pre6 (w.heap.size + 1) n hn6 W0
      have hF := bF.lt
      clear HM
      go_upto_region 11 with fail
      clear hmk
      generalize hW : World.alloc _ _ = WN
      obtain ⟨gN, hg⟩ : ∃ g, g = wr.heap.size := ⟨_, rfl⟩
      have bN : Bk WN gN (madeCells #[.int .i64 0] n) 2 := by rw [← hW]; exact Bk.new' hg
      have hb : Below wr.heap.size wr WN := by rw [← hW]; exact (Below.refl _ _).alloc (Nat.le_refl _) _
      rw [← hg]
      replace bF := bF.on hb
      have hwN : w.heap.size ≤ gN := by rw [hg]; exact Nat.le_trans HB.out.size HG.out.size
      have HBN : Hid (Below w.heap.size w WN) := Lib.hid (bel_end (HB.out.trans (below_of_grown HG.out (by omega) HB.out.size)) hb)
      clear hb hW hg HG
      obtain ⟨w9, hrun, hbk, hbel⟩ := cpa_run (w := WN) (g := gN) (n := n) (B := WN.heap.size) (cp := 6) (b := some ⟨w.heap.size + 1, 0, none⟩) (ps := cinL x y s ps ps.length) 3 HN.out.symm bN (padA_ints bF)
      have HOA := Lib.hid (ownA_bk (lo := w.heap.size) hbk hwN (by rw [← HN.out]; omega))
      have HB9 := Lib.hid (HBN.out.trans (hbel _ hwN))
      have c0 := bN.lt
      clear hbk hbel bN bF
      go_wp2
      go_ret
      exact ⟨some ⟨gN, 0, none⟩, n, by rw [← HN.out]; rfl, by have := HOA.out; rwa [← HN.out] at this, HB9.out⟩

set_option maxRecDepth 100000 in
set_option maxHeartbeats 8000000 in
theorem ici_any (w : World) (x y u v s : Int) (a : Option Addr) (cap : Nat) (ps : List (Int × Int)) (hl : ps.length ≤ 9223372036854775807) (hz : Cts w w.heap.size a ps) :
    Calls Try.prog 24 #[.agg #[.int .i64 x, .int .i64 y, .int .i64 u, .int .i64 v, .int .i64 s], .slice a ps.length cap] w fun e w' => ∃ (a' : Option Addr) (c' : Nat), e = .returned (.tuple #[.slice a' (ciT x y u v s ps).length c', .int .i64 (mcC x y u v s ps)]) ∧ OwnA w' w.heap.size w'.heap.size a' c' (ciT x y u v s ps) ∧ Below w.heap.size w w' := by
  have HZ := Lib.hid hz
  clear hz
  obtain ⟨C, hC⟩ : ∃ qq, mcC x y u v s ps = qq := ⟨_, rfl⟩
  have KE : Hid (∀ (W : World) (h : Nat), Below w.heap.size w W → Bk W h #[.int .i64 x, .int .i64 y, .int .i64 u, .int .i64 v, .int .i64 s] 32 → Calls Try.prog 62 #[.slice a ps.length cap, .slice (some ⟨h, 0, none⟩) 1 1] W fun e w' => e = .returned (.int .i64 C) ∧ Below W.heap.size W w') := Lib.hid (fun W h hb hh => by have := iew_any W a _ cap 1 _ 1 ps [(x, y, u, v, s)] rfl rfl hl (by omega) (HZ.out.on hb) (Mts.one hh); rwa [ewC_one, hC] at this)
  by_cases hc : C = 0
  case neg =>
    have H1 : Hid (ciT x y u v s ps = []) := Lib.hid (by unfold ciT; rw [hC, if_neg hc])
    have hc2 : (C != 0) = true := by simpa using hc
    have HC := Lib.hid hC
    clear hC hc
    go_enter Try.func24, Try.ntmps24
    go_wp2_with fail
    generalize hW : World.alloc _ _ = W
    have bM : Bk W (w.heap.size) #[.int .i64 x, .int .i64 y, .int .i64 u, .int .i64 v, .int .i64 s] 32 := by rw [← hW]; repeat (first | (refine Bk.new' ?_; (simp; done)) | refine Bk.alloc ?_ _)
    have bN : Bk W (w.heap.size + 1) #[.int .i64 x, .int .i64 y, .int .i64 u, .int .i64 v, .int .i64 s] 32 := by rw [← hW]; repeat (first | (refine Bk.new' ?_; (simp; done)) | refine Bk.alloc ?_ _)
    have HB : Hid (Below w.heap.size w W) := Lib.hid (by rw [← hW]; exact (by repeat (first | exact Below.refl _ _ | (refine Below.alloc ?_ (by simp <;> omega) _) | (refine Below.setCell ?_ (by simp <;> omega) _) | (refine Below.drew ?_) | (refine bel_drewN ?_ _))))
    clear hW
    refine (KE.out _ _ HB.out bN).mono ?_
    rintro e w1 ⟨rfl, hb⟩
    replace bM := bM.on hb
    replace bN := bN.on hb
    replace HB := Lib.hid (bel_end HB.out hb)
    clear hb
    clear bN KE
    have bM_0 := bM.cell 0 rfl
    have bM_1 := bM.cell 1 rfl
    have bM_2 := bM.cell 2 rfl
    have bM_3 := bM.cell 3 rfl
    have bM_4 := bM.cell 4 rfl
    have bM_l := bM.lt
    go_wp2
    go_ret2
    exact ⟨none, 0, ret_li (by rw [H1.out]; rfl) HC.out, by rw [H1.out]; exact ownA_nil _ _ HB.out.size, HB.out⟩
  case pos =>
    subst hc
    obtain ⟨hm, ha, h6⟩ := mcC_0 hC
    obtain ⟨hxy, -, -, s0, s1⟩ := mtB_t hm
    have H1 : Hid (ciT x y u v s ps = cinL x y s ps ps.length) := Lib.hid (by unfold ciT; rw [if_pos hC])
    have KI : Hid (∀ W : World, Below w.heap.size w W → Calls Try.prog 71 #[.slice a ps.length cap, .agg #[.int .i64 x, .int .i64 y, .int .i64 u, .int .i64 v, .int .i64 s]] W fun e w' => ∃ (a' : Option Addr) (c' : Nat), e = .returned (.slice a' (cinL x y s ps ps.length).length c') ∧ OwnA w' W.heap.size w'.heap.size a' c' (cinL x y s ps ps.length) ∧ Below W.heap.size W w') := Lib.hid (fun W hb => iid_any W x y u v s a cap ps hl (HZ.out.on hb) hxy ha h6 s0 s1)
    have HC := Lib.hid hC
    clear hC hm ha hxy s0 s1 h6
    go_enter Try.func24, Try.ntmps24
    go_wp2_with fail
    generalize hW : World.alloc _ _ = W
    have bM : Bk W (w.heap.size) #[.int .i64 x, .int .i64 y, .int .i64 u, .int .i64 v, .int .i64 s] 32 := by rw [← hW]; repeat (first | (refine Bk.new' ?_; (simp; done)) | refine Bk.alloc ?_ _)
    have bN : Bk W (w.heap.size + 1) #[.int .i64 x, .int .i64 y, .int .i64 u, .int .i64 v, .int .i64 s] 32 := by rw [← hW]; repeat (first | (refine Bk.new' ?_; (simp; done)) | refine Bk.alloc ?_ _)
    have HB : Hid (Below w.heap.size w W) := Lib.hid (by rw [← hW]; exact (by repeat (first | exact Below.refl _ _ | (refine Below.alloc ?_ (by simp <;> omega) _) | (refine Below.setCell ?_ (by simp <;> omega) _) | (refine Below.drew ?_) | (refine bel_drewN ?_ _))))
    clear hW
    refine (KE.out _ _ HB.out bN).mono ?_
    rintro e w1 ⟨rfl, hb⟩
    replace bM := bM.on hb
    replace bN := bN.on hb
    replace HB := Lib.hid (bel_end HB.out hb)
    clear hb
    clear bN KE
    have bM_0 := bM.cell 0 rfl
    have bM_1 := bM.cell 1 rfl
    have bM_2 := bM.cell 2 rfl
    have bM_3 := bM.cell 3 rfl
    have bM_4 := bM.cell 4 rfl
    have bM_l := bM.lt
    go_wp2_with fail
    (with_reducible refine Calls.mono (KI.out _ HB.out) ?_)
    rintro e w2 ⟨a', c', rfl, ho, hb⟩
    have HO := Lib.hid (ho.less HB.out.size)
    clear bM_0 bM_1 bM_2 bM_3 bM_4 bM_l
    clear bM
    replace HB := Lib.hid (bel_end HB.out hb)
    clear hb ho
    go_wp2
    go_ret2
    exact ⟨a', c', ret_li (by rw [H1.out]) HC.out, by rw [H1.out]; exact HO.out, HB.out⟩
end Go.Proofs.Ytlahgdhofakinaa
