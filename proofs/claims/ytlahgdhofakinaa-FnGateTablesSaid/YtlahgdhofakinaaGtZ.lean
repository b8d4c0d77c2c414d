/- The walk of the law FnGateTables over drawn data: it returns true and writes nothing that was there. -/
import Derived.Test.YtlahgdhofakinaaGtO
import Derived.Test.YtlahgdhofakinaaGtP
import Derived.Test.YtlahgdhofakinaaGtQ
import Derived.Test.YtlahgdhofakinaaGtJ
import Derived.Test.YtlahgdhofakinaaGtH
import Derived.Test.YtlahgdhofakinaaDice
import Derived.Test.YtlahgdhofakinaaPrG
namespace Go.Proofs.Ytlahgdhofakinaa
open Go.ChangeShapes Go.WideShapes Go.ChangeAt Go.RowKit Go.Shelf Num
set_option linter.unusedVariables false
set_option linter.unusedSimpArgs false

theorem RwL.go {w w' : World} {a : Option Addr} {zss : List (List Int)} (h : RwL w w.heap.size a zss) (hb : Below w.heap.size w w') : RwL w' w'.heap.size a zss := (h.below hb).more hb.size
theorem Ints.goI {w w' : World} {a : Option Addr} {zs : List Int} (h : Ints .i64 w w.heap.size a zs) (hb : Below w.heap.size w w') : Ints .i64 w' w'.heap.size a zs := fun hp => by
  obtain ⟨b, off, e, hB, hc⟩ := h hp
  exact ⟨b, off, e, Nat.lt_of_lt_of_le hB hb.size, fun j hj => (hb.cell (p := ⟨b, off + j, none⟩) hB).trans (hc j hj)⟩
theorem RwL.caps {w : World} {lo hi : Nat} {a : Option Addr} {c : Nat} {qs : Nat → Option Addr × Nat} {zss : List (List Int)} (h : OwnR w lo hi a c qs zss) : RwL w w.heap.size a zss := h.rows
/-- what the law says of the tables -/
theorem law_row {ms : List Mo} {ps : List (Int × Int)} (h : ewC ms ps = 0) {i : Nat} (hi : i < ms.length) : mcC (ms.getD i mo0).1 (ms.getD i mo0).2.1 (ms.getD i mo0).2.2.1 (ms.getD i mo0).2.2.2.1 (ms.getD i mo0).2.2.2.2 ps = 0 := by
  obtain ⟨h1, h2, h3, h4⟩ := ewC_0 h
  have hm : mtB _ _ _ _ _ = true := allM_at h1 hi
  unfold mcC
  rw [hm, if_pos rfl]
  unfold csC
  rw [h2, if_pos rfl, if_neg (by omega)]

set_option maxRecDepth 100000 in
set_option maxHeartbeats 16000000 in
theorem lgtb (a0 : Option Addr) (len0 cap0 : Nat) (z0 : List Int) (w : World) (w0 : IsRow .u8 w a0 len0 cap0 z0) :
    Calls Try.prog 3 #[.slice a0 len0 cap0] w fun e w' => e = .returned (.bool true) ∧ Below w.heap.size w w' := by
  obtain ⟨hlen, hcode⟩ := Code8.of_row w0
  obtain ⟨zs, hzs⟩ : ∃ zs, z0.take len0 = zs := ⟨_, rfl⟩
  rw [hzs] at hlen hcode
  subst hlen
  clear hzs w0
  have HC := Lib.hid hcode
  clear hcode
  have HB := Lib.hid (Below.refl w.heap.size w)
  by_cases hbig : 4096 < zs.length
  · have hd : decide ((4096 : Int) < (zs.length : Int)) = true := by simp; omega
    go_enter Try.func3, Try.ntmps3
    go_wp2_with (go_at_call 16; refine (big_any _ _ _ _).mono ?_; rw [hd]; rintro e w' ⟨rfl, rfl⟩)
    go_ret
    exact ⟨rfl, Below.refl _ _⟩
  have hd : decide ((4096 : Int) < (zs.length : Int)) = false := by simp; omega
  go_enter Try.func3, Try.ntmps3
  go_wp2_with (go_at_call 16; refine (big_any _ _ _ _).mono ?_; rw [hd]; rintro e w' ⟨rfl, rfl⟩)
  clear hd
  go_wp2_with fail
  refine (dgs_any _ _ _ zs ((HC.out.below HB.out (Nat.le_refl _)).more HB.out.size)).mono ?_
  rintro e w1 ⟨gM, gP, cM, cP, ms, ps, rfl, hm7, hp7, hm, hp, hb⟩
  have HM := Lib.hid hm
  have HP := Lib.hid hp
  clear hm hp
  replace HB := Lib.hid (bel_end HB.out hb)
  have q1 := hb.size
  clear hb
  obtain ⟨E, hE⟩ : ∃ u, ewC ms ps = u := ⟨_, rfl⟩
  obtain ⟨T, hT⟩ : ∃ u, tbR ms ps = u := ⟨_, rfl⟩
  have HT6 : Hid (T.length ≤ 6 ∧ ∀ j, j < T.length → (gR T j).length ≤ 6) := Lib.hid (by rw [← hT]; exact tbR_len ms ps)
  have HAC : Hid (acB T = true) := Lib.hid (by rw [← hT]; exact tbR_ac ms ps)
  have HTE : Hid (E = 0 → T = tbL ms ps ms.length) := Lib.hid (fun h => by rw [← hT]; unfold tbR; rw [if_pos (by rw [hE]; exact h)])
  have HEW : Hid (ewC ms ps = E) := Lib.hid hE
  have KI : Hid (∀ (W : World) (b a : Option Addr) (d c : Nat), Mts W W.heap.size b ms → Cts W W.heap.size a ps → Calls Try.prog 18 #[.slice b ms.length d, .slice a ps.length c] W fun e w' => ∃ (q : Option Addr) (c : Nat), e = .returned (.tuple #[.slice q T.length c, .int .i64 E]) ∧ RwL w' w'.heap.size q T ∧ Below W.heap.size W w') := Lib.hid (fun W b a d c h1 h2 => (igcs_any W b a d c ms ps (by omega) (by omega) h1 h2).mono (by rw [hE, hT]; rintro e w' ⟨q, c, qs, rfl, ho, hb⟩; exact ⟨q, c, rfl, ho.rows, hb⟩))
  have KJ : Hid (∀ (W : World) (b a : Option Addr) (d c : Nat), Mts W W.heap.size b ms → Cts W W.heap.size a ps → Calls Try.prog 19 #[.slice b ms.length d, .slice a ps.length c] W fun e w' => ∃ (q : Option Addr) (c : Nat), e = .returned (.tuple #[.slice q T.length c, .int .i64 E]) ∧ RwL w' w'.heap.size q T ∧ Below W.heap.size W w') := Lib.hid (fun W b a d c h1 h2 => (sgcs_any W b a d c ms ps (by omega) (by omega) h1 h2).mono (by rw [hE, hT]; rintro e w' ⟨q, c, qs, rfl, ho, hb⟩; exact ⟨q, c, rfl, ho.rows, hb⟩))
  clear hE hT
  go_wp2_with fail
  refine (KI.out _ _ _ _ _ HM.out HP.out).mono ?_
  rintro e w2 ⟨gX, cX, rfl, hx, hb⟩
  have HX := Lib.hid hx
  clear hx
  replace HM := Lib.hid (HM.out.on hb)
  replace HP := Lib.hid (HP.out.on hb)
  replace HB := Lib.hid (bel_end HB.out hb)
  have q2 := hb.size
  clear hb
  go_wp2_with fail
  refine (KJ.out _ _ _ _ _ HM.out HP.out).mono ?_
  rintro e w3 ⟨gY, cY, rfl, hy, hb⟩
  have HY := Lib.hid hy
  clear hy
  replace HM := Lib.hid (HM.out.on hb)
  replace HP := Lib.hid (HP.out.on hb)
  replace HX := Lib.hid (HX.out.go hb)
  replace HB := Lib.hid (bel_end HB.out hb)
  have q3 := hb.size
  clear hb
  clear KI KJ
  go_wp2_with fail
  refine (dgm_any _ _ _ zs ((HC.out.below HB.out (Nat.le_refl _)).more HB.out.size)).mono ?_
  rintro e w4 ⟨x, y, u, v, t, p, q, a, b, r, rfl, hb⟩
  replace HM := Lib.hid (HM.out.on hb)
  replace HP := Lib.hid (HP.out.on hb)
  replace HX := Lib.hid (HX.out.go hb)
  replace HY := Lib.hid (HY.out.go hb)
  replace HB := Lib.hid (bel_end HB.out hb)
  have q4 := hb.size
  clear hb
  go_upto_region 7 with fail
  generalize hW : World.alloc _ _ = W5
  have bA : Bk W5 w4.heap.size #[.int .i64 x, .int .i64 y, .int .i64 u, .int .i64 v, .int .i64 t] 32 := by rw [← hW]; repeat (first | (refine Bk.new' ?_; (simp; done)) | refine Bk.alloc ?_ _)
  have bB : Bk W5 (w4.heap.size + 1) #[.int .i64 p, .int .i64 q, .int .i64 a, .int .i64 b, .int .i64 r] 32 := by rw [← hW]; repeat (first | (refine Bk.new' ?_; (simp; done)) | refine Bk.alloc ?_ _)
  have hb : Below w4.heap.size w4 W5 := by rw [← hW]; exact (by repeat (first | exact Below.refl _ _ | (refine Below.alloc ?_ (by simp <;> omega) _) | (refine Below.setCell ?_ (by simp <;> omega) _) | (refine Below.drew ?_) | (refine bel_drewN ?_ _)))
  clear hW
  replace HM := Lib.hid (HM.out.on hb)
  replace HP := Lib.hid (HP.out.on hb)
  replace HX := Lib.hid (HX.out.go hb)
  replace HY := Lib.hid (HY.out.go hb)
  replace HB := Lib.hid (bel_end HB.out hb)
  have q5 := hb.size
  clear hb
  obtain ⟨gA, hgA⟩ : ∃ qq, w4.heap.size = qq := ⟨_, rfl⟩
  obtain ⟨gB, hgB⟩ : ∃ qq, gA + 1 = qq := ⟨_, rfl⟩
  try rw [hgA] at bA bB ⊢
  try rw [hgB] at bB ⊢
  clear hgA hgB q1 q2 q3 q4 q5
  obtain ⟨M, hM⟩ : ∃ qq, gmB x y u v t p q a b r = qq := ⟨_, rfl⟩
  obtain ⟨C, hC⟩ : ∃ qq, gmC x y u v t p q a b r = qq := ⟨_, rfl⟩
  have K1 : Hid (∀ W : World, Calls Try.prog 21 #[.agg #[.int .i64 x, .int .i64 y, .int .i64 u, .int .i64 v, .int .i64 t], .agg #[.int .i64 p, .int .i64 q, .int .i64 a, .int .i64 b, .int .i64 r]] W fun e w' => e = .returned (.tuple #[.bool M, .int .i64 C]) ∧ Below W.heap.size W w') := Lib.hid (fun W => by have h := igm_any W x y u v t p q a b r; rw [hM, hC] at h; exact h)
  have K2 : Hid (∀ W : World, Calls Try.prog 22 #[.agg #[.int .i64 x, .int .i64 y, .int .i64 u, .int .i64 v, .int .i64 t], .agg #[.int .i64 p, .int .i64 q, .int .i64 a, .int .i64 b, .int .i64 r]] W fun e w' => e = .returned (.tuple #[.bool M, .int .i64 C]) ∧ Below W.heap.size W w') := Lib.hid (fun W => by have h := sgm_any W x y u v t p q a b r; rw [hM, hC] at h; exact h)
  have K3 : Hid (∀ W : World, Calls Try.prog 21 #[.agg #[.int .i64 p, .int .i64 q, .int .i64 a, .int .i64 b, .int .i64 r], .agg #[.int .i64 x, .int .i64 y, .int .i64 u, .int .i64 v, .int .i64 t]] W fun e w' => e = .returned (.tuple #[.bool M, .int .i64 C]) ∧ Below W.heap.size W w') := Lib.hid (fun W => by have h := igm_any W p q a b r x y u v t; rw [gmB_sym x y u v t p q a b r, gmC_sym x y u v t p q a b r] at h; rw [hM, hC] at h; exact h)
  clear hM hC
  have bA_0 := bA.cell 0 rfl
  have bA_1 := bA.cell 1 rfl
  have bA_2 := bA.cell 2 rfl
  have bA_3 := bA.cell 3 rfl
  have bA_4 := bA.cell 4 rfl
  have bA_l := bA.lt
  have bB_0 := bB.cell 0 rfl
  have bB_1 := bB.cell 1 rfl
  have bB_2 := bB.cell 2 rfl
  have bB_3 := bB.cell 3 rfl
  have bB_4 := bB.cell 4 rfl
  have bB_l := bB.lt
  go_wp2_with fail
  clear bA_0 bA_1 bA_2 bA_3 bA_4 bB_0 bB_1 bB_2 bB_3 bB_4 bA_l bB_l
  refine (K1.out _).mono ?_
  rintro e w6 ⟨rfl, hb⟩
  replace bA := bA.on hb
  replace bB := bB.on hb
  replace HM := Lib.hid (HM.out.on hb)
  replace HP := Lib.hid (HP.out.on hb)
  replace HX := Lib.hid (HX.out.go hb)
  replace HY := Lib.hid (HY.out.go hb)
  replace HB := Lib.hid (bel_end HB.out hb)
  have qw6 := hb.size
  clear hb
  have bA_0 := bA.cell 0 rfl
  have bA_1 := bA.cell 1 rfl
  have bA_2 := bA.cell 2 rfl
  have bA_3 := bA.cell 3 rfl
  have bA_4 := bA.cell 4 rfl
  have bA_l := bA.lt
  have bB_0 := bB.cell 0 rfl
  have bB_1 := bB.cell 1 rfl
  have bB_2 := bB.cell 2 rfl
  have bB_3 := bB.cell 3 rfl
  have bB_4 := bB.cell 4 rfl
  have bB_l := bB.lt
  go_wp2_with fail
  clear bA_0 bA_1 bA_2 bA_3 bA_4 bB_0 bB_1 bB_2 bB_3 bB_4 bA_l bB_l
  refine (K2.out _).mono ?_
  rintro e w7 ⟨rfl, hb⟩
  replace bA := bA.on hb
  replace bB := bB.on hb
  replace HM := Lib.hid (HM.out.on hb)
  replace HP := Lib.hid (HP.out.on hb)
  replace HX := Lib.hid (HX.out.go hb)
  replace HY := Lib.hid (HY.out.go hb)
  replace HB := Lib.hid (bel_end HB.out hb)
  have qw7 := hb.size
  clear hb
  clear K1 K2
  have hee : (E != E) = false := by simp
  have hcc : (C != C) = false := by simp
  have hmm : (M != M) = false := by simp
  have KL := Lib.hid (llf_any w7 w7.heap.size gX gY cX cY T (by have := HT6.out.1; omega) (fun j hj => by have := HT6.out.2 j hj; omega) HX.out HY.out)
  go_wp2_with fail
  (with_reducible refine Calls.mono KL.out ?_)
  rintro e w8 ⟨rfl, n8, hw8⟩
  have hb : Below w7.heap.size w7 w8 := by rw [hw8]; exact bel_drewN (Below.refl _ _) _
  clear hw8 KL
  replace bA := bA.on hb
  replace bB := bB.on hb
  replace HM := Lib.hid (HM.out.on hb)
  replace HP := Lib.hid (HP.out.on hb)
  replace HX := Lib.hid (HX.out.go hb)
  replace HB := Lib.hid (bel_end HB.out hb)
  have q8 := hb.size
  clear hb
  clear HY
  clear hee
  go_upto_if 79 with (fail)
  have HZ := Lib.hid (Below.refl w8.heap.size w8)
  go_cut [15, 16] (fun _ _ wx => Below w8.heap.size w8 wx)
  case first =>
    by_cases hc0 : C = 0
    case pos =>
      subst hc0
      have bA_0 := bA.cell 0 rfl
      have bA_1 := bA.cell 1 rfl
      have bA_2 := bA.cell 2 rfl
      have bA_3 := bA.cell 3 rfl
      have bA_4 := bA.cell 4 rfl
      have bA_l := bA.lt
      have bB_0 := bB.cell 0 rfl
      have bB_1 := bB.cell 1 rfl
      have bB_2 := bB.cell 2 rfl
      have bB_3 := bB.cell 3 rfl
      have bB_4 := bB.cell 4 rfl
      have bB_l := bB.lt
      go_wp2_with fail
      clear bA_0 bA_1 bA_2 bA_3 bA_4 bB_0 bB_1 bB_2 bB_3 bB_4 bA_l bB_l
      refine (K3.out _).mono ?_
      rintro e w9 ⟨rfl, hb⟩
      replace HZ := Lib.hid (bel_end HZ.out hb)
      clear hb
      go_wp2_with fail
      go_meet
      exact HZ.out
    case neg =>
      have hc1 : (C == 0) = false := by simpa using hc0
      clear hc0
      go_wp2_with fail
      go_meet
      exact HZ.out
  case rest =>
    have hb := hcut
    clear hcut HZ
    replace HM := Lib.hid (HM.out.on hb)
    replace HP := Lib.hid (HP.out.on hb)
    replace HX := Lib.hid (HX.out.go hb)
    replace HB := Lib.hid (bel_end HB.out hb)
    have q9 := hb.size
    clear hb
    clear bA bB K3 hcc hmm q8 q9
    by_cases hE0 : E = 0
    case neg =>
      have hE1 : (E != 0) = true := by simpa using hE0
      clear hE0
      go_wp2
      go_ret
      exact ⟨rfl, HB.out⟩
    case pos =>
      subst hE0
      obtain ⟨hAM, hAC2, hm6, hp6⟩ := ewC_0 HEW.out
      clear hm7 hp7
      have HAM := Lib.hid hAM
      clear hAM hAC2
      have hTeq := HTE.out rfl
      have HTL : Hid (T.length = ms.length) := Lib.hid (by rw [hTeq]; exact tbL_len _ _ _)
      have HTR : Hid (∀ j, j < ms.length → gR T j = rwM ps (ms.getD j mo0)) := Lib.hid (fun j hj => by rw [hTeq]; exact tbL_at _ _ hj)
      have HLR : Hid (∀ i, i < ms.length → mcC (ms.getD i mo0).1 (ms.getD i mo0).2.1 (ms.getD i mo0).2.2.1 (ms.getD i mo0).2.2.2.1 (ms.getD i mo0).2.2.2.2 ps = 0) := Lib.hid (fun i hi => law_row HEW.out hi)
      clear hTeq HTE HEW
      go_wp2_with fail
      obtain ⟨WL, hWL⟩ : ∃ qq, qq = wc := ⟨wc, rfl⟩
      rw [← hWL]
      rw [← hWL] at HX HM HP HB
      clear hWL
      go_loopw [17] (fun i wr => ∃ k : Nat, k ≤ ms.length ∧ i = .int .i64 k ∧ Below WL.heap.size WL wr) (fun i _ => ms.length - (intOf i).toNat)
      case atStart => exact ⟨0, by omega, rfl, Below.refl _ _⟩
      case round =>
        obtain ⟨i, hi, rfl, hm⟩ := hrel
        replace HM := Lib.hid (HM.out.on hm)
        replace HP := Lib.hid (HP.out.on hm)
        replace HX := Lib.hid (HX.out.go hm)
        replace HB := Lib.hid (bel_end HB.out hm)
        have HWR := Lib.hid hm
        clear hm
        obtain ⟨wo, rfl⟩ : ∃ u, u = wr := ⟨wr, rfl⟩
        by_cases hlt : i < ms.length
        rotate_left
        · obtain rfl : i = ms.length := by omega
          have KA := Lib.hid (iac_any wo gX cX T.length T rfl (by have := HT6.out.1; omega) (fun j hj => by have := HT6.out.2 j hj; omega) HX.out)
          rw [HAC.out] at KA
          go_wp2_with fail
          (with_reducible refine Calls.mono KA.out ?_)
          rintro e w12 ⟨rfl, hb⟩
          replace HB := Lib.hid (bel_end HB.out hb)
          clear hb
          go_wp2
          go_ret
          exact ⟨rfl, HB.out⟩
        have HLI := Lib.hid (HLR.out i hlt)
        obtain ⟨bm, om, x1, y1, u1, v1, s1, heq, -, hgd, c0, c1, c2, c3, c4⟩ := HM.out.at_ hlt
        subst heq
        have HGD := Lib.hid hgd
        rw [hgd] at HLI
        clear hgd
        have KC := Lib.hid (ici_any wo x1 y1 u1 v1 s1 gP cP ps (by omega) HP.out)
        have e1 : ciT x1 y1 u1 v1 s1 ps = cinL x1 y1 s1 ps ps.length := by unfold ciT; rw [if_pos HLI.out]
        rw [e1, HLI.out] at KC
        clear e1 HLI
        obtain ⟨FL, hFL⟩ : ∃ qq, cinL x1 y1 s1 ps ps.length = qq := ⟨_, rfl⟩
        have hfl := cinL_len x1 y1 s1 ps ps.length
        rw [hFL] at KC hfl
        have HFL := Lib.hid hFL
        clear hFL
        have hlt2 : (i : Int) < (ms.length : Int) := by omega
        have hml : bm < wo.heap.size := cell_lt c0
        go_wp2_with fail
        clear c0 c1 c2 c3 c4
        (with_reducible refine Calls.mono KC.out ?_)
        rintro e w11 ⟨fa, fc, rfl, ho, hb⟩
        have HF := Lib.hid ho.ints
        clear ho KC
        replace HM := Lib.hid (HM.out.on hb)
        replace HP := Lib.hid (HP.out.on hb)
        replace HX := Lib.hid (HX.out.go hb)
        replace HB := Lib.hid (bel_end HB.out hb)
        replace HWR := Lib.hid (bel_end HWR.out hb)
        clear hb hml
        go_wp2_with fail
        go_loopw [20] (fun k wr => ∃ j : Nat, j ≤ ps.length ∧ k = .int .i64 j ∧ Below w11.heap.size w11 wr) (fun k _ => ps.length - (intOf k).toNat)
        case atStart => exact ⟨0, by omega, rfl, Below.refl _ _⟩
        case round =>
          obtain ⟨k, hk, rfl, hm⟩ := hrel
          replace HM := Lib.hid (HM.out.on hm)
          replace HX := Lib.hid (HX.out.go hm)
          have HF2 : Hid (Ints .i64 wr wr.heap.size fa FL) := Lib.hid (HF.out.goI hm)
          have HZ2 := Lib.hid hm
          clear hm HF
          obtain ⟨wi, rfl⟩ : ∃ u, u = wr := ⟨wr, rfl⟩
          by_cases hkt : k < ps.length
          rotate_left
          · obtain rfl : k = ps.length := by omega
            go_wp2_with fail
            go_roundw
            case rel => exact ⟨i + 1, by omega, by go_num, bel_end HWR.out HZ2.out⟩
            case measure => simp [intOf] <;> omega
          have hkt2 : (k : Int) < (ps.length : Int) := by omega
          have hTi : i < T.length := by rw [HTL.out]; exact hlt
          have hTi2 : (i : Int) < (T.length : Int) := by omega
          obtain ⟨bx, ox, p1, cp1, heq, -, hc, hcc, hp⟩ := HX.out.at_ (j := i) hTi
          subst heq
          have hrow := HTR.out i hlt
          rw [HGD.out] at hrow
          rw [hrow, rwM_len] at hc hcc
          rw [hrow] at hp
          obtain ⟨b4, o4, heq4, -, hy⟩ := hp.at_ (j := k) (by rw [rwM_len]; exact hkt)
          subst heq4
          rw [rwM_at hkt] at hy
          clear hrow hp
          have hdy := cK_has (x := x1) (y := y1) (s := s1) (ps := ps) hkt
          rw [HFL.out] at hdy
          obtain ⟨Y, hY⟩ : ∃ qq, cK x1 y1 s1 ps k = qq := ⟨_, rfl⟩
          dsimp only at hy
          rw [hY] at hy hdy
          have HY := Lib.hid hY
          clear hY
          have K26 : Hid (∀ m, Calls Try.prog 25 #[.slice fa FL.length fc, .int .i64 (k : Int)] (wi.drewN m) fun e w' => e = .returned (.bool (decide ((k : Int) ∈ FL))) ∧ ∃ j, w' = (wi.drewN m).drewN j) := Lib.hid (fun m => (hsi_any (wi.drewN m) wi.heap.size fa fc FL (k : Int) (by omega) (HF2.out.drewN m)).mono (by rintro e w' ⟨rfl, rfl⟩; exact ⟨rfl, 0, rfl⟩))
          obtain ⟨bb, hbb⟩ : ∃ qq, decide ((k : Int) ∈ FL) = qq := ⟨_, rfl⟩
          rw [hbb] at K26 hdy
          clear hbb HF2
          have hbd : (bb != bb) = false := by simp
          by_cases hi0 : 0 < i
          rotate_left
          · have hid : decide ((0 : Int) < (i : Int)) = false := by simp; omega
            go_wp2
            go_quiet (first | (go_at_call 25; (with_reducible exact dqR_call (K26.out _))) | fail)
            go_wp2_with fail
            go_roundw
            case rel => exact ⟨k + 1, by omega, by go_num, bel_drewN HZ2.out _⟩
            case measure => simp [intOf] <;> omega
          have hid : decide ((0 : Int) < (i : Int)) = true := by simp; omega
          have hT0 : (0 : Int) < (T.length : Int) := by omega
          have hms0 : (0 : Int) < (ms.length : Int) := by omega
          have hms1 : 0 < ms.length := by omega
          obtain ⟨b0, o0, x0, y0, u0, v0, s0, heq, -, hg0, d0, d1, d2, d3, d4⟩ := HM.out.at_ (j := 0) (by omega)
          simp only [Option.some.injEq, Addr.mk.injEq, and_true] at heq
          obtain ⟨e1, e2⟩ := heq
          subst e1 e2
          clear d0 d1 d2 d3 d4
          obtain ⟨bx2, ox2, p2, cp2, heq, -, hc2, hcc2, hp⟩ := HX.out.at_ (j := 0) (by omega)
          simp only [Option.some.injEq, Addr.mk.injEq, and_true] at heq
          obtain ⟨e1, e2⟩ := heq
          subst e1 e2
          have hrow := HTR.out 0 (by omega)
          rw [hg0] at hrow
          rw [hrow, rwM_len] at hc2 hcc2
          rw [Nat.add_zero] at hc2
          rw [hrow] at hp
          obtain ⟨b5, o5, heq5, -, hz⟩ := hp.at_ (j := k) (by rw [rwM_len]; exact hkt)
          subst heq5
          rw [rwM_at hkt] at hz
          clear hrow hp
          dsimp only at hz
          obtain ⟨Z, hZ⟩ : ∃ qq, cK x0 y0 s0 ps k = qq := ⟨_, rfl⟩
          rw [hZ] at hz
          have HG0 := Lib.hid hg0
          have HZE := Lib.hid hZ
          clear hZ hg0
          cases bb
          · skip
            go_wp2
            go_quiet (first | (go_at_call 25; (with_reducible exact dqR_call (K26.out _))) | fail)
            go_wp2_with fail
            go_roundw
            case rel => exact ⟨k + 1, by omega, by go_num, bel_drewN HZ2.out _⟩
            case measure => simp [intOf] <;> omega
          by_cases hz0 : 0 ≤ Z
          rotate_left
          · have hdz : decide (0 ≤ Z) = false := decide_eq_false hz0
            go_wp2
            go_quiet (first | (go_at_call 25; (with_reducible exact dqR_call (K26.out _))) | fail)
            go_wp2_with fail
            go_roundw
            case rel => exact ⟨k + 1, by omega, by go_num, bel_drewN HZ2.out _⟩
            case measure => simp [intOf] <;> omega
          have hdz : decide (0 ≤ Z) = true := decide_eq_true hz0
          have hY0 : 0 ≤ Y := of_decide_eq_true hdy
          have K29 : Hid (∀ W : World, Calls Try.prog 21 #[.agg #[.int .i64 x0, .int .i64 y0, .int .i64 u0, .int .i64 v0, .int .i64 s0], .agg #[.int .i64 x1, .int .i64 y1, .int .i64 u1, .int .i64 v1, .int .i64 s1]] W fun e w' => e = .returned (.tuple #[.bool true, .int .i64 0]) ∧ Below W.heap.size W w') := Lib.hid (fun W => by have h := igm_any W x0 y0 u0 v0 s0 x1 y1 u1 v1 s1; have a1 := allM_at HAM.out (j := 0) (by omega); have a2 := allM_at HAM.out (j := i) hlt; rw [HG0.out] at a1; rw [HGD.out] at a2; have rm := rows_meet (ps := ps) (k := k) a1 a2 (by dsimp only; rw [HZE.out]; exact hz0) (by dsimp only; rw [HY.out]; exact hY0); dsimp only at rm; rw [rm.1, rm.2] at h; exact h)
          go_wp2
          go_quiet (first | (go_at_call 25; (with_reducible exact dqR_call (K26.out _))) | fail)
          go_upto_region 29 with fail
          obtain ⟨W6, hW6⟩ : ∃ qq, qq = World.drewN wi nq := ⟨_, rfl⟩
          rw [← hW6]
          have hb : Below wi.heap.size wi W6 := by rw [hW6]; exact bel_drewN (Below.refl _ _) _
          clear hW6
          replace HM := Lib.hid (HM.out.on hb)
          replace HZ2 := Lib.hid (bel_end HZ2.out hb)
          clear hb hc hcc hy hc2 hcc2 hz K26 hdy hdz hid hbd
          obtain ⟨b7, o7, X0, Y0, U0, V0, S0, heq, -, hg7, d0, d1, d2, d3, d4⟩ := HM.out.at_ (j := 0) (by omega)
          simp only [Option.some.injEq, Addr.mk.injEq, and_true] at heq
          obtain ⟨e1, e2⟩ := heq
          subst e1 e2
          rw [HG0.out] at hg7
          simp only [Prod.mk.injEq] at hg7
          obtain ⟨e1, e2, e3, e4, e5⟩ := hg7
          subst e1 e2 e3 e4 e5
          simp only [Nat.zero_mul, Nat.add_zero] at d0 d1 d2 d3 d4
          obtain ⟨b7, o7, X0, Y0, U0, V0, S0, heq, -, hg7, f0, f1, f2, f3, f4⟩ := HM.out.at_ hlt
          simp only [Option.some.injEq, Addr.mk.injEq, and_true] at heq
          obtain ⟨e1, e2⟩ := heq
          subst e1 e2
          rw [HGD.out] at hg7
          simp only [Prod.mk.injEq] at hg7
          obtain ⟨e1, e2, e3, e4, e5⟩ := hg7
          subst e1 e2 e3 e4 e5
          obtain ⟨S, hSd⟩ : ∃ S : World → Prop, ∀ w', S w' ↔ (w'.cell? ⟨bm, om, none⟩ = some (.int .i64 x0) ∧ w'.cell? ⟨bm, om + 1, none⟩ = some (.int .i64 y0) ∧ w'.cell? ⟨bm, om + 2, none⟩ = some (.int .i64 u0) ∧ w'.cell? ⟨bm, om + 3, none⟩ = some (.int .i64 v0) ∧ w'.cell? ⟨bm, om + 4, none⟩ = some (.int .i64 s0) ∧ w'.cell? ⟨bm, om + i * 5, none⟩ = some (.int .i64 x1) ∧ w'.cell? ⟨bm, om + i * 5 + 1, none⟩ = some (.int .i64 y1) ∧ w'.cell? ⟨bm, om + i * 5 + 2, none⟩ = some (.int .i64 u1) ∧ w'.cell? ⟨bm, om + i * 5 + 3, none⟩ = some (.int .i64 v1) ∧ w'.cell? ⟨bm, om + i * 5 + 4, none⟩ = some (.int .i64 s1)) := ⟨_, fun _ => Iff.rfl⟩
          have HSp : Hid (∀ w' : World, w'.cell? ⟨bm, om, none⟩ = some (.int .i64 x0) → w'.cell? ⟨bm, om + 1, none⟩ = some (.int .i64 y0) → w'.cell? ⟨bm, om + 2, none⟩ = some (.int .i64 u0) → w'.cell? ⟨bm, om + 3, none⟩ = some (.int .i64 v0) → w'.cell? ⟨bm, om + 4, none⟩ = some (.int .i64 s0) → w'.cell? ⟨bm, om + i * 5, none⟩ = some (.int .i64 x1) → w'.cell? ⟨bm, om + i * 5 + 1, none⟩ = some (.int .i64 y1) → w'.cell? ⟨bm, om + i * 5 + 2, none⟩ = some (.int .i64 u1) → w'.cell? ⟨bm, om + i * 5 + 3, none⟩ = some (.int .i64 v1) → w'.cell? ⟨bm, om + i * 5 + 4, none⟩ = some (.int .i64 s1) → S w') := Lib.hid (fun w' y0 y1 y2 y3 y4 y5 y6 y7 y8 y9 => (hSd w').2 ⟨y0, y1, y2, y3, y4, y5, y6, y7, y8, y9⟩)
          have HSd := Lib.hid hSd
          clear hSd
          refine wp_region_held_drew (S := S) (by kernel_rfl) ?_ (fun hH => ?_)
          · exact (HSp.out _ d0 d1 d2 d3 d4 f0 f1 f2 f3 f4 : S (World.drew W6))
          clear hH
          generalize hX : World.drew W6 = V0
          have hb : Below W6.heap.size W6 V0 := by rw [← hX]; exact (Below.refl _ _).drew
          clear hX
          replace d0 := (hb.cell (p := ⟨bm, om, none⟩) (cell_lt d0)).trans d0
          replace d1 := (hb.cell (p := ⟨bm, om + 1, none⟩) (cell_lt d1)).trans d1
          replace d2 := (hb.cell (p := ⟨bm, om + 2, none⟩) (cell_lt d2)).trans d2
          replace d3 := (hb.cell (p := ⟨bm, om + 3, none⟩) (cell_lt d3)).trans d3
          replace d4 := (hb.cell (p := ⟨bm, om + 4, none⟩) (cell_lt d4)).trans d4
          replace f0 := (hb.cell (p := ⟨bm, om + i * 5, none⟩) (cell_lt f0)).trans f0
          replace f1 := (hb.cell (p := ⟨bm, om + i * 5 + 1, none⟩) (cell_lt f1)).trans f1
          replace f2 := (hb.cell (p := ⟨bm, om + i * 5 + 2, none⟩) (cell_lt f2)).trans f2
          replace f3 := (hb.cell (p := ⟨bm, om + i * 5 + 3, none⟩) (cell_lt f3)).trans f3
          replace f4 := (hb.cell (p := ⟨bm, om + i * 5 + 4, none⟩) (cell_lt f4)).trans f4
          replace HZ2 := Lib.hid (bel_end HZ2.out hb)
          clear hb
          have hS := HSp.out _ d0 d1 d2 d3 d4 f0 f1 f2 f3 f4
          refine wpAnyH_take (i := 0) (oi := { dst := some 152, op := Go.Op.move (Go.Operand.tmp 3), type := 24, pos := "laws.go:369", after := #[], guard := none }) (v := ?_) rfl (by kernel_rfl) (by kernel_rfl) (by kernel_rfl) (fun _ _ _ h => h) (Or.inl ⟨by rfl, ?_⟩) hS ?_
          rotate_left
          · (intro w hSw; have hSw := (HSd.out w).1 hSw; go_split_ands; go_simp) <;> with_reducible rfl
          clear hS
          try simp only [Act.put, List.setIfInBounds_toArray, List.set_cons_zero, List.set_cons_succ]
          have hS := HSp.out _ d0 d1 d2 d3 d4 f0 f1 f2 f3 f4
          refine wpAnyH_take (i := 1) (oi := { dst := some 153, op := Go.Op.indexAddr 24 (Go.Operand.tmp 152) (Go.Operand.const (Go.Value.int Go.IntKind.i64 0)), type := 0, pos := "laws.go:369", after := #[{ on := 0, ground := Go.Ground.data }], guard := none }) (v := ?_) rfl (by kernel_rfl) (by kernel_rfl) (by kernel_rfl) (fun _ _ _ h => h) (Or.inl ⟨by rfl, ?_⟩) hS ?_
          rotate_left
          · (intro w hSw; have hSw := (HSd.out w).1 hSw; go_split_ands; go_simp) <;> with_reducible rfl
          clear hS
          try simp only [Act.put, List.setIfInBounds_toArray, List.set_cons_zero, List.set_cons_succ]
          have hS := HSp.out _ d0 d1 d2 d3 d4 f0 f1 f2 f3 f4
          refine wpAnyH_take (i := 2) (oi := { dst := some 154, op := Go.Op.load 32 (Go.Operand.tmp 153), type := 32, pos := "laws.go:369", after := #[{ on := 1, ground := Go.Ground.data }], guard := none }) (v := ?_) rfl (by kernel_rfl) (by kernel_rfl) (by kernel_rfl) (fun _ _ _ h => h) (Or.inl ⟨by rfl, ?_⟩) hS ?_
          rotate_left
          · (intro w hSw; have hSw := (HSd.out w).1 hSw; go_split_ands; go_simp) <;> with_reducible rfl
          clear hS
          try simp only [Act.put, List.setIfInBounds_toArray, List.set_cons_zero, List.set_cons_succ]
          have hS := HSp.out _ d0 d1 d2 d3 d4 f0 f1 f2 f3 f4
          refine wpAnyH_take (i := 3) (oi := { dst := some 155, op := Go.Op.move (Go.Operand.tmp 3), type := 24, pos := "laws.go:369", after := #[], guard := none }) (v := ?_) rfl (by kernel_rfl) (by kernel_rfl) (by kernel_rfl) (fun _ _ _ h => h) (Or.inl ⟨by rfl, ?_⟩) hS ?_
          rotate_left
          · (intro w hSw; have hSw := (HSd.out w).1 hSw; go_split_ands; go_simp) <;> with_reducible rfl
          clear hS
          try simp only [Act.put, List.setIfInBounds_toArray, List.set_cons_zero, List.set_cons_succ]
          have hS := HSp.out _ d0 d1 d2 d3 d4 f0 f1 f2 f3 f4
          refine wpAnyH_take (i := 4) (oi := { dst := some 156, op := Go.Op.move (Go.Operand.tmp 17), type := 3, pos := "laws.go:369", after := #[], guard := none }) (v := ?_) rfl (by kernel_rfl) (by kernel_rfl) (by kernel_rfl) (fun _ _ _ h => h) (Or.inl ⟨by rfl, ?_⟩) hS ?_
          rotate_left
          · (intro w hSw; have hSw := (HSd.out w).1 hSw; go_split_ands; go_simp) <;> with_reducible rfl
          clear hS
          try simp only [Act.put, List.setIfInBounds_toArray, List.set_cons_zero, List.set_cons_succ]
          have hS := HSp.out _ d0 d1 d2 d3 d4 f0 f1 f2 f3 f4
          refine wpAnyH_take (i := 5) (oi := { dst := some 157, op := Go.Op.indexAddr 24 (Go.Operand.tmp 155) (Go.Operand.tmp 156), type := 0, pos := "laws.go:369", after := #[{ on := 3, ground := Go.Ground.data }, { on := 4, ground := Go.Ground.data }], guard := none }) (v := ?_) rfl (by kernel_rfl) (by kernel_rfl) (by kernel_rfl) (fun _ _ _ h => h) (Or.inl ⟨by rfl, ?_⟩) hS ?_
          rotate_left
          · (intro w hSw; have hSw := (HSd.out w).1 hSw; go_split_ands; go_simp) <;> with_reducible rfl
          clear hS
          try simp only [Act.put, List.setIfInBounds_toArray, List.set_cons_zero, List.set_cons_succ]
          have hS := HSp.out _ d0 d1 d2 d3 d4 f0 f1 f2 f3 f4
          refine wpAnyH_take (i := 6) (oi := { dst := some 158, op := Go.Op.load 32 (Go.Operand.tmp 157), type := 32, pos := "laws.go:369", after := #[{ on := 5, ground := Go.Ground.data }], guard := none }) (v := ?_) rfl (by kernel_rfl) (by kernel_rfl) (by kernel_rfl) (fun _ _ _ h => h) (Or.inl ⟨by rfl, ?_⟩) hS ?_
          rotate_left
          · (intro w hSw; have hSw := (HSd.out w).1 hSw; go_split_ands; go_simp) <;> with_reducible rfl
          clear hS
          try simp only [Act.put, List.setIfInBounds_toArray, List.set_cons_zero, List.set_cons_succ]
          refine wpAnyH_ready (rs := [7]) (by decide +kernel) (by simp) ?_
          refine AllReadyH.cons (o := { dst := some 159, op := Go.Op.call { callee := Go.Callee.value (Go.Operand.func 21), args := #[Go.Operand.tmp 154, Go.Operand.tmp 158], argTypes := #[32, 32] }, type := 35, pos := "laws.go:369", after := #[{ on := 2, ground := Go.Ground.data }, { on := 6, ground := Go.Ground.data }], guard := none }) rfl (fun Kn hK => ?_) AllReadyH.nil
          first | go_at_call 21 | (go_simp; go_at_call 21)
          refine (K29.out _).mono ?_
          rintro e V1 ⟨rfl, hb⟩
          try dsimp only
          try simp only [Act.put, List.setIfInBounds_toArray, List.set_cons_zero, List.set_cons_succ]
          replace d0 := (hb.cell (p := ⟨bm, om, none⟩) (cell_lt d0)).trans d0
          replace d1 := (hb.cell (p := ⟨bm, om + 1, none⟩) (cell_lt d1)).trans d1
          replace d2 := (hb.cell (p := ⟨bm, om + 2, none⟩) (cell_lt d2)).trans d2
          replace d3 := (hb.cell (p := ⟨bm, om + 3, none⟩) (cell_lt d3)).trans d3
          replace d4 := (hb.cell (p := ⟨bm, om + 4, none⟩) (cell_lt d4)).trans d4
          replace f0 := (hb.cell (p := ⟨bm, om + i * 5, none⟩) (cell_lt f0)).trans f0
          replace f1 := (hb.cell (p := ⟨bm, om + i * 5 + 1, none⟩) (cell_lt f1)).trans f1
          replace f2 := (hb.cell (p := ⟨bm, om + i * 5 + 2, none⟩) (cell_lt f2)).trans f2
          replace f3 := (hb.cell (p := ⟨bm, om + i * 5 + 3, none⟩) (cell_lt f3)).trans f3
          replace f4 := (hb.cell (p := ⟨bm, om + i * 5 + 4, none⟩) (cell_lt f4)).trans f4
          replace HZ2 := Lib.hid (bel_end HZ2.out hb)
          clear hb
          refine hK.out _ _ (HSp.out _ d0 d1 d2 d3 d4 f0 f1 f2 f3 f4) (fun _ => ?_)
          clear hK Kn
          have hS := HSp.out _ d0 d1 d2 d3 d4 f0 f1 f2 f3 f4
          refine wpAnyH_take (i := 8) (oi := { dst := some 151, op := Go.Op.move (Go.Operand.tmp 159), type := 35, pos := "laws.go:369", after := #[{ on := 7, ground := Go.Ground.data }], guard := none }) (v := ?_) rfl (by kernel_rfl) (by kernel_rfl) (by kernel_rfl) (fun _ _ _ h => h) (Or.inl ⟨by rfl, ?_⟩) hS ?_
          rotate_left
          · (intro w hSw; have hSw := (HSd.out w).1 hSw; go_split_ands; go_simp) <;> with_reducible rfl
          clear hS
          try simp only [Act.put, List.setIfInBounds_toArray, List.set_cons_zero, List.set_cons_succ]
          have hS := HSp.out _ d0 d1 d2 d3 d4 f0 f1 f2 f3 f4
          refine wpAnyH_take (i := 9) (oi := { dst := some 160, op := Go.Op.extract (Go.Operand.tmp 151) 0, type := 4, pos := "laws.go:369", after := #[{ on := 8, ground := Go.Ground.data }], guard := none }) (v := ?_) rfl (by kernel_rfl) (by kernel_rfl) (by kernel_rfl) (fun _ _ _ h => h) (Or.inl ⟨by rfl, ?_⟩) hS ?_
          rotate_left
          · (intro w hSw; have hSw := (HSd.out w).1 hSw; go_split_ands; go_simp) <;> with_reducible rfl
          clear hS
          try simp only [Act.put, List.setIfInBounds_toArray, List.set_cons_zero, List.set_cons_succ]
          have hS := HSp.out _ d0 d1 d2 d3 d4 f0 f1 f2 f3 f4
          refine wpAnyH_take (i := 10) (oi := { dst := some 161, op := Go.Op.extract (Go.Operand.tmp 151) 1, type := 2, pos := "laws.go:369", after := #[{ on := 8, ground := Go.Ground.data }, { on := 11, ground := Go.Ground.gcOnly Go.Departure.lateStores }], guard := none }) (v := ?_) rfl (by kernel_rfl) (by kernel_rfl) (by kernel_rfl) (fun _ _ _ h => h) (Or.inl ⟨by rfl, ?_⟩) hS ?_
          rotate_left
          · (intro w hSw; have hSw := (HSd.out w).1 hSw; go_split_ands; go_simp) <;> with_reducible rfl
          clear hS
          try simp only [Act.put, List.setIfInBounds_toArray, List.set_cons_zero, List.set_cons_succ]
          have hS := HSp.out _ d0 d1 d2 d3 d4 f0 f1 f2 f3 f4
          refine wpAnyH_take (i := 11) (oi := { dst := some 21, op := Go.Op.assign (Go.Operand.tmp 160), type := 4, pos := "laws.go:369", after := #[{ on := 9, ground := Go.Ground.data }, { on := 7, ground := Go.Ground.chain }, { on := 0, ground := Go.Ground.phase }, { on := 1, ground := Go.Ground.phase }, { on := 2, ground := Go.Ground.phase }, { on := 3, ground := Go.Ground.phase }, { on := 4, ground := Go.Ground.phase }, { on := 5, ground := Go.Ground.phase }, { on := 6, ground := Go.Ground.phase }, { on := 7, ground := Go.Ground.phase }, { on := 8, ground := Go.Ground.phase }, { on := 9, ground := Go.Ground.phase }, { on := 10, ground := Go.Ground.textOnly Go.Departure.lateStores }], guard := none }) (v := ?_) rfl (by kernel_rfl) (by kernel_rfl) (by kernel_rfl) (fun _ _ _ h => h) (Or.inl ⟨by rfl, ?_⟩) hS ?_
          rotate_left
          · (intro w hSw; have hSw := (HSd.out w).1 hSw; go_split_ands; go_simp) <;> with_reducible rfl
          clear hS
          try simp only [Act.put, List.setIfInBounds_toArray, List.set_cons_zero, List.set_cons_succ]
          have hS := HSp.out _ d0 d1 d2 d3 d4 f0 f1 f2 f3 f4
          refine wpAnyH_take (i := 12) (oi := { dst := some 22, op := Go.Op.assign (Go.Operand.tmp 161), type := 2, pos := "laws.go:369", after := #[{ on := 10, ground := Go.Ground.data }, { on := 11, ground := Go.Ground.chain }, { on := 0, ground := Go.Ground.phase }, { on := 1, ground := Go.Ground.phase }, { on := 2, ground := Go.Ground.phase }, { on := 3, ground := Go.Ground.phase }, { on := 4, ground := Go.Ground.phase }, { on := 5, ground := Go.Ground.phase }, { on := 6, ground := Go.Ground.phase }, { on := 7, ground := Go.Ground.phase }, { on := 8, ground := Go.Ground.phase }, { on := 9, ground := Go.Ground.phase }, { on := 10, ground := Go.Ground.phase }, { on := 11, ground := Go.Ground.phase }], guard := none }) (v := ?_) rfl (by kernel_rfl) (by kernel_rfl) (by kernel_rfl) (fun _ _ _ h => h) (Or.inl ⟨by rfl, ?_⟩) hS ?_
          rotate_left
          · (intro w hSw; have hSw := (HSd.out w).1 hSw; go_split_ands; go_simp) <;> with_reducible rfl
          clear hS
          try simp only [Act.put, List.setIfInBounds_toArray, List.set_cons_zero, List.set_cons_succ]
          refine wpAnyH_done (by kernel_rfl) ?_ _
          go_wp2_with fail
          go_roundw
          case rel => exact ⟨k + 1, by omega, by go_num, HZ2.out⟩
          case measure => simp [intOf] <;> omega
end Go.Proofs.Ytlahgdhofakinaa
