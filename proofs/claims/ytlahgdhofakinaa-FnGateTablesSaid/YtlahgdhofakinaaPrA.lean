/- Contracts of the model's small functions of pairings: a number's search, costs, misses, pairings, sums. -/
import Derived.Test.YtlahgdhofakinaaPrM
import Derived.Test.YtlahgdhofakinaaPrW
import Derived.Test.YtlahgdhofakinaaPuA
import Derived.Test.YtlahgdhofakinaaRwC
namespace Go.Proofs.Ytlahgdhofakinaa
open Go.ChangeShapes Go.WideShapes Go.ChangeAt Go.RowKit Go.Shelf Num
set_option linter.unusedVariables false
set_option linter.unusedSimpArgs false
theorem prq_call {P : Program} {f : FuncId} {args : Array Value} {w : World} {v : Value} {n : Nat} (h : Calls P f args (w.drewN n) fun e w' => e = .returned v ∧ w.drewN n = w') : Calls P f args (w.drewN n) fun e w2 => e = .returned v ∧ ∃ m, w2 = w.drewN m :=
  h.mono fun e w2 ⟨he, hw⟩ => ⟨he, n, hw.symm⟩
theorem prq_call2 {P : Program} {f : FuncId} {args : Array Value} {w : World} {v : Value} {q n : Nat} (h : Calls P f args (w.drewN (q + n)) fun e w' => e = .returned v ∧ w.drewN (q + n) = w') : Calls P f args (w.drewN (q + n)) fun e w2 => e = .returned v ∧ ∃ m, w2 = w.drewN (q + m) :=
  h.mono fun e w2 ⟨he, hw⟩ => ⟨he, n, hw.symm⟩
theorem memD_at {L : List Int} {x : Int} {k : Nat} (hk : k < L.length) (h : L.getD k 0 = x) : decide (x ∈ L) = true := by
  rw [List.getD_eq_getElem?_getD, List.getElem?_eq_getElem hk] at h
  rw [decide_eq_true_eq, ← h]
  exact List.getElem_mem hk
theorem memD_not {L : List Int} {x : Int} (h : ∀ j, j < L.length → L.getD j 0 ≠ x) : decide (x ∈ L) = false := by
  rw [decide_eq_false_iff_not]
  intro hc
  obtain ⟨j, hj, e⟩ := List.getElem_of_mem hc
  exact h j hj (by rw [List.getD_eq_getElem?_getD, List.getElem?_eq_getElem hj]; exact e)
theorem lhs_any (w : World) (B : Nat) (a : Option Addr) (cap n : Nat) (L : List Int) (x : Int) (hn : L.length = n) (hl : n ≤ 9223372036854775807) (hz : Ints .i64 w B a L) :
    Calls Try.prog 90 #[.slice a n cap, .int .i64 x] w fun e w' => e = .returned (.bool (decide (x ∈ L))) ∧ w = w' := by
  subst hn
  go_enter Try.func90, Try.ntmps90
  go_wp2
  go_loop [5] (fun i => ∃ k : Nat, k ≤ L.length ∧ i = .int .i64 k ∧ ∀ j, j < k → L.getD j 0 ≠ x) (fun i => L.length - (intOf i).toNat)
  case atStart => exact ⟨0, by omega, rfl, fun j hj => by omega⟩
  case round =>
    obtain ⟨k, hk, rfl, hr⟩ := hrel
    have HR := Lib.hid hr
    clear hr
    by_cases hlt : k < L.length
    · obtain ⟨b, off, rfl, hB, hc⟩ := hz.at_ hlt
      clear hz
      obtain ⟨y, hy⟩ : ∃ y, L.getD k 0 = y := ⟨_, rfl⟩
      rw [hy] at hc
      have HY := Lib.hid hy
      clear hy
      by_cases he : y = x
      · subst he
        go_wp2
        go_ret
        exact ⟨ret_bool (memD_at hlt HY.out).symm, rfl⟩
      · have hef : (y == x) = false := by simpa using he
        go_wp2
        go_round
        case rel => exact ⟨k + 1, by omega, by go_num, fun j hj => by
          by_cases hjk : j = k
          · rw [hjk, HY.out]; exact he
          · exact HR.out j (by omega)⟩
        case measure => simp [intOf]; omega
    · obtain rfl : k = L.length := by omega
      clear hz
      go_wp2
      go_ret
      exact ⟨ret_bool (memD_not HR.out).symm, rfl⟩
theorem wb_iff {zs : List Int} : withB zs 6 (-1) 1000000000000 = true ↔ zs.length ≤ 6 ∧ ∀ k, k < zs.length → -1 ≤ zs.getD k 0 ∧ zs.getD k 0 ≤ 1000000000000 := by
  unfold withB
  constructor
  · intro h
    simp only [Bool.and_eq_true, Bool.not_eq_true', decide_eq_true_eq] at h
    refine ⟨by omega, fun k hk => ?_⟩
    have := anyLack_all h.1 hk
    unfold hasB at this
    simpa using this
  · rintro ⟨h1, h2⟩
    rw [anyLack_f (fun k hk => by unfold hasB; have := h2 k hk; simpa using this), decide_eq_true (show (zs.length : Int) ≤ 6 by omega)]; rfl
def acR (zss : List (List Int)) (j : Nat) : Prop := (gR zss j).length = (gR zss 0).length ∧ withB (gR zss j) 6 (-1) 1000000000000 = true
theorem acB_mk {zss : List (List Int)} (h0 : zss.length ≤ 6) (h : ∀ j, j < zss.length → acR zss j) : acB zss = true := by
  refine decide_eq_true ⟨h0, fun j hj => ?_⟩
  obtain ⟨h1, h2⟩ := h j hj
  have h3 := wb_iff.1 h2
  exact ⟨h1, h3.1, h3.2⟩
theorem acB_no {zss : List (List Int)} {j : Nat} (hj : j < zss.length) (h : ¬ acR zss j) : acB zss = false := acB_f (fun k => h (by
  obtain ⟨h1, h2, h3⟩ := k.2 j hj
  exact ⟨h1, wb_iff.2 ⟨h2, h3⟩⟩))
theorem sac_any (w : World) (B : Nat) (a : Option Addr) (cap n : Nat) (zss : List (List Int)) (hn : zss.length = n) (hl : n ≤ 9223372036854775807) (hr : ∀ j, j < zss.length → (gR zss j).length ≤ 9223372036854775807) (hx : RwL w B a zss) :
    Calls Try.prog 49 #[.slice a n cap] w fun e w' => e = .returned (.bool (acB zss)) ∧ ∃ n, w' = w.drewN n := by
  have HX := Lib.hid hx
  have HR := Lib.hid hr
  have N1 := Lib.hid hn
  clear hx hr hn
  by_cases h1 : n ≤ 6
  rotate_left
  · have H : Hid (acB zss = false) := Lib.hid (acB_f (fun h => h1 (by have := h.1; have := N1.out; omega)))
    go_enter Try.func49, Try.ntmps49
    go_wp2
    go_ret
    exact ⟨ret_bool H.out.symm, 0, rfl⟩
  go_enter Try.func49, Try.ntmps49
  go_wp2
  go_loopw [3] (fun i wr => ∃ k : Nat, k ≤ n ∧ i = .int .i64 k ∧ (∃ m, wr = w.drewN m) ∧ ∀ j, j < k → acR zss j) (fun i _ => n - (intOf i).toNat)
  case atStart => exact ⟨0, by omega, rfl, ⟨0, rfl⟩, fun j hj => by omega⟩
  case round =>
    obtain ⟨k, hk, rfl, hm, hr⟩ := hrel
    have HM := Lib.hid hm
    have HP := Lib.hid hr
    have hb : Below B w wr := by obtain ⟨m, rfl⟩ := hm; exact bel_drewN (Below.refl _ _) _
    replace HX := Lib.hid (HX.out.below hb)
    clear hb hr hm
    by_cases hlt : k < n
    · have hn0 : 0 < n := by omega
      obtain ⟨b, off, p, c, rfl, -, hc, -, hp⟩ := HX.out.at_ (j := k) (by rw [N1.out]; exact hlt)
      obtain ⟨b', off', p0, c0, he, -, hc0, -, -⟩ := HX.out.at_ (j := 0) (by rw [N1.out]; omega)
      simp only [Option.some.injEq, Addr.mk.injEq, and_true] at he
      obtain ⟨e1, e2⟩ := he
      subst e1 e2
      rw [Nat.add_zero] at hc0
      have hL := HR.out k (by rw [N1.out]; exact hlt)
      have hL0 := HR.out 0 (by rw [N1.out]; omega)
      have K : Hid (∀ m, Calls Try.prog 95 #[.slice p (gR zss k).length c, .int .i64 6, .int .i64 (-1), .int .i64 1000000000000] (wr.drewN m) _) := Lib.hid (fun m => wth_any (wr.drewN m) B p c (gR zss k) 6 (-1) 1000000000000 hL (hp.drewN m))
      clear hp
      have HQ : Hid (acR zss k ↔ (gR zss k).length = (gR zss 0).length ∧ withB (gR zss k) 6 (-1) 1000000000000 = true) := Lib.hid Iff.rfl
      obtain ⟨L, hLe⟩ : ∃ L, (gR zss k).length = L := ⟨_, rfl⟩
      obtain ⟨L0, hLe0⟩ : ∃ L, (gR zss 0).length = L := ⟨_, rfl⟩
      rw [hLe] at hc K HQ hL
      rw [hLe0] at hc0 HQ hL0
      clear hLe hLe0
      by_cases hq : L = L0
      · have hd : ((L : Int) != (L0 : Int)) = false := by subst hq; simp
        cases hs : withB (gR zss k) 6 (-1) 1000000000000
        · rw [hs] at K HQ
          have HQ2 : Hid (¬ acR zss k) := Lib.hid (fun h => by have := (HQ.out.1 h).2; cases this)
          clear hs hq HQ
          go_wp2
          go_quiet (first | (go_at_call 95; (with_reducible exact prq_call (K.out _))) | fail)
          go_wp2
          go_ret
          exact ⟨ret_bool (acB_no (by rw [N1.out]; exact hlt) HQ2.out).symm, by obtain ⟨m, hm⟩ := HM.out; exact ⟨m + nq, by rw [hm, World.drewN_drewN]⟩⟩
        · rw [hs] at K HQ
          have HQ2 : Hid (acR zss k) := Lib.hid (HQ.out.2 ⟨hq, rfl⟩)
          clear hs hq HQ
          go_wp2
          go_quiet (first | (go_at_call 95; (with_reducible exact prq_call (K.out _))) | fail)
          go_wp2
          go_roundw
          case rel =>
            refine ⟨k + 1, by omega, by go_num, by obtain ⟨m, hm⟩ := HM.out; exact ⟨m + nq, by rw [hm, World.drewN_drewN]⟩, fun j hj => ?_⟩
            by_cases hjk : j < k
            · exact HP.out j hjk
            · obtain rfl : j = k := by omega
              exact HQ2.out
          case measure => simp [intOf]; omega
      · have hd : ((L : Int) != (L0 : Int)) = true := by simp; omega
        have HQ2 : Hid (¬ acR zss k) := Lib.hid (fun h => hq (HQ.out.1 h).1)
        clear hq HQ K
        go_wp2
        go_quiet (fail)
        go_wp2
        go_ret
        exact ⟨ret_bool (acB_no (by rw [N1.out]; exact hlt) HQ2.out).symm, by obtain ⟨m, hm⟩ := HM.out; exact ⟨m + nq, by rw [hm, World.drewN_drewN]⟩⟩
    · obtain rfl : k = n := by omega
      go_wp2
      go_ret
      exact ⟨ret_bool (acB_mk (by rw [N1.out]; exact h1) (fun j hj => HP.out j (by rw [N1.out] at hj; exact hj))).symm, HM.out⟩
theorem lms_any (miss : Int) (w : World) :
    Calls Try.prog 77 #[.int .i64 miss] w fun e w' => e = .returned (.bool (inB miss 0 1000000000000)) ∧ w = w' := by
  go_enter Try.func77, Try.ntmps77
  go_wp2_with (go_at_call 106; refine (lin_any _ _ _ _).mono ?_; rintro e w' ⟨rfl, rfl⟩)
  go_ret
  exact ⟨rfl, rfl⟩
theorem Ints.pre {w : World} {B : Nat} {a : Option Addr} {zs : List Int} (h : Ints .i64 w B a zs) (k : Nat) : Ints .i64 w B a (zs.take k) := fun hp => by
  obtain ⟨b, off, e, hB, hc⟩ := h (by simp at hp; omega)
  refine ⟨b, off, e, hB, fun j hj => ?_⟩
  have := hc j (by simp at hj; omega)
  rw [List.getD_eq_getElem?_getD, List.getElem?_take, if_pos (by simp at hj; omega), ← List.getD_eq_getElem?_getD]
  exact this
theorem prO_mk {zss : List (List Int)} {ps : List Int} {i : Nat} {x : Int} (hx : ps.getD i 0 = x) (h1 : inB x (-1) (((gR zss i).length : Int) - 1) = true) (h2 : 0 ≤ x → 0 ≤ (gR zss i).getD x.toNat 0 ∧ decide (x ∈ ps.take i) = false) : PrO zss ps i := by
  unfold PrO pI
  rw [hx]
  unfold inB at h1
  simp only [Bool.and_eq_true, decide_eq_true_eq] at h1
  exact ⟨h1.1, h1.2, fun h => ⟨(h2 h).1, of_decide_eq_false (h2 h).2⟩⟩
theorem prB_mk {zss : List (List Int)} {ps : List Int} (h0 : ps.length = zss.length) (h : ∀ j, j < ps.length → PrO zss ps j) : prB zss ps = true := decide_eq_true ⟨h0, h⟩
theorem prB_no {zss : List (List Int)} {ps : List Int} {j : Nat} (hj : j < ps.length) (h : ¬ PrO zss ps j) : prB zss ps = false := decide_eq_false fun k => h (k.2 j hj)
set_option maxHeartbeats 1000000 in
theorem spr_any (w : World) (B : Nat) (a a2 : Option Addr) (cap cap2 n m : Nat) (zss : List (List Int)) (ps : List Int) (hn : zss.length = n) (hm : ps.length = m) (hl : n ≤ 9223372036854775807) (hl2 : m ≤ 9223372036854775807) (hcap : m ≤ cap2) (hr : ∀ j, j < zss.length → (gR zss j).length ≤ 9223372036854775807) (hx : RwL w B a zss) (hz : Ints .i64 w B a2 ps) :
    Calls Try.prog 78 #[.slice a n cap, .slice a2 m cap2] w fun e w' => e = .returned (.bool (prB zss ps)) ∧ ∃ n, w' = w.drewN n := by
  have HX := Lib.hid hx
  have HZ := Lib.hid hz
  have HR := Lib.hid hr
  have N1 := Lib.hid hn
  have N2 := Lib.hid hm
  clear hx hr hn hm hz
  by_cases h1 : m = n
  rotate_left
  · have H : Hid (prB zss ps = false) := Lib.hid (decide_eq_false (fun h => h1 (by have := h.1; rw [N1.out, N2.out] at this; exact this)))
    have hd : ((m : Int) != (n : Int)) = true := by simp; omega
    go_enter Try.func78, Try.ntmps78
    go_wp2
    go_ret
    exact ⟨ret_bool H.out.symm, 0, rfl⟩
  subst h1
  have hd0 : ((m : Int) != (m : Int)) = false := by simp
  go_enter Try.func78, Try.ntmps78
  go_wp2
  go_loopw [5] (fun i wr => ∃ k : Nat, k ≤ m ∧ i = .int .i64 k ∧ (∃ m, wr = w.drewN m) ∧ ∀ j, j < k → PrO zss ps j) (fun i _ => m - (intOf i).toNat)
  case atStart => exact ⟨0, by omega, rfl, ⟨0, rfl⟩, fun j hj => by omega⟩
  case round =>
    obtain ⟨k, hk, rfl, hm, hr⟩ := hrel
    have HM := Lib.hid hm
    have HP := Lib.hid hr
    have hb : Below B w wr := by obtain ⟨m, rfl⟩ := hm; exact bel_drewN (Below.refl _ _) _
    replace HX := Lib.hid (HX.out.below hb)
    replace HZ := Lib.hid (HZ.out.below hb)
    clear hb hr hm
    by_cases hlt : k < m
    · have hn0 : 0 < m := by omega
      obtain ⟨b, off, p, c, rfl, -, hc, hcc, hp⟩ := HX.out.at_ (j := k) (by rw [N1.out]; exact hlt)
      have hkc : k ≤ cap2 := by omega
      obtain ⟨b2, off2, rfl, -, hd⟩ := HZ.out.at_ (j := k) (by rw [N2.out]; exact hlt)
      have hL := HR.out k (by rw [N1.out]; exact hlt)
      have HMK : Hid (∀ x, ps.getD k 0 = x → inB x (-1) (((gR zss k).length : Int) - 1) = true → (0 ≤ x → 0 ≤ (gR zss k).getD x.toNat 0 ∧ decide (x ∈ ps.take k) = false) → PrO zss ps k) := Lib.hid (fun x e h1 h2 => prO_mk e h1 h2)
      have HUN : Hid (PrO zss ps k → inB (ps.getD k 0) (-1) (((gR zss k).length : Int) - 1) = true ∧ (0 ≤ ps.getD k 0 → 0 ≤ (gR zss k).getD (ps.getD k 0).toNat 0 ∧ decide (ps.getD k 0 ∈ ps.take k) = false)) := Lib.hid (fun h => by
        unfold PrO pI at h
        refine ⟨?_, fun h0 => ⟨(h.2.2 h0).1, decide_eq_false (h.2.2 h0).2⟩⟩
        unfold inB
        simp only [Bool.and_eq_true, decide_eq_true_eq]
        exact ⟨h.1, h.2.1⟩)
      have KH : Hid (∀ (x : Int) (q : Nat), Calls Try.prog 90 #[.slice (some ⟨b2, off2, none⟩) k cap2, .int .i64 x] (wr.drewN q) _) := Lib.hid (fun x q => lhs_any (wr.drewN q) B (some ⟨b2, off2, none⟩) cap2 k (ps.take k) x (by rw [List.length_take, N2.out]; omega) (by omega) ((HZ.out.pre k).drewN q))
      obtain ⟨L, hLe⟩ : ∃ L, (gR zss k).length = L := ⟨_, rfl⟩
      obtain ⟨x, hxe⟩ : ∃ x, ps.getD k 0 = x := ⟨_, rfl⟩
      rw [hLe] at hc hcc HMK HUN hL
      rw [hxe] at hd HMK HUN
      have HLE := Lib.hid hLe
      clear hLe
      have KI : Hid (∀ q : Nat, Calls Try.prog 106 #[.int .i64 x, .int .i64 (-1), .int .i64 ((L : Int) - 1)] (wr.drewN q) _) := Lib.hid (fun q => lin_any x (-1) ((L : Int) - 1) (wr.drewN q))
      clear hxe
      cases hin : inB x (-1) ((L : Int) - 1)
      · rw [hin] at KI
        have HQ2 : Hid (¬ PrO zss ps k) := Lib.hid (fun h => by have := (HUN.out h).1; rw [hin] at this; cases this)
        clear hin HUN HMK hp KH
        go_wp2
        go_quiet (first | (go_at_call 106; (with_reducible exact prq_call (KI.out _))) | fail)
        go_wp2
        go_ret
        exact ⟨ret_bool (prB_no (by rw [N2.out]; exact hlt) HQ2.out).symm, by obtain ⟨m, hm⟩ := HM.out; exact ⟨m + nq, by rw [hm, World.drewN_drewN]⟩⟩
      · rw [hin] at KI
        have hxl : -1 ≤ x ∧ x ≤ (L : Int) - 1 := by unfold inB at hin; simpa using hin
        by_cases hx0 : x < 0
        · have HQ2 : Hid (PrO zss ps k) := Lib.hid (HMK.out _ rfl hin (fun h => by omega))
          obtain rfl : x = -1 := by omega
          clear HMK HUN hin hp KH
          go_wp2
          go_quiet (first | (go_at_call 106; (with_reducible exact prq_call (KI.out _))) | fail)
          go_wp2
          go_quiet (fail)
          go_wp2
          go_roundw
          case rel =>
            refine ⟨k + 1, by omega, by go_num, by obtain ⟨m, hm⟩ := HM.out; exact ⟨_, by rw [hm]; first | exact World.drewN_drewN _ _ _ | (rw [World.drewN_drewN]; exact World.drewN_drewN _ _ _)⟩, fun j hj => ?_⟩
            by_cases hjk : j < k
            · exact HP.out j hjk
            · obtain rfl : j = k := by omega
              exact HQ2.out
          case measure => simp [intOf]; omega
        · obtain ⟨j, rfl⟩ : ∃ j : Nat, x = j := ⟨x.toNat, by omega⟩
          have hjL : j < L := by omega
          obtain ⟨b3, off3, rfl, -, hy⟩ := hp.at_ (j := j) (by rw [HLE.out]; exact hjL)
          obtain ⟨y, hye⟩ : ∃ y, (gR zss k).getD j 0 = y := ⟨_, rfl⟩
          rw [hye] at hy
          have HYE := Lib.hid hye
          clear hye
          by_cases hy0 : y < 0
          · have HQ2 : Hid (¬ PrO zss ps k) := Lib.hid (fun h => by have := ((HUN.out h).2 (by omega)).1; rw [Int.toNat_natCast, HYE.out] at this; omega)
            clear HMK HUN hin hp KH
            go_wp2
            go_quiet (first | (go_at_call 106; (with_reducible exact prq_call (KI.out _))) | fail)
            go_wp2
            go_quiet (fail)
            go_wp2
            go_ret
            exact ⟨ret_bool (prB_no (by rw [N2.out]; exact hlt) HQ2.out).symm, by obtain ⟨m, hm⟩ := HM.out; exact ⟨_, by rw [hm]; first | exact World.drewN_drewN _ _ _ | (rw [World.drewN_drewN]; exact World.drewN_drewN _ _ _)⟩⟩
          · cases hh : decide ((j : Int) ∈ ps.take k)
            · have HQ2 : Hid (PrO zss ps k) := Lib.hid (HMK.out _ rfl hin (fun h => ⟨by rw [Int.toNat_natCast, HYE.out]; omega, hh⟩))
              replace KH : Hid (∀ q : Nat, Calls Try.prog 90 #[.slice (some ⟨b2, off2, none⟩) k cap2, .int .i64 j] (wr.drewN q) fun e w' => e = .returned (.bool false) ∧ wr.drewN q = w') := Lib.hid (fun q => by have := KH.out (j : Int) q; rwa [hh] at this)
              clear HMK HUN hin hp hh
              go_wp2
              go_quiet (first | (go_at_call 106; (with_reducible exact prq_call (KI.out _))) | fail)
              go_wp2
              go_quiet (first | (go_at_call 90; (with_reducible exact prq_call2 (KH.out _))) | fail)
              go_wp2
              go_roundw
              case rel =>
                refine ⟨k + 1, by omega, by go_num, by obtain ⟨m, hm⟩ := HM.out; exact ⟨_, by rw [hm]; first | exact World.drewN_drewN _ _ _ | (rw [World.drewN_drewN]; exact World.drewN_drewN _ _ _)⟩, fun j hj => ?_⟩
                by_cases hjk : j < k
                · exact HP.out j hjk
                · obtain rfl : j = k := by omega
                  exact HQ2.out
              case measure => simp [intOf]; omega
            · have HQ2 : Hid (¬ PrO zss ps k) := Lib.hid (fun h => by have := ((HUN.out h).2 (by omega)).2; rw [hh] at this; cases this)
              replace KH : Hid (∀ q : Nat, Calls Try.prog 90 #[.slice (some ⟨b2, off2, none⟩) k cap2, .int .i64 j] (wr.drewN q) fun e w' => e = .returned (.bool true) ∧ wr.drewN q = w') := Lib.hid (fun q => by have := KH.out (j : Int) q; rwa [hh] at this)
              clear HMK HUN hin hp hh
              go_wp2
              go_quiet (first | (go_at_call 106; (with_reducible exact prq_call (KI.out _))) | fail)
              go_wp2
              go_quiet (first | (go_at_call 90; (with_reducible exact prq_call2 (KH.out _))) | fail)
              go_wp2
              go_ret
              exact ⟨ret_bool (prB_no (by rw [N2.out]; exact hlt) HQ2.out).symm, by obtain ⟨m, hm⟩ := HM.out; exact ⟨_, by rw [hm]; first | exact World.drewN_drewN _ _ _ | (rw [World.drewN_drewN]; exact World.drewN_drewN _ _ _)⟩⟩
    · obtain rfl : k = m := by omega
      go_wp2
      go_ret
      exact ⟨ret_bool (prB_mk (by rw [N1.out, N2.out]) (fun j hj => HP.out j (by rw [N2.out] at hj; exact hj))).symm, HM.out⟩
end Go.Proofs.Ytlahgdhofakinaa
