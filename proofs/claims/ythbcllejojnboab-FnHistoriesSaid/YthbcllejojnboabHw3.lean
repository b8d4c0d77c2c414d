/- The walk of the law of histories. -/
import Derived.Test.YthbcllejojnboabDHs
import Derived.Test.YthbcllejojnboabHsr
import Derived.Test.YthbcllejojnboabLys
import Derived.Outline
namespace Go.Proofs.Ythbcllejojnboab
open Go.ChangeShapes Go.WideShapes Go.ChangeAt Go.RowKit Go.Shelf Num
set_option linter.unusedVariables false
theorem hnm_hchr {x : Int} (h : evB x = true) : hnm (hchr x) = x := by
  rcases evB_4 h with rfl | rfl | rfl | rfl <;> decide
theorem hchr_hnm {b : UInt8} (h : 0 < hnm b) : hchr (hnm b) = b := by
  rcases hnm_cases b with ⟨h1, h2⟩ | ⟨h1, h2⟩ | ⟨h1, h2⟩ | ⟨h1, h2⟩ | ⟨-, -, -, -, h2⟩
  · rw [h2]; exact (UInt8.toNat_inj.1 h1).symm
  · rw [h2]; exact (UInt8.toNat_inj.1 h1).symm
  · rw [h2]; exact (UInt8.toNat_inj.1 h1).symm
  · rw [h2]; exact (UInt8.toNat_inj.1 h1).symm
  · omega
theorem map_back : ∀ L : List Int, L.all evB = true → (L.map hchr).map hnm = L
  | [], _ => rfl
  | x :: L, h => by
    simp only [List.all_cons, Bool.and_eq_true] at h
    rw [List.map_cons, List.map_cons, hnm_hchr h.1, map_back L h.2]
theorem all_pos : ∀ L : List Int, L.all evB = true → (L.map hchr).all (fun b => decide (0 < hnm b)) = true
  | [], _ => rfl
  | x :: L, h => by
    simp only [List.all_cons, Bool.and_eq_true] at h
    rw [List.map_cons, List.all_cons, hnm_hchr h.1, all_pos L h.2, Bool.and_true]
    exact decide_eq_true (by rcases evB_4 h.1 with rfl | rfl | rfl | rfl <;> decide)
/-- letters of events are read again -/
theorem back_ok (L : List Int) : hrOk (hstT L) = true ∧ ((hstT L).size = 0 ∨ hrL (hstT L) = L) := by
  cases h : hOk L
  · have e : hstT L = ⟨#[]⟩ := by unfold hstT; rw [h]; rfl
    rw [e]
    exact ⟨by decide, Or.inl rfl⟩
  · have e : hstT L = ⟨(L.map hchr).toArray⟩ := by unfold hstT; rw [h]; rfl
    have h2 : L.length ≤ 100 ∧ L.all evB = true := by unfold hOk at h; simpa using h
    have ok : hrOk (hstT L) = true := by
      rw [e]; unfold hrOk
      rw [show (⟨(L.map hchr).toArray⟩ : ByteArray).size = L.length by simp [ByteArray.size], decide_eq_true h2.1, Bool.true_and]
      exact all_pos L h2.2
    refine ⟨ok, Or.inr ?_⟩
    rw [hrL_ok ok, e]
    exact map_back L h2.2
theorem map_fwd : ∀ l : List UInt8, l.all (fun b => decide (0 < hnm b)) = true → (l.map hnm).map hchr = l
  | [], _ => rfl
  | b :: l, h => by
    simp only [List.all_cons, Bool.and_eq_true, decide_eq_true_eq] at h
    rw [List.map_cons, List.map_cons, hchr_hnm h.1, map_fwd l h.2]
theorem all_ev : ∀ l : List UInt8, l.all (fun b => decide (0 < hnm b)) = true → (l.map hnm).all evB = true
  | [], _ => rfl
  | b :: l, h => by
    simp only [List.all_cons, Bool.and_eq_true, decide_eq_true_eq] at h
    rw [List.map_cons, List.all_cons, all_ev l h.2, Bool.and_true]
    have := hnm_in b
    unfold evB hasB
    simp
    omega
/-- events of letters are written again -/
theorem fwd_ok {s : ByteArray} (h : hrOk s = true) : hstT (hrL s) = s := by
  rw [hrL_ok h]
  have h2 : s.size ≤ 100 ∧ s.data.toList.all (fun b => decide (0 < hnm b)) = true := by
    unfold hrOk at h
    rw [Bool.and_eq_true, decide_eq_true_eq] at h
    exact h
  have ok : hOk (s.data.toList.map hnm) = true := by
    unfold hOk
    rw [List.length_map, hlen, decide_eq_true h2.1, all_ev _ h2.2]; rfl
  unfold hstT
  rw [if_pos ok, map_fwd _ h2.2]
theorem ne_emptyH {s : ByteArray} (h : ¬ s.size = 0) : s.toList.isEmpty = false := by
  rw [ByteArray.toList_eq]
  cases hl : s.data.toList with
  | nil => exact absurd (by have := congrArg List.length hl; simpa using this) h
  | cons a r => rfl
theorem size_0 {s : ByteArray} (h : s.size = 0) : s = ⟨#[]⟩ := by
  apply ByteArray.ext
  exact Array.eq_empty_of_size_eq_zero h
set_option maxRecDepth 100000 in
set_option maxHeartbeats 16000000 in
theorem lhis (a0 : Option Addr) (len0 cap0 : Nat) (z0 : List Int) (w : World) (w0 : IsRow .u8 w a0 len0 cap0 z0) :
    Calls Try.prog 3 #[.slice a0 len0 cap0] w fun e w' => e = .returned (.bool true) ∧ Below w.heap.size w w' := by
  obtain ⟨hlen', hcode⟩ := Code8.of_row w0
  obtain ⟨zs, hzs⟩ : ∃ zs, z0.take len0 = zs := ⟨_, rfl⟩
  rw [hzs] at hlen' hcode
  subst hlen'
  clear hzs w0
  have HC := Lib.hid hcode
  clear hcode
  by_cases hbig : 4096 < zs.length
  · have hd : decide ((4096 : Int) < (zs.length : Int)) = true := by simp; omega
    go_enter Try.func3, Try.ntmps3
    go_wp2_with (go_at_call 6; refine (big_any _ _ _ _).mono ?_; rw [hd]; rintro e w' ⟨rfl, rfl⟩)
    go_ret
    exact ⟨rfl, Below.refl _ _⟩
  · have hd : decide ((4096 : Int) < (zs.length : Int)) = false := by simp; omega
    go_enter Try.func3, Try.ntmps3
    go_wp2_with (go_at_call 6; refine (big_any _ _ _ _).mono ?_; rw [hd]; rintro e w' ⟨rfl, rfl⟩)
    clear hd
    refine (dht_any _ _ _ zs HC.out).mono ?_
    rintro e w1 ⟨a1, c1, L, rfl, hL, hz, hb⟩
    have HE := Lib.hid (IntL.of hz)
    have B := Lib.hid hb
    have HCC := Lib.hid ((HC.out.below hb (Nat.le_refl _)).more hb.size)
    obtain ⟨T, hT⟩ : ∃ T, hstT L = T := ⟨_, rfl⟩
    have hbk := back_ok L
    rw [hT] at hbk
    have hTs := hstT_size L
    rw [hT] at hTs
    have KI : Hid (∀ (W : World) (a : Option Addr) (c : Nat), Ints .i64 W W.heap.size a L → Calls Try.prog 8 #[.slice a L.length c] W fun e w' => e = .returned (.string T) ∧ Below W.heap.size W w') := Lib.hid (fun W a c h => by rw [← hT]; exact iht_any W a c L (by omega) h)
    have KS : Hid (∀ (W : World) (a : Option Addr) (c : Nat), Ints .i64 W W.heap.size a L → Calls Try.prog 12 #[.slice a L.length c] W fun e w' => e = .returned (.string T) ∧ Below W.heap.size W w') := Lib.hid (fun W a c h => by rw [← hT]; exact sht_any W a c L (by omega) h)
    have KR : Hid (∀ W : World, Calls Try.prog 9 #[.string T] W fun e w' => ∃ (a' : Option Addr) (c' : Nat), e = .returned (.tuple #[.slice a' (hrL T).length c', .bool true]) ∧ OwnA w' W.heap.size w'.heap.size a' c' (hrL T) ∧ Below W.heap.size W w') := Lib.hid (fun W => by have := irh_any W T (by omega); rw [hbk.1] at this; exact this)
    have HBK := Lib.hid hbk.2
    clear hz hb hbk hT
    go_wp2_with fail
    (with_reducible refine Calls.mono (KI.out _ _ _ HE.out.ints) ?_)
    rintro e w2 ⟨rfl, hb⟩
    replace HE := Lib.hid (HE.out.on hb)
    replace B := Lib.hid (bel_end B.out hb)
    clear hb
    go_wp2_with fail
    (with_reducible refine Calls.mono (KR.out _) ?_)
    rintro e w3 ⟨a3, c3, rfl, hs, hb⟩
    have HX := Lib.hid (IntL.of hs.ints)
    replace HE := Lib.hid (HE.out.on hb)
    replace B := Lib.hid (bel_end B.out hb)
    clear hs hb KR KI
    go_wp2_with fail
    refine (dhr_any _ _ _ zs ((HC.out.below B.out (Nat.le_refl _)).more B.out.size)).mono ?_
    rintro e w4 ⟨s, rfl, hss, hb⟩
    replace HX := Lib.hid (HX.out.on hb)
    replace HE := Lib.hid (HE.out.on hb)
    replace B := Lib.hid (bel_end B.out hb)
    clear hb HCC
    obtain ⟨M, hM⟩ : ∃ M, hrL s = M := ⟨_, rfl⟩
    obtain ⟨ok, hok⟩ : ∃ ok, hrOk s = ok := ⟨_, rfl⟩
    have hMl := hrL_len s
    rw [hM] at hMl
    have HF : Hid (ok = true → hstT M = s) := Lib.hid (by rintro rfl; rw [← hM]; exact fwd_ok hok)
    have K1 : Hid (∀ W : World, Calls Try.prog 9 #[.string s] W fun e w' => ∃ (a' : Option Addr) (c' : Nat), e = .returned (.tuple #[.slice a' M.length c', .bool ok]) ∧ OwnA w' W.heap.size w'.heap.size a' c' M ∧ Below W.heap.size W w') := Lib.hid (fun W => by have := irh_any W s (by omega); rw [hM, hok] at this; exact this)
    have K2 : Hid (∀ W : World, Calls Try.prog 11 #[.string s] W fun e w' => ∃ (a' : Option Addr) (c' : Nat), e = .returned (.tuple #[.slice a' M.length c', .bool ok]) ∧ OwnA w' W.heap.size w'.heap.size a' c' M ∧ Below W.heap.size W w') := Lib.hid (fun W => by have := srh_any W s (by omega); rw [hM, hok] at this; exact this)
    have hoo : (ok != ok) = false := by cases ok <;> rfl
    clear hM hok
    go_wp2_with fail
    (with_reducible refine Calls.mono (K1.out _) ?_)
    rintro e w5 ⟨a5, c5, rfl, hs, hb⟩
    have HY := Lib.hid (IntL.of hs.ints)
    replace HX := Lib.hid (HX.out.on hb)
    replace HE := Lib.hid (HE.out.on hb)
    replace B := Lib.hid (bel_end B.out hb)
    clear hs hb
    go_wp2_with fail
    (with_reducible refine Calls.mono (K2.out _) ?_)
    rintro e w6 ⟨a6, c6, rfl, hs, hb⟩
    have HZ := Lib.hid (IntL.of hs.ints)
    replace HY := Lib.hid (HY.out.on hb)
    replace HX := Lib.hid (HX.out.on hb)
    replace HE := Lib.hid (HE.out.on hb)
    replace B := Lib.hid (bel_end B.out hb)
    clear hs hb K1 K2
    go_wp2_with fail
    (with_reducible refine Calls.mono (KS.out _ _ _ HE.out.ints) ?_)
    rintro e w7 ⟨rfl, hb⟩
    replace HZ := Lib.hid (HZ.out.on hb)
    replace HY := Lib.hid (HY.out.on hb)
    replace HX := Lib.hid (HX.out.on hb)
    replace HE := Lib.hid (HE.out.on hb)
    replace B := Lib.hid (bel_end B.out hb)
    clear hb KS
    by_cases hT0 : T.size = 0
    · obtain rfl := size_0 hT0
      clear HBK
      go_wp2_with fail
      refine (lki_any _ _ _ _ _ _ M (by omega) HY.out.ints HZ.out.ints).mono ?_
      rintro e w8 ⟨rfl, n2, rfl⟩
      replace HY := Lib.hid (HY.out.on (bel_drewN (Below.refl _ _) n2))
      replace B := Lib.hid (bel_drewN B.out n2)
      obtain ⟨W9, hW9⟩ : ∃ W, W = World.drewN w7 n2 := ⟨_, rfl⟩
      rw [← hW9] at HY B ⊢
      clear hW9 HZ HX HE
      cases ok
      · go_wp2
        go_ret
        exact ⟨rfl, B.out⟩
      · have hst := HF.out rfl
        have KH : Hid (∀ (W : World) (a : Option Addr) (c : Nat), Ints .i64 W W.heap.size a M → Calls Try.prog 8 #[.slice a M.length c] W fun e w' => e = .returned (.string s) ∧ Below W.heap.size W w') := Lib.hid (fun W a c h => by have := iht_any W a c M (by omega) h; rw [hst] at this; exact this)
        clear hst HF
        go_wp2_with fail
        (with_reducible refine Calls.mono (KH.out _ _ _ HY.out.ints) ?_)
        rintro e w10 ⟨rfl, hb⟩
        replace B := Lib.hid (bel_end B.out hb)
        clear hb
        go_wp2
        go_ret
        exact ⟨rfl, B.out⟩
    · have hne := ne_emptyH hT0
      have hXL : hrL T = L := by rcases HBK.out with h | h; exact absurd h hT0; exact h
      rw [hXL] at HX ⊢
      clear HBK hXL
      go_wp2_with fail
      refine (lki_any _ _ _ _ _ _ L (by omega) HX.out.ints HE.out.ints).mono ?_
      rintro e w8 ⟨rfl, n1, rfl⟩
      replace HZ := Lib.hid (HZ.out.on (bel_drewN (Below.refl _ _) n1))
      replace HY := Lib.hid (HY.out.on (bel_drewN (Below.refl _ _) n1))
      replace B := Lib.hid (bel_drewN B.out n1)
      obtain ⟨W8, hW8⟩ : ∃ W, W = World.drewN w7 n1 := ⟨_, rfl⟩
      rw [← hW8] at HY HZ B ⊢
      clear hW8 HX HE
      go_wp2_with fail
      refine (lki_any _ _ _ _ _ _ M (by omega) HY.out.ints HZ.out.ints).mono ?_
      rintro e w8 ⟨rfl, n2, rfl⟩
      replace HY := Lib.hid (HY.out.on (bel_drewN (Below.refl _ _) n2))
      replace B := Lib.hid (bel_drewN B.out n2)
      obtain ⟨W9, hW9⟩ : ∃ W, W = World.drewN W8 n2 := ⟨_, rfl⟩
      rw [← hW9] at HY B ⊢
      clear hW9 HZ
      cases ok
      · go_wp2
        go_ret
        exact ⟨rfl, B.out⟩
      · have hst := HF.out rfl
        have KH : Hid (∀ (W : World) (a : Option Addr) (c : Nat), Ints .i64 W W.heap.size a M → Calls Try.prog 8 #[.slice a M.length c] W fun e w' => e = .returned (.string s) ∧ Below W.heap.size W w') := Lib.hid (fun W a c h => by have := iht_any W a c M (by omega) h; rw [hst] at this; exact this)
        clear hst HF
        go_wp2_with fail
        (with_reducible refine Calls.mono (KH.out _ _ _ HY.out.ints) ?_)
        rintro e w10 ⟨rfl, hb⟩
        replace B := Lib.hid (bel_end B.out hb)
        clear hb
        go_wp2
        go_ret
        exact ⟨rfl, B.out⟩
end Go.Proofs.Ythbcllejojnboab
