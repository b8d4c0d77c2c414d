/- Contracts of the draws of texts of profiles and of profiles to be cut, of likeProfiles9; facts of a profile's text. -/
import Derived.Test.YtcaekheghjnipabDoorDrp
import Derived.Test.YtcaekheghjnipabDoorRdp
import Derived.Test.YtcaekheghjnipabDoorLys
import Derived.Test.YtcaekheghjnipabDoorPText2
namespace Go.Proofs.YtcaekheghjnipabDoor
open Go.ChangeShapes Go.WideShapes Go.ChangeAt Go.RowKit Go.Shelf Num
set_option linter.unusedVariables false
attribute [local go_sem ↓] Go.wp_at_zero Go.wp_at_succ
def PrKC (w : World) (e : Ending) (w' : World) : Prop := ∃ (a b : Option Addr) (c d : Nat) (zs ys : List Int) (x : Int), e = .returned (.tuple #[.agg #[.slice a zs.length c, .slice b ys.length d], .int .i64 x]) ∧ PrN w' a b zs ys ∧ zs.length ≤ c ∧ ys.length ≤ d ∧ Below w.heap.size w w'
set_option maxRecDepth 100000 in
set_option maxHeartbeats 2000000 in
theorem dpf_any (w : World) (a : Option Addr) (cap : Nat) (cs : List Int) (h : Code8 w w.heap.size a cs) :
    Calls Tryd.prog 11 #[.slice a cs.length cap] w (Pr1 w) := by
  have HC := Lib.hid h
  clear h
  go_enter Tryd.func11, Tryd.ntmps11
  go_wp2_with fail
  obtain ⟨W, hW⟩ : ∃ W, W = w.alloc (.cells #[.slice none 0 0, .slice none 0 0] 24) := ⟨_, rfl⟩
  have bR : Bk W w.heap.size #[.slice none 0 0, .slice none 0 0] 24 := by rw [hW]; exact Bk.new' rfl
  have hb0 : Below w.heap.size w W := by rw [hW]; exact (by repeat (first | exact Below.refl _ _ | (refine Below.alloc ?_ (by simp <;> omega) _) | (refine Below.setCell ?_ (by simp <;> omega) _) | (refine Below.drew ?_) | (refine bel_drewN ?_ _)))
  have hlW := bR.lt
  rw [← hW]
  clear hW
  refine (from_any _ _ _ cs ((HC.out.below hb0 (Nat.le_refl _)).more hb0.size)).mono ?_
  rintro e w1 ⟨s, rfl, hs, hsrc, hb⟩
  replace bR := bR.on hb
  have HB := Lib.hid (bel_end hb0 hb)
  have HS := Lib.hid hsrc
  have hl1 := bR.lt
  clear hsrc hb hb0
  go_wp2_with fail
  refine (ddr_any _ _ HS.out).mono ?_
  rintro e w2 ⟨a1, b1, c1, d1, zs, ys, rfl, hn1, hn2, hc1, hc2, hp, hlo1, hlo2, hs9, hg⟩
  replace bR := bR.kept hg (by simp; omega)
  have HB2 := Lib.hid (HB.out.trans (below_of_grown hg (by omega) (by omega)))
  have HPA : Hid (PrA w2 w1.heap.size a1 b1 c1 d1 zs ys) := Lib.hid ⟨hp, fun x e => by have := hlo1 x e; omega, fun x e => by have := hlo2 x e; omega, hn1, hn2, hc1, hc2⟩
  clear hg hp hs9 hlo1 hlo2
  have r0 := bR.cell 0 rfl
  have r1 := bR.cell 1 rfl
  have f0 := bR.frozen 0
  have f1 := bR.frozen 1
  go_wp2_with fail
  exact bodyPost_ret (v := .agg #[.slice a1 zs.length c1, .slice b1 ys.length d1]) (by simp [results, Tryd.results11, go_sem, r0, r1]) rfl
    ⟨a1, b1, c1, d1, zs, ys, rfl, ⟨((HPA.out.set ⟨w.heap.size, 0, none⟩ (by simp; omega) _).set ⟨w.heap.size, 1, none⟩ (by simp; omega) _).at_, HPA.out.n1, HPA.out.n2⟩, (HB2.out.setCell (p := ⟨w.heap.size, 0, none⟩) (Nat.le_refl _) _).setCell (p := ⟨w.heap.size, 1, none⟩) (Nat.le_refl _) _⟩
set_option maxRecDepth 100000 in
set_option maxHeartbeats 2000000 in
theorem dcp_any (w : World) (a : Option Addr) (cap : Nat) (cs : List Int) (h : Code8 w w.heap.size a cs) :
    Calls Tryd.prog 14 #[.slice a cs.length cap] w (PrKC w) := by
  have HC := Lib.hid h
  clear h
  go_enter Tryd.func14, Tryd.ntmps14
  go_wp2_with fail
  obtain ⟨W, hW⟩ : ∃ W, W = w.alloc (.cells #[.slice none 0 0, .slice none 0 0] 24) := ⟨_, rfl⟩
  have bR : Bk W w.heap.size #[.slice none 0 0, .slice none 0 0] 24 := by rw [hW]; exact Bk.new' rfl
  have hb0 : Below w.heap.size w W := by rw [hW]; exact (by repeat (first | exact Below.refl _ _ | (refine Below.alloc ?_ (by simp <;> omega) _) | (refine Below.setCell ?_ (by simp <;> omega) _) | (refine Below.drew ?_) | (refine bel_drewN ?_ _)))
  have hlW := bR.lt
  rw [← hW]
  clear hW
  refine (from_any _ _ _ cs ((HC.out.below hb0 (Nat.le_refl _)).more hb0.size)).mono ?_
  rintro e w1 ⟨s, rfl, hs, hsrc, hb⟩
  replace bR := bR.on hb
  have HB := Lib.hid (bel_end hb0 hb)
  have HS := Lib.hid hsrc
  have hl1 := bR.lt
  clear hsrc hb hb0
  go_wp2_with fail
  refine (dkn_any _ _ HS.out).mono ?_
  rintro e w2 ⟨a1, b1, c1, d1, zs, ys, x, rfl, hp, hg, -⟩
  replace bR := bR.kept hg (by simp; omega)
  have HB2 := Lib.hid (HB.out.trans (below_of_grown hg (by omega) (by omega)))
  have HPA := Lib.hid hp
  clear hg hp
  have r0 := bR.cell 0 rfl
  have r1 := bR.cell 1 rfl
  have f0 := bR.frozen 0
  have f1 := bR.frozen 1
  go_wp2_with fail
  exact bodyPost_ret (v := .tuple #[.agg #[.slice a1 zs.length c1, .slice b1 ys.length d1], .int .i64 x]) (by simp [results, Tryd.results14, go_sem, r0, r1]) rfl
    ⟨a1, b1, c1, d1, zs, ys, x, rfl, ⟨((HPA.out.set ⟨w.heap.size, 0, none⟩ (by simp; omega) _).set ⟨w.heap.size, 1, none⟩ (by simp; omega) _).at_, HPA.out.n1, HPA.out.n2⟩, HPA.out.c1, HPA.out.c2, (HB2.out.setCell (p := ⟨w.heap.size, 0, none⟩) (Nat.le_refl _) _).setCell (p := ⟨w.heap.size, 1, none⟩) (Nat.le_refl _) _⟩

theorem pfT_small {zs ys : List Int} : (pfT zs ys).size ≤ 1000 := by
  cases h : prfB zs ys
  · rw [pfT_f h]; decide
  · have O := Okp.of h
    have h1 := (pTL_len O (List.range zs.length)).1
    have h2 := O.n12
    have e : (pfT zs ys).size = (pTL zs ys (List.range zs.length)).length := by rw [pfT_t h]; simp [ByteArray.size]
    rw [List.length_range] at h1
    omega
theorem pfT_ne {zs ys : List Int} (h : prfB zs ys = true) : pfT zs ys ≠ ⟨#[]⟩ := by
  have O := Okp.of h
  have h1 := (pTL_len O (List.range zs.length)).2
  have h2 := O.n2
  have e : (pfT zs ys).size = (pTL zs ys (List.range zs.length)).length := by rw [pfT_t h]; simp [ByteArray.size]
  rw [List.length_range] at h1
  intro hc
  rw [hc] at e
  have h3 : (ByteArray.mk #[]).size = 0 := rfl
  have := h1 (by omega)
  omega
theorem rpf_text {zs ys us vs : List Int} {k : Bool} (h : RPf (pfT zs ys) us vs k) : k = prfB zs ys ∧ (k = true → us = zs ∧ vs = ys) := by
  cases hv : prfB zs ys
  · rcases h with ⟨rfl, hx, e⟩ | ⟨rfl, rfl, rfl, _⟩
    · rw [pfT_f hv] at e
      exact absurd e (pfT_ne hx)
    · exact ⟨rfl, fun e => by cases e⟩
  · obtain ⟨⟨e1, e2⟩, e3⟩ := RPf.unique h (Or.inl ⟨rfl, hv, rfl⟩)
    exact ⟨e3, fun _ => ⟨e1, e2⟩⟩
theorem lkp_any (w : World) (a b a' b' : Option Addr) (c d c' d' : Nat) (zs ys : List Int) (hp : Prof w w.heap.size a b zs ys) (hq : Prof w w.heap.size a' b' zs ys) :
    Calls Tryd.prog 20 #[.agg #[.slice a zs.length c, .slice b ys.length d], .agg #[.slice a' zs.length c', .slice b' ys.length d']] w fun e w' => e = .returned (.bool true) ∧ Below w.heap.size w w' := by
  have HP := Lib.hid hp
  have HQ := Lib.hid hq
  clear hp hq
  go_enter Tryd.func20, Tryd.ntmps20
  go_wp2_with fail
  obtain ⟨W, hW⟩ : ∃ W, W = (w.alloc (.cells #[.slice a zs.length c, .slice b ys.length d] 24)).alloc (.cells #[.slice a' zs.length c', .slice b' ys.length d'] 24) := ⟨_, rfl⟩
  have bX : Bk W w.heap.size #[.slice a zs.length c, .slice b ys.length d] 24 := by rw [hW]; exact (Bk.new' rfl).alloc _
  have bY : Bk W (w.heap.size + 1) #[.slice a' zs.length c', .slice b' ys.length d'] 24 := by rw [hW]; exact Bk.new' (by simp)
  have HB : Hid (Below w.heap.size w W) := Lib.hid (by rw [hW]; exact (by repeat (first | exact Below.refl _ _ | (refine Below.alloc ?_ (by simp <;> omega) _) | (refine Below.setCell ?_ (by simp <;> omega) _) | (refine Below.drew ?_) | (refine bel_drewN ?_ _))))
  have HP1 := Lib.hid (HP.out.on HB.out)
  have HQ1 := Lib.hid (HQ.out.on HB.out)
  have cX := bX.cell 1 rfl
  have cY := bY.cell 1 rfl
  rw [← hW]
  clear hW bX bY
  have l1 := HP.out.lz
  have l3 := HP.out.ly
  refine (lki_any _ _ _ _ _ _ zs (by omega) HP1.out.dz HQ1.out.dz).mono ?_
  rintro e w1 ⟨rfl, n, rfl⟩
  go_wp2_with fail
  refine (lki_any _ _ _ _ _ _ ys (by omega) (HP1.out.sy.drewN n) (HQ1.out.sy.drewN n)).mono ?_
  rintro e w1 ⟨rfl, n2, rfl⟩
  go_wp2
  go_ret
  exact ⟨rfl, bel_drewN HB.out _⟩
def PStrDrawn (w : World) (e : Ending) (w' : World) : Prop := ∃ t : ByteArray, e = .returned (.string t) ∧ t.size ≤ 2000 ∧ Below w.heap.size w w'
theorem drp_any (w : World) (a : Option Addr) (cap : Nat) (zs : List Int) (h : Code8 w w.heap.size a zs) :
    Calls Tryd.prog 13 #[.slice a zs.length cap] w (PStrDrawn w) := by
  have H := Lib.hid h
  clear h
  go_enter Tryd.func13, Tryd.ntmps13
  go_wp2_with fail
  refine (from_any _ _ _ zs H.out).mono ?_
  rintro e w1 ⟨s, rfl, hs, hsrc, hb⟩
  have S1 := Lib.hid hsrc
  have B1 := Lib.hid hb
  clear hsrc hb
  go_wp2_with fail
  refine (ddr_any _ _ S1.out).mono ?_
  rintro e w2 ⟨a1, b1, c1, d1, us, vs, rfl, -, -, -, -, hp, -, -, hsrc, hg⟩
  have S2 := Lib.hid hsrc
  have B2 := Lib.hid (B1.out.trans (below_of_grown hg hs B1.out.size))
  clear hsrc hg
  have HP := Lib.hid hp
  clear hp
  go_wp2_with fail
  refine (stp_any _ _ _ _ _ us vs HP.out).mono ?_
  rintro e w3 ⟨rfl, hb⟩
  have S3 := Lib.hid (S2.out.bel hb)
  have B3 := Lib.hid (B2.out.trans (hb.mono B2.out.size))
  clear hb
  have hsz := pfT_small (zs := us) (ys := vs)
  obtain ⟨T, hT⟩ : ∃ T, pfT us vs = T := ⟨_, rfl⟩
  rw [hT] at hsz ⊢
  clear hT
  go_wp2_with fail
  refine (nxt_any _ _ _ S3.out).mono ?_
  rintro e w4 ⟨n, rfl, hn0, hn1, -, hsrc, hg⟩
  have S4 := Lib.hid hsrc
  have B4 := Lib.hid (B3.out.trans (below_of_grown hg hs B3.out.size))
  clear hsrc hg hn1
  by_cases y0 : n = 0
  · subst y0
    go_wp2_with fail
    refine (dmg_any _ _ _ S4.out (by omega)).mono ?_
    rintro e w5 ⟨t, rfl, hts, hsrc, hg⟩
    have B5 := Lib.hid (B4.out.trans (below_of_grown hg hs B4.out.size))
    clear hsrc hg
    go_wp2_with fail
    go_ret
    exact ⟨t, rfl, by omega, B5.out⟩
  · have b0 : (n == 0) = false := by simpa using y0
    go_wp2_with fail
    go_ret
    exact ⟨_, rfl, by omega, B4.out⟩
end Go.Proofs.YtcaekheghjnipabDoor
