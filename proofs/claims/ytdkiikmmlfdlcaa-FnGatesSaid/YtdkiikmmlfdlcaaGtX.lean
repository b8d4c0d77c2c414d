/- The walks of the exact laws of AreContacts, ContactsIn, NearestIn: each returns true and writes nothing that was there. -/
import Derived.Test.YtdkiikmmlfdlcaaGtF
import Derived.Test.YtdkiikmmlfdlcaaGtN
import Derived.Test.YtdkiikmmlfdlcaaPr2
import Derived.Test.YtdkiikmmlfdlcaaPuX
namespace Go.Proofs.Ytdkiikmmlfdlcaa
open Go.ChangeShapes Go.WideShapes Go.ChangeAt Go.RowKit Go.Shelf Num
set_option linter.unusedVariables false
set_option linter.unusedSimpArgs false

/-- a slice of contacts that came in, below a mark of the memory -/
structure CtL (w : World) (L : Nat) (a : Option Addr) (ps : List (Int × Int)) : Prop where
  at_ : Cts w L a ps
  le : L ≤ w.heap.size
theorem CtL.of {w : World} {a : Option Addr} {ps : List (Int × Int)} (h : Cts w w.heap.size a ps) : CtL w w.heap.size a ps := ⟨h, Nat.le_refl _⟩
theorem CtL.on {w w' : World} {L : Nat} {a : Option Addr} {ps : List (Int × Int)} (h : CtL w L a ps) (hb : Below w.heap.size w w') : CtL w' L a ps := ⟨h.at_.below (hb.mono h.le), Nat.le_trans h.le hb.size⟩
theorem CtL.kept {w w' : World} {L l i : Nat} {a : Option Addr} {ps : List (Int × Int)} (h : CtL w L a ps) (hk : Kept l i w w') (hd : L ≤ l) (hl : l ≤ w.heap.size) : CtL w' L a ps := ⟨h.at_.below ((hk.below hl).mono hd), Nat.le_trans h.le hk.size⟩
theorem CtL.rd {w : World} {L : Nat} {a : Option Addr} {ps : List (Int × Int)} (h : CtL w L a ps) : Cts w w.heap.size a ps := h.at_.more h.le
theorem Cts.of_row2 {w : World} {a : Option Addr} {len cap : Nat} {zs : List Int} (h : IsRow2 w a len cap zs) : len ≤ 9223372036854775807 ∧ len ≤ cap ∧ ∃ ps : List (Int × Int), ps.length = len ∧ Cts w w.heap.size a ps := by
  rcases h with ⟨rfl, rfl, rfl, rfl⟩ | ⟨x, rfl, hl, hm, hz, hc⟩
  · exact ⟨by omega, by omega, [], rfl, fun h => by simp at h⟩
  · unfold maxLen at hm
    refine ⟨by omega, hl, (List.range len).map (fun j => (zs.getD (j * 2) 0, zs.getD (j * 2 + 1) 0)), by simp, fun hp => ?_⟩
    have hp' : 0 < len := by simpa using hp
    obtain ⟨b, off, rfl, hcell⟩ := ints_at hc (by omega)
    refine ⟨b, off, rfl, cell_lt (hcell 0 (by omega)), fun j hj => ?_⟩
    have hj' : j < len := by simpa using hj
    rw [List.getD_eq_getElem?_getD]
    simp only [List.getElem?_map, List.getElem?_range hj', Option.map_some, Option.getD_some]
    exact ⟨hcell (j * 2) (by omega), hcell (j * 2 + 1) (by omega)⟩

set_option maxRecDepth 100000 in
set_option maxHeartbeats 8000000 in
theorem lact (a0 : Option Addr) (len0 cap0 : Nat) (z0 : List Int) (w : World) (w0 : IsRow2 w a0 len0 cap0 z0) :
    Calls Try.prog 6 #[.slice a0 len0 cap0] w fun e w' => e = .returned (.bool true) ∧ Below w.heap.size w w' := by
  obtain ⟨hl, hcap, ps, hps, hz⟩ := Cts.of_row2 w0
  subst hps
  have HP := Lib.hid (CtL.of hz)
  clear w0 hz hcap
  by_cases hbig : (1048576 : Int) < (ps.length : Int)
  case pos =>
    have HS : Hid ((if (1048576 : Int) < (ps.length : Int) then (-1 : Int) else 1048576 - (ps.length : Int)) = -1) := Lib.hid (if_pos hbig)
    clear hbig
    have HB := Lib.hid (Below.refl w.heap.size w)
    have q0 := Nat.le_refl w.heap.size
    go_enter Try.func6, Try.ntmps6
    go_wp2_with fail
    (refine (szC_any _ _ _ _ 1048576 hl (by omega) (by omega)).mono ?_)
    rw [HS.out]
    rintro e w_ ⟨rfl, rfl⟩
    go_wp2
    go_ret
    exact ⟨rfl, HB.out⟩
  case neg =>
    have HS : Hid ((if (1048576 : Int) < (ps.length : Int) then (-1 : Int) else 1048576 - (ps.length : Int)) = 1048576 - (ps.length : Int)) := Lib.hid (if_neg hbig)
    have hs0 : ¬ (1048576 : Int) - (ps.length : Int) < 0 := by omega
    have hn20 : ps.length ≤ 1048576 := by omega
    obtain ⟨Z, hZ⟩ : ∃ q, (csC ps == 0) = q := ⟨_, rfl⟩
    have S1 : Hid (∀ (W : World) (a : Option Addr) (c : Nat), Cts W W.heap.size a ps → Calls Try.prog 22 #[.slice a ps.length c] W fun e w' => e = .returned (.bool Z) ∧ Below W.heap.size W w') := Lib.hid (fun W a c h => by have := sac_any W a c ps hl h; rwa [hZ] at this)
    have S2 : Hid (∀ (W : World) (a : Option Addr) (c : Nat), Cts W W.heap.size a ps → Calls Try.prog 21 #[.slice a ps.length c] W fun e w' => e = .returned (.bool Z) ∧ Below W.heap.size W w') := Lib.hid (fun W a c h => by have := iac_any W a c ps hl h; rwa [hZ] at this)
    clear hZ
    clear hbig
    have HB := Lib.hid (Below.refl w.heap.size w)
    have q0 := Nat.le_refl w.heap.size
    go_enter Try.func6, Try.ntmps6
    go_wp2_with fail
    (refine (szC_any _ _ _ _ 1048576 hl (by omega) (by omega)).mono ?_)
    rw [HS.out]
    rintro e w_ ⟨rfl, rfl⟩
    go_wp2_with fail
    (refine (toC_any _ _ _ ps (by omega) HP.out.rd).mono ?_)
    rintro e v1 ⟨gSP1, rfl, ho, hb⟩
    replace HP := Lib.hid (HP.out.on hb)
    replace HB := Lib.hid (bel_end HB.out hb)
    have q1 := hb.size
    have SP1 := Lib.hid ho
    clear ho
    clear hb
    go_wp2_with fail
    (refine (S1.out _ _ _ SP1.out.rdC).mono ?_)
    rintro e v2 ⟨rfl, hb⟩
    replace HP := Lib.hid (HP.out.on hb)
    replace SP1 := Lib.hid (SP1.out.on hb)
    replace HB := Lib.hid (bel_end HB.out hb)
    have q2 := hb.size
    clear hb
    clear SP1
    go_wp2_with fail
    (refine (toC_any _ _ _ ps (by omega) HP.out.rd).mono ?_)
    rintro e v3 ⟨gXP, rfl, ho, hb⟩
    replace HP := Lib.hid (HP.out.on hb)
    replace HB := Lib.hid (bel_end HB.out hb)
    have q3 := hb.size
    have XP := Lib.hid ho
    clear ho
    clear hb
    go_wp2_with fail
    (refine (S2.out _ _ _ XP.out.rdC).mono ?_)
    rintro e v4 ⟨rfl, hb⟩
    replace HP := Lib.hid (HP.out.on hb)
    replace XP := Lib.hid (XP.out.on hb)
    replace HB := Lib.hid (bel_end HB.out hb)
    have q4 := hb.size
    clear hb
    go_wp2_with fail
    (refine (toC_any _ _ _ ps (by omega) HP.out.rd).mono ?_)
    rintro e v5 ⟨gCP, rfl, ho, hb⟩
    replace HP := Lib.hid (HP.out.on hb)
    replace XP := Lib.hid (XP.out.on hb)
    replace HB := Lib.hid (bel_end HB.out hb)
    have q5 := hb.size
    have CP := Lib.hid ho
    clear ho
    clear hb
    go_wp2_with fail
    (refine (eqC_any _ _ _ _ _ ps (by omega) XP.out.rdC CP.out.rdC).mono ?_)
    rintro e v6 ⟨rfl, hb⟩
    replace HP := Lib.hid (HP.out.on hb)
    replace XP := Lib.hid (XP.out.on hb)
    replace CP := Lib.hid (CP.out.on hb)
    replace HB := Lib.hid (bel_end HB.out hb)
    have q6 := hb.size
    clear hb
    go_wp2
    go_ret
    exact ⟨rfl, HB.out⟩

set_option maxRecDepth 100000 in
set_option maxHeartbeats 8000000 in
theorem lnri (x y u v s : Int) (a0 : Option Addr) (len0 cap0 : Nat) (z0 : List Int) (w : World) (w0 : IsRow2 w a0 len0 cap0 z0) :
    Calls Try.prog 11 #[.agg #[.int .i64 x, .int .i64 y, .int .i64 u, .int .i64 v, .int .i64 s], .slice a0 len0 cap0] w fun e w' => e = .returned (.bool true) ∧ Below w.heap.size w w' := by
  obtain ⟨hl, hcap, ps, hps, hz⟩ := Cts.of_row2 w0
  subst hps
  have HP := Lib.hid (CtL.of hz)
  clear w0 hz hcap
  by_cases hbig : (1048576 : Int) < (ps.length : Int)
  case pos =>
    have HS : Hid ((if (1048576 : Int) < (ps.length : Int) then (-1 : Int) else 1048576 - (ps.length : Int)) = -1) := Lib.hid (if_pos hbig)
    clear hbig
    go_enter Try.func11, Try.ntmps11
    go_wp2_with fail
    generalize hW : World.alloc _ _ = W
    have bX : Bk W (w.heap.size) #[.int .i64 x, .int .i64 y, .int .i64 u, .int .i64 v, .int .i64 s] 53 := by rw [← hW]; repeat (first | (refine Bk.new' ?_; (simp; done)) | refine Bk.alloc ?_ _)
    have hb : Below w.heap.size w W := by rw [← hW]; exact (by repeat (first | exact Below.refl _ _ | (refine Below.alloc ?_ (by simp <;> omega) _) | (refine Below.setCell ?_ (by simp <;> omega) _) | (refine Below.drew ?_) | (refine bel_drewN ?_ _)))
    clear hW
    have HB := Lib.hid (Below.refl w.heap.size w)
    replace HP := Lib.hid (HP.out.on hb)
    replace HB := Lib.hid (bel_end HB.out hb)
    have q0 := hb.size
    have q00 : w.heap.size < W.heap.size := bX.lt
    clear hb
    (refine (szC_any _ _ _ _ 1048576 hl (by omega) (by omega)).mono ?_)
    rw [HS.out]
    rintro e w_ ⟨rfl, rfl⟩
    have bX_0 := bX.cell 0 rfl
    have bX_1 := bX.cell 1 rfl
    have bX_2 := bX.cell 2 rfl
    have bX_3 := bX.cell 3 rfl
    have bX_4 := bX.cell 4 rfl
    have bX_l := bX.lt
    go_wp2
    go_ret
    exact ⟨rfl, HB.out⟩
  case neg =>
    have HS : Hid ((if (1048576 : Int) < (ps.length : Int) then (-1 : Int) else 1048576 - (ps.length : Int)) = 1048576 - (ps.length : Int)) := Lib.hid (if_neg hbig)
    have hs0 : ¬ (1048576 : Int) - (ps.length : Int) < 0 := by omega
    have hn20 : ps.length ≤ 1048576 := by omega
    obtain ⟨Z, hZ⟩ : ∃ q, nrV x y u v s ps = q := ⟨_, rfl⟩
    obtain ⟨C, hC⟩ : ∃ q, nrC x y u v s ps = q := ⟨_, rfl⟩
    have S1 : Hid (∀ (W : World) (a : Option Addr) (c : Nat), Cts W W.heap.size a ps → Calls Try.prog 29 #[.agg #[.int .i64 x, .int .i64 y, .int .i64 u, .int .i64 v, .int .i64 s], .slice a ps.length c] W fun e w' => e = .returned (.tuple #[.int .i64 Z, .int .i64 C]) ∧ Below W.heap.size W w') := Lib.hid (fun W a c h => by have := snr_any W x y u v s a c ps hl h; rwa [hZ, hC] at this)
    have S2 : Hid (∀ (W : World) (a : Option Addr) (c : Nat), Cts W W.heap.size a ps → Calls Try.prog 28 #[.agg #[.int .i64 x, .int .i64 y, .int .i64 u, .int .i64 v, .int .i64 s], .slice a ps.length c] W fun e w' => e = .returned (.tuple #[.int .i64 Z, .int .i64 C]) ∧ Below W.heap.size W w') := Lib.hid (fun W a c h => by have := inr_any W x y u v s a c ps hl h; rwa [hZ, hC] at this)
    clear hZ hC
    clear hbig
    go_enter Try.func11, Try.ntmps11
    go_wp2_with fail
    generalize hW : World.alloc _ _ = W
    have bX : Bk W (w.heap.size) #[.int .i64 x, .int .i64 y, .int .i64 u, .int .i64 v, .int .i64 s] 53 := by rw [← hW]; repeat (first | (refine Bk.new' ?_; (simp; done)) | refine Bk.alloc ?_ _)
    have hb : Below w.heap.size w W := by rw [← hW]; exact (by repeat (first | exact Below.refl _ _ | (refine Below.alloc ?_ (by simp <;> omega) _) | (refine Below.setCell ?_ (by simp <;> omega) _) | (refine Below.drew ?_) | (refine bel_drewN ?_ _)))
    clear hW
    have HB := Lib.hid (Below.refl w.heap.size w)
    replace HP := Lib.hid (HP.out.on hb)
    replace HB := Lib.hid (bel_end HB.out hb)
    have q0 := hb.size
    have q00 : w.heap.size < W.heap.size := bX.lt
    clear hb
    (refine (szC_any _ _ _ _ 1048576 hl (by omega) (by omega)).mono ?_)
    rw [HS.out]
    rintro e w_ ⟨rfl, rfl⟩
    have bX_0 := bX.cell 0 rfl
    have bX_1 := bX.cell 1 rfl
    have bX_2 := bX.cell 2 rfl
    have bX_3 := bX.cell 3 rfl
    have bX_4 := bX.cell 4 rfl
    have bX_l := bX.lt
    go_wp2_with fail
    (refine (tmo_any _ _ _ _ _ _).mono ?_)
    rintro e v1 ⟨rfl, hb⟩
    replace bX := bX.on hb
    replace HP := Lib.hid (HP.out.on hb)
    replace HB := Lib.hid (bel_end HB.out hb)
    have q1 := hb.size
    clear hb
    clear bX_0 bX_1 bX_2 bX_3 bX_4 bX_l
    have bX_0 := bX.cell 0 rfl
    have bX_1 := bX.cell 1 rfl
    have bX_2 := bX.cell 2 rfl
    have bX_3 := bX.cell 3 rfl
    have bX_4 := bX.cell 4 rfl
    have bX_l := bX.lt
    go_wp2_with fail
    (refine (toC_any _ _ _ ps (by omega) HP.out.rd).mono ?_)
    rintro e v2 ⟨gSP1, rfl, ho, hb⟩
    replace bX := bX.on hb
    replace HP := Lib.hid (HP.out.on hb)
    replace HB := Lib.hid (bel_end HB.out hb)
    have q2 := hb.size
    have SP1 := Lib.hid ho
    clear ho
    clear hb
    clear bX_0 bX_1 bX_2 bX_3 bX_4 bX_l
    have bX_0 := bX.cell 0 rfl
    have bX_1 := bX.cell 1 rfl
    have bX_2 := bX.cell 2 rfl
    have bX_3 := bX.cell 3 rfl
    have bX_4 := bX.cell 4 rfl
    have bX_l := bX.lt
    go_wp2_with fail
    (refine (S1.out _ _ _ SP1.out.rdC).mono ?_)
    rintro e v3 ⟨rfl, hb⟩
    replace bX := bX.on hb
    replace HP := Lib.hid (HP.out.on hb)
    replace SP1 := Lib.hid (SP1.out.on hb)
    replace HB := Lib.hid (bel_end HB.out hb)
    have q3 := hb.size
    clear hb
    clear bX_0 bX_1 bX_2 bX_3 bX_4 bX_l
    clear SP1
    have bX_0 := bX.cell 0 rfl
    have bX_1 := bX.cell 1 rfl
    have bX_2 := bX.cell 2 rfl
    have bX_3 := bX.cell 3 rfl
    have bX_4 := bX.cell 4 rfl
    have bX_l := bX.lt
    go_wp2_with fail
    (refine (toC_any _ _ _ ps (by omega) HP.out.rd).mono ?_)
    rintro e v4 ⟨gXP, rfl, ho, hb⟩
    replace bX := bX.on hb
    replace HP := Lib.hid (HP.out.on hb)
    replace HB := Lib.hid (bel_end HB.out hb)
    have q4 := hb.size
    have XP := Lib.hid ho
    clear ho
    clear hb
    clear bX_0 bX_1 bX_2 bX_3 bX_4 bX_l
    have bX_0 := bX.cell 0 rfl
    have bX_1 := bX.cell 1 rfl
    have bX_2 := bX.cell 2 rfl
    have bX_3 := bX.cell 3 rfl
    have bX_4 := bX.cell 4 rfl
    have bX_l := bX.lt
    go_wp2_with fail
    (refine (tmo_any _ _ _ _ _ _).mono ?_)
    rintro e v5 ⟨rfl, hb⟩
    replace bX := bX.on hb
    replace HP := Lib.hid (HP.out.on hb)
    replace XP := Lib.hid (XP.out.on hb)
    replace HB := Lib.hid (bel_end HB.out hb)
    have q5 := hb.size
    clear hb
    clear bX_0 bX_1 bX_2 bX_3 bX_4 bX_l
    have bX_0 := bX.cell 0 rfl
    have bX_1 := bX.cell 1 rfl
    have bX_2 := bX.cell 2 rfl
    have bX_3 := bX.cell 3 rfl
    have bX_4 := bX.cell 4 rfl
    have bX_l := bX.lt
    go_wp2_with fail
    (refine (S2.out _ _ _ XP.out.rdC).mono ?_)
    rintro e v6 ⟨rfl, hb⟩
    replace bX := bX.on hb
    replace HP := Lib.hid (HP.out.on hb)
    replace XP := Lib.hid (XP.out.on hb)
    replace HB := Lib.hid (bel_end HB.out hb)
    have q6 := hb.size
    clear hb
    clear bX_0 bX_1 bX_2 bX_3 bX_4 bX_l
    have bX_0 := bX.cell 0 rfl
    have bX_1 := bX.cell 1 rfl
    have bX_2 := bX.cell 2 rfl
    have bX_3 := bX.cell 3 rfl
    have bX_4 := bX.cell 4 rfl
    have bX_l := bX.lt
    go_wp2_with fail
    (refine (toC_any _ _ _ ps (by omega) HP.out.rd).mono ?_)
    rintro e v7 ⟨gCP, rfl, ho, hb⟩
    replace bX := bX.on hb
    replace HP := Lib.hid (HP.out.on hb)
    replace XP := Lib.hid (XP.out.on hb)
    replace HB := Lib.hid (bel_end HB.out hb)
    have q7 := hb.size
    have CP := Lib.hid ho
    clear ho
    clear hb
    clear bX_0 bX_1 bX_2 bX_3 bX_4 bX_l
    have bX_0 := bX.cell 0 rfl
    have bX_1 := bX.cell 1 rfl
    have bX_2 := bX.cell 2 rfl
    have bX_3 := bX.cell 3 rfl
    have bX_4 := bX.cell 4 rfl
    have bX_l := bX.lt
    go_wp2_with fail
    (refine (eqC_any _ _ _ _ _ ps (by omega) XP.out.rdC CP.out.rdC).mono ?_)
    rintro e v8 ⟨rfl, hb⟩
    replace bX := bX.on hb
    replace HP := Lib.hid (HP.out.on hb)
    replace XP := Lib.hid (XP.out.on hb)
    replace CP := Lib.hid (CP.out.on hb)
    replace HB := Lib.hid (bel_end HB.out hb)
    have q8 := hb.size
    clear hb
    clear bX_0 bX_1 bX_2 bX_3 bX_4 bX_l
    have bX_0 := bX.cell 0 rfl
    have bX_1 := bX.cell 1 rfl
    have bX_2 := bX.cell 2 rfl
    have bX_3 := bX.cell 3 rfl
    have bX_4 := bX.cell 4 rfl
    have bX_l := bX.lt
    go_wp2
    go_ret
    exact ⟨rfl, HB.out⟩

set_option maxRecDepth 100000 in
set_option maxHeartbeats 8000000 in
theorem lcti (x y u v s : Int) (a0 : Option Addr) (len0 cap0 : Nat) (z0 : List Int) (w : World) (w0 : IsRow2 w a0 len0 cap0 z0) :
    Calls Try.prog 10 #[.agg #[.int .i64 x, .int .i64 y, .int .i64 u, .int .i64 v, .int .i64 s], .slice a0 len0 cap0] w fun e w' => e = .returned (.bool true) ∧ Below w.heap.size w w' := by
  obtain ⟨hl, hcap, ps, hps, hz⟩ := Cts.of_row2 w0
  subst hps
  have HP := Lib.hid (CtL.of hz)
  clear w0 hz hcap
  by_cases hbig : (1048576 : Int) < (ps.length : Int)
  case pos =>
    have HS : Hid ((if (1048576 : Int) < (ps.length : Int) then (-1 : Int) else 1048576 - (ps.length : Int)) = -1) := Lib.hid (if_pos hbig)
    clear hbig
    go_enter Try.func10, Try.ntmps10
    go_wp2_with fail
    generalize hW : World.alloc _ _ = W
    have bX : Bk W (w.heap.size) #[.int .i64 x, .int .i64 y, .int .i64 u, .int .i64 v, .int .i64 s] 53 := by rw [← hW]; repeat (first | (refine Bk.new' ?_; (simp; done)) | refine Bk.alloc ?_ _)
    have hb : Below w.heap.size w W := by rw [← hW]; exact (by repeat (first | exact Below.refl _ _ | (refine Below.alloc ?_ (by simp <;> omega) _) | (refine Below.setCell ?_ (by simp <;> omega) _) | (refine Below.drew ?_) | (refine bel_drewN ?_ _)))
    clear hW
    have HB := Lib.hid (Below.refl w.heap.size w)
    replace HP := Lib.hid (HP.out.on hb)
    replace HB := Lib.hid (bel_end HB.out hb)
    have q0 := hb.size
    have q00 : w.heap.size < W.heap.size := bX.lt
    clear hb
    (refine (szC_any _ _ _ _ 1048576 hl (by omega) (by omega)).mono ?_)
    rw [HS.out]
    rintro e w_ ⟨rfl, rfl⟩
    have bX_0 := bX.cell 0 rfl
    have bX_1 := bX.cell 1 rfl
    have bX_2 := bX.cell 2 rfl
    have bX_3 := bX.cell 3 rfl
    have bX_4 := bX.cell 4 rfl
    have bX_l := bX.lt
    go_wp2
    go_ret
    exact ⟨rfl, HB.out⟩
  case neg =>
    have HS : Hid ((if (1048576 : Int) < (ps.length : Int) then (-1 : Int) else 1048576 - (ps.length : Int)) = 1048576 - (ps.length : Int)) := Lib.hid (if_neg hbig)
    have hs0 : ¬ (1048576 : Int) - (ps.length : Int) < 0 := by omega
    have hn20 : ps.length ≤ 1048576 := by omega
    have hl6 := ciT_len x y u v s ps
    obtain ⟨LL, hZ⟩ : ∃ q, ciT x y u v s ps = q := ⟨_, rfl⟩
    obtain ⟨C, hC⟩ : ∃ q, mcC x y u v s ps = q := ⟨_, rfl⟩
    rw [hZ] at hl6
    have hfl := flC_len ps
    have S1 : Hid (∀ (W : World) (a : Option Addr) (c : Nat), Cts W W.heap.size a ps → Calls Try.prog 27 #[.agg #[.int .i64 x, .int .i64 y, .int .i64 u, .int .i64 v, .int .i64 s], .slice a ps.length c] W fun e w' => ∃ (a' : Option Addr) (c' : Nat), e = .returned (.tuple #[.slice a' LL.length c', .int .i64 C]) ∧ OwnA w' W.heap.size w'.heap.size a' c' LL ∧ Below W.heap.size W w') := Lib.hid (fun W a c h => by have := sci_any W x y u v s a c ps hl h; rwa [hZ, hC] at this)
    have S2 : Hid (∀ (W : World) (a : Option Addr) (c : Nat), Cts W W.heap.size a ps → Calls Try.prog 26 #[.agg #[.int .i64 x, .int .i64 y, .int .i64 u, .int .i64 v, .int .i64 s], .slice a ps.length c] W fun e w' => ∃ (a' : Option Addr) (c' : Nat), e = .returned (.tuple #[.slice a' LL.length c', .int .i64 C]) ∧ OwnA w' W.heap.size w'.heap.size a' c' LL ∧ Below W.heap.size W w') := Lib.hid (fun W a c h => by have := ici_any W x y u v s a c ps hl h; rwa [hZ, hC] at this)
    clear hZ hC
    clear hbig
    go_enter Try.func10, Try.ntmps10
    go_wp2_with fail
    generalize hW : World.alloc _ _ = W
    have bX : Bk W (w.heap.size) #[.int .i64 x, .int .i64 y, .int .i64 u, .int .i64 v, .int .i64 s] 53 := by rw [← hW]; repeat (first | (refine Bk.new' ?_; (simp; done)) | refine Bk.alloc ?_ _)
    have hb : Below w.heap.size w W := by rw [← hW]; exact (by repeat (first | exact Below.refl _ _ | (refine Below.alloc ?_ (by simp <;> omega) _) | (refine Below.setCell ?_ (by simp <;> omega) _) | (refine Below.drew ?_) | (refine bel_drewN ?_ _)))
    clear hW
    have HB := Lib.hid (Below.refl w.heap.size w)
    replace HP := Lib.hid (HP.out.on hb)
    replace HB := Lib.hid (bel_end HB.out hb)
    have q0 := hb.size
    have q00 : w.heap.size < W.heap.size := bX.lt
    clear hb
    (refine (szC_any _ _ _ _ 1048576 hl (by omega) (by omega)).mono ?_)
    rw [HS.out]
    rintro e w_ ⟨rfl, rfl⟩
    have bX_0 := bX.cell 0 rfl
    have bX_1 := bX.cell 1 rfl
    have bX_2 := bX.cell 2 rfl
    have bX_3 := bX.cell 3 rfl
    have bX_4 := bX.cell 4 rfl
    have bX_l := bX.lt
    go_wp2_with fail
    (refine (tmo_any _ _ _ _ _ _).mono ?_)
    rintro e v1 ⟨rfl, hb⟩
    replace bX := bX.on hb
    replace HP := Lib.hid (HP.out.on hb)
    replace HB := Lib.hid (bel_end HB.out hb)
    have q1 := hb.size
    clear hb
    clear bX_0 bX_1 bX_2 bX_3 bX_4 bX_l
    have bX_0 := bX.cell 0 rfl
    have bX_1 := bX.cell 1 rfl
    have bX_2 := bX.cell 2 rfl
    have bX_3 := bX.cell 3 rfl
    have bX_4 := bX.cell 4 rfl
    have bX_l := bX.lt
    go_wp2_with fail
    (refine (toC_any _ _ _ ps (by omega) HP.out.rd).mono ?_)
    rintro e v2 ⟨gSP1, rfl, ho, hb⟩
    replace bX := bX.on hb
    replace HP := Lib.hid (HP.out.on hb)
    replace HB := Lib.hid (bel_end HB.out hb)
    have q2 := hb.size
    have SP1 := Lib.hid ho
    clear ho
    clear hb
    clear bX_0 bX_1 bX_2 bX_3 bX_4 bX_l
    have bX_0 := bX.cell 0 rfl
    have bX_1 := bX.cell 1 rfl
    have bX_2 := bX.cell 2 rfl
    have bX_3 := bX.cell 3 rfl
    have bX_4 := bX.cell 4 rfl
    have bX_l := bX.lt
    go_wp2_with fail
    (refine (S1.out _ _ _ SP1.out.rdC).mono ?_)
    rintro e v3 ⟨RSa, RSc, rfl, ho, hb⟩
    replace bX := bX.on hb
    replace HP := Lib.hid (HP.out.on hb)
    replace SP1 := Lib.hid (SP1.out.on hb)
    replace HB := Lib.hid (bel_end HB.out hb)
    have q3 := hb.size
    have RS := Lib.hid ho
    clear ho
    clear hb
    clear bX_0 bX_1 bX_2 bX_3 bX_4 bX_l
    clear SP1
    have bX_0 := bX.cell 0 rfl
    have bX_1 := bX.cell 1 rfl
    have bX_2 := bX.cell 2 rfl
    have bX_3 := bX.cell 3 rfl
    have bX_4 := bX.cell 4 rfl
    have bX_l := bX.lt
    go_wp2_with fail
    (refine (toC_any _ _ _ ps (by omega) HP.out.rd).mono ?_)
    rintro e v4 ⟨gXP, rfl, ho, hb⟩
    replace bX := bX.on hb
    replace HP := Lib.hid (HP.out.on hb)
    replace RS := Lib.hid (RS.out.on hb)
    replace HB := Lib.hid (bel_end HB.out hb)
    have q4 := hb.size
    have XP := Lib.hid ho
    clear ho
    clear hb
    clear bX_0 bX_1 bX_2 bX_3 bX_4 bX_l
    have bX_0 := bX.cell 0 rfl
    have bX_1 := bX.cell 1 rfl
    have bX_2 := bX.cell 2 rfl
    have bX_3 := bX.cell 3 rfl
    have bX_4 := bX.cell 4 rfl
    have bX_l := bX.lt
    go_wp2_with fail
    (refine (tmo_any _ _ _ _ _ _).mono ?_)
    rintro e v5 ⟨rfl, hb⟩
    replace bX := bX.on hb
    replace HP := Lib.hid (HP.out.on hb)
    replace RS := Lib.hid (RS.out.on hb)
    replace XP := Lib.hid (XP.out.on hb)
    replace HB := Lib.hid (bel_end HB.out hb)
    have q5 := hb.size
    clear hb
    clear bX_0 bX_1 bX_2 bX_3 bX_4 bX_l
    have bX_0 := bX.cell 0 rfl
    have bX_1 := bX.cell 1 rfl
    have bX_2 := bX.cell 2 rfl
    have bX_3 := bX.cell 3 rfl
    have bX_4 := bX.cell 4 rfl
    have bX_l := bX.lt
    go_wp2_with fail
    (refine (S2.out _ _ _ XP.out.rdC).mono ?_)
    rintro e v6 ⟨RGa, RGc, rfl, ho, hb⟩
    replace bX := bX.on hb
    replace HP := Lib.hid (HP.out.on hb)
    replace RS := Lib.hid (RS.out.on hb)
    replace XP := Lib.hid (XP.out.on hb)
    replace HB := Lib.hid (bel_end HB.out hb)
    have q6 := hb.size
    have RG := Lib.hid ho
    clear ho
    clear hb
    clear bX_0 bX_1 bX_2 bX_3 bX_4 bX_l
    have bX_0 := bX.cell 0 rfl
    have bX_1 := bX.cell 1 rfl
    have bX_2 := bX.cell 2 rfl
    have bX_3 := bX.cell 3 rfl
    have bX_4 := bX.cell 4 rfl
    have bX_l := bX.lt
    go_wp2_with fail
    (refine (eql_any _ _ _ _ _ LL (by omega) RG.out.ints RS.out.ints).mono ?_)
    rintro e v7 ⟨rfl, hb⟩
    replace bX := bX.on hb
    replace HP := Lib.hid (HP.out.on hb)
    replace RS := Lib.hid (RS.out.on hb)
    replace XP := Lib.hid (XP.out.on hb)
    replace RG := Lib.hid (RG.out.on hb)
    replace HB := Lib.hid (bel_end HB.out hb)
    have q7 := hb.size
    clear hb
    clear bX_0 bX_1 bX_2 bX_3 bX_4 bX_l
    have bX_0 := bX.cell 0 rfl
    have bX_1 := bX.cell 1 rfl
    have bX_2 := bX.cell 2 rfl
    have bX_3 := bX.cell 3 rfl
    have bX_4 := bX.cell 4 rfl
    have bX_l := bX.lt
    go_wp2_with fail
    (refine (toC_any _ _ _ ps (by omega) HP.out.rd).mono ?_)
    rintro e v8 ⟨gCP, rfl, ho, hb⟩
    replace bX := bX.on hb
    replace HP := Lib.hid (HP.out.on hb)
    replace RS := Lib.hid (RS.out.on hb)
    replace XP := Lib.hid (XP.out.on hb)
    replace RG := Lib.hid (RG.out.on hb)
    replace HB := Lib.hid (bel_end HB.out hb)
    have q8 := hb.size
    have CP := Lib.hid ho
    clear ho
    clear hb
    clear bX_0 bX_1 bX_2 bX_3 bX_4 bX_l
    have bX_0 := bX.cell 0 rfl
    have bX_1 := bX.cell 1 rfl
    have bX_2 := bX.cell 2 rfl
    have bX_3 := bX.cell 3 rfl
    have bX_4 := bX.cell 4 rfl
    have bX_l := bX.lt
    go_wp2_with fail
    (refine (eqC_any _ _ _ _ _ ps (by omega) XP.out.rdC CP.out.rdC).mono ?_)
    rintro e v9 ⟨rfl, hb⟩
    replace bX := bX.on hb
    replace HP := Lib.hid (HP.out.on hb)
    replace RS := Lib.hid (RS.out.on hb)
    replace XP := Lib.hid (XP.out.on hb)
    replace RG := Lib.hid (RG.out.on hb)
    replace CP := Lib.hid (CP.out.on hb)
    replace HB := Lib.hid (bel_end HB.out hb)
    have q9 := hb.size
    clear hb
    clear bX_0 bX_1 bX_2 bX_3 bX_4 bX_l
    clear CP
    have bX_0 := bX.cell 0 rfl
    have bX_1 := bX.cell 1 rfl
    have bX_2 := bX.cell 2 rfl
    have bX_3 := bX.cell 3 rfl
    have bX_4 := bX.cell 4 rfl
    have bX_l := bX.lt
    go_wp2_with fail
    (refine (mkC_any _ _ _ _ _ _ _ 1 XP.out (by omega) (by omega) (by omega) (by omega)).mono ?_)
    rintro e v10 ⟨rfl, hk⟩
    replace bX := bX.keptP hk (by omega)
    replace HP := Lib.hid (HP.out.kept hk (by omega) (by omega))
    replace RS := Lib.hid (RS.out.kept hk (by omega))
    replace RG := Lib.hid (RG.out.kept hk (by omega))
    replace HB := Lib.hid (HB.out.trans ((hk.below (by omega)).mono (by omega)))
    have q10 := hk.size
    clear hk
    clear bX_0 bX_1 bX_2 bX_3 bX_4 bX_l
    clear XP
    have bX_0 := bX.cell 0 rfl
    have bX_1 := bX.cell 1 rfl
    have bX_2 := bX.cell 2 rfl
    have bX_3 := bX.cell 3 rfl
    have bX_4 := bX.cell 4 rfl
    have bX_l := bX.lt
    go_wp2_with fail
    (refine (eql_any _ _ _ _ _ LL (by omega) RG.out.ints RS.out.ints).mono ?_)
    rintro e v11 ⟨rfl, hb⟩
    replace bX := bX.on hb
    replace HP := Lib.hid (HP.out.on hb)
    replace RS := Lib.hid (RS.out.on hb)
    replace RG := Lib.hid (RG.out.on hb)
    replace HB := Lib.hid (bel_end HB.out hb)
    have q11 := hb.size
    clear hb
    clear bX_0 bX_1 bX_2 bX_3 bX_4 bX_l
    have bX_0 := bX.cell 0 rfl
    have bX_1 := bX.cell 1 rfl
    have bX_2 := bX.cell 2 rfl
    have bX_3 := bX.cell 3 rfl
    have bX_4 := bX.cell 4 rfl
    have bX_l := bX.lt
    go_wp2_with fail
    (refine (mka_any _ _ _ _ _ LL 1 RG.out (by omega) (by omega) (by omega)).mono ?_)
    rintro e v12 ⟨rfl, ho, hk⟩
    replace bX := bX.keptP hk (by omega)
    replace HP := Lib.hid (HP.out.kept hk (by omega) (by omega))
    replace RS := Lib.hid (RS.out.kept hk (by omega))
    replace HB := Lib.hid (HB.out.trans ((hk.below (by omega)).mono (by omega)))
    replace RG := Lib.hid ho
    have q12 := hk.size
    clear hk ho
    clear bX_0 bX_1 bX_2 bX_3 bX_4 bX_l
    have bX_0 := bX.cell 0 rfl
    have bX_1 := bX.cell 1 rfl
    have bX_2 := bX.cell 2 rfl
    have bX_3 := bX.cell 3 rfl
    have bX_4 := bX.cell 4 rfl
    have bX_l := bX.lt
    go_wp2_with fail
    (refine (hdi_any _ _ _ _ LL.length 1 RG.out.ints (by omega) (by omega) (by omega)).mono ?_)
    rintro e w_ ⟨rfl, rfl⟩
    clear bX_0 bX_1 bX_2 bX_3 bX_4 bX_l
    have bX_0 := bX.cell 0 rfl
    have bX_1 := bX.cell 1 rfl
    have bX_2 := bX.cell 2 rfl
    have bX_3 := bX.cell 3 rfl
    have bX_4 := bX.cell 4 rfl
    have bX_l := bX.lt
    go_wp2_with fail
    (refine (tmo_any _ _ _ _ _ _).mono ?_)
    rintro e v13 ⟨rfl, hb⟩
    replace bX := bX.on hb
    replace HP := Lib.hid (HP.out.on hb)
    replace RS := Lib.hid (RS.out.on hb)
    replace RG := Lib.hid (RG.out.on hb)
    replace HB := Lib.hid (bel_end HB.out hb)
    have q13 := hb.size
    clear hb
    clear bX_0 bX_1 bX_2 bX_3 bX_4 bX_l
    have bX_0 := bX.cell 0 rfl
    have bX_1 := bX.cell 1 rfl
    have bX_2 := bX.cell 2 rfl
    have bX_3 := bX.cell 3 rfl
    have bX_4 := bX.cell 4 rfl
    have bX_l := bX.lt
    go_wp2_with fail
    (refine (toC_any _ _ _ ps (by omega) HP.out.rd).mono ?_)
    rintro e v14 ⟨gYP, rfl, ho, hb⟩
    replace bX := bX.on hb
    replace HP := Lib.hid (HP.out.on hb)
    replace RS := Lib.hid (RS.out.on hb)
    replace RG := Lib.hid (RG.out.on hb)
    replace HB := Lib.hid (bel_end HB.out hb)
    have q14 := hb.size
    have YP := Lib.hid ho
    clear ho
    clear hb
    clear bX_0 bX_1 bX_2 bX_3 bX_4 bX_l
    have bX_0 := bX.cell 0 rfl
    have bX_1 := bX.cell 1 rfl
    have bX_2 := bX.cell 2 rfl
    have bX_3 := bX.cell 3 rfl
    have bX_4 := bX.cell 4 rfl
    have bX_l := bX.lt
    go_wp2_with fail
    (refine (S2.out _ _ _ YP.out.rdC).mono ?_)
    rintro e v15 ⟨RHa, RHc, rfl, ho, hb⟩
    replace bX := bX.on hb
    replace HP := Lib.hid (HP.out.on hb)
    replace RS := Lib.hid (RS.out.on hb)
    replace RG := Lib.hid (RG.out.on hb)
    replace YP := Lib.hid (YP.out.on hb)
    replace HB := Lib.hid (bel_end HB.out hb)
    have q15 := hb.size
    have RH := Lib.hid ho
    clear ho
    clear hb
    clear bX_0 bX_1 bX_2 bX_3 bX_4 bX_l
    clear YP
    have bX_0 := bX.cell 0 rfl
    have bX_1 := bX.cell 1 rfl
    have bX_2 := bX.cell 2 rfl
    have bX_3 := bX.cell 3 rfl
    have bX_4 := bX.cell 4 rfl
    have bX_l := bX.lt
    go_wp2_with fail
    (refine (eql_any _ _ _ _ _ LL (by omega) RH.out.ints RS.out.ints).mono ?_)
    rintro e v16 ⟨rfl, hb⟩
    replace bX := bX.on hb
    replace HP := Lib.hid (HP.out.on hb)
    replace RS := Lib.hid (RS.out.on hb)
    replace RG := Lib.hid (RG.out.on hb)
    replace RH := Lib.hid (RH.out.on hb)
    replace HB := Lib.hid (bel_end HB.out hb)
    have q16 := hb.size
    clear hb
    clear bX_0 bX_1 bX_2 bX_3 bX_4 bX_l
    clear RH
    have bX_0 := bX.cell 0 rfl
    have bX_1 := bX.cell 1 rfl
    have bX_2 := bX.cell 2 rfl
    have bX_3 := bX.cell 3 rfl
    have bX_4 := bX.cell 4 rfl
    have bX_l := bX.lt
    go_wp2_with fail
    (refine (hdi_any _ _ _ _ LL.length 1 RG.out.ints (by omega) (by omega) (by omega)).mono ?_)
    rintro e w_ ⟨rfl, rfl⟩
    clear bX_0 bX_1 bX_2 bX_3 bX_4 bX_l
    have bX_0 := bX.cell 0 rfl
    have bX_1 := bX.cell 1 rfl
    have bX_2 := bX.cell 2 rfl
    have bX_3 := bX.cell 3 rfl
    have bX_4 := bX.cell 4 rfl
    have bX_l := bX.lt
    go_wp2
    go_ret
    exact ⟨rfl, HB.out⟩
end Go.Proofs.Ytdkiikmmlfdlcaa
