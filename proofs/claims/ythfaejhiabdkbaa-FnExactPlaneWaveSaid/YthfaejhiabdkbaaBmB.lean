/- Contracts of codes and delays of arrays of receivers, the program's and the model's. -/
import Derived.Test.YthfaejhiabdkbaaBmA
import Derived.Test.YthfaejhiabdkbaaPuL
import Derived.StillTailTactics
import Derived.Deep.DeepCutAuto
import Derived.Deep.RegionWith
namespace Go.Proofs.Ythfaejhiabdkbaa
open Go.ChangeShapes Go.WideShapes Go.ChangeAt Go.RowKit Go.Shelf Num
set_option linter.unusedVariables false
set_option linter.unusedSimpArgs false
/-- directions in a row -/
def dr3 (ts : List (Int × Int × Int)) (j : Nat) : Int × Int × Int := ts.getD j (0, 0, 0)
def Dirs (w : World) (B : Nat) (a : Option Addr) (ts : List (Int × Int × Int)) : Prop :=
  0 < ts.length → ∃ b off, a = some ⟨b, off, none⟩ ∧ b < B ∧ ∀ j, j < ts.length → w.cell? ⟨b, off + j * 3, none⟩ = some (.int .i64 (dr3 ts j).1) ∧ w.cell? ⟨b, off + j * 3 + 1, none⟩ = some (.int .i64 (dr3 ts j).2.1) ∧ w.cell? ⟨b, off + j * 3 + 2, none⟩ = some (.int .i64 (dr3 ts j).2.2)
theorem Dirs.below {w w' : World} {B : Nat} {a : Option Addr} {ts : List (Int × Int × Int)} (h : Dirs w B a ts) (hb : Below B w w') : Dirs w' B a ts := fun hp => by
  obtain ⟨b, off, e, hB, hc⟩ := h hp
  refine ⟨b, off, e, hB, fun j hj => ?_⟩
  obtain ⟨c0, c1, c2⟩ := hc j hj
  exact ⟨(hb.cell (p := ⟨b, off + j * 3, none⟩) hB).trans c0, (hb.cell (p := ⟨b, off + j * 3 + 1, none⟩) hB).trans c1, (hb.cell (p := ⟨b, off + j * 3 + 2, none⟩) hB).trans c2⟩
theorem Dirs.more {w : World} {B B' : Nat} {a : Option Addr} {ts : List (Int × Int × Int)} (h : Dirs w B a ts) (hb : B ≤ B') : Dirs w B' a ts := fun hp => by
  obtain ⟨b, off, e, hB, hc⟩ := h hp
  exact ⟨b, off, e, by omega, hc⟩
/-- one direction in a block of its own -/
theorem Dirs.one {w : World} {g : Nat} {c s h : Int} (hb : Bk w g #[.int .i64 c, .int .i64 s, .int .i64 h] 30) : Dirs w w.heap.size (some ⟨g, 0, none⟩) [(c, s, h)] := fun _ =>
  ⟨g, 0, rfl, hb.lt, fun j hj => by
    obtain rfl : j = 0 := by simp at hj; omega
    exact ⟨hb.cell 0 rfl, hb.cell 1 rfl, hb.cell 2 rfl⟩⟩
def allD (ts : List (Int × Int × Int)) : Bool := ts.all (fun t => dirB t.1 t.2.1 t.2.2)
theorem allD_t {ts : List (Int × Int × Int)} (h : ∀ j, j < ts.length → dirB (dr3 ts j).1 (dr3 ts j).2.1 (dr3 ts j).2.2 = true) : allD ts = true := by
  unfold allD
  rw [List.all_eq_true]
  intro t ht
  obtain ⟨i, hi, rfl⟩ := List.getElem_of_mem ht
  have := h i hi
  unfold dr3 at this
  rwa [List.getD_eq_getElem?_getD, List.getElem?_eq_getElem hi] at this
theorem allD_f {ts : List (Int × Int × Int)} {j : Nat} (hj : j < ts.length) (h : dirB (dr3 ts j).1 (dr3 ts j).2.1 (dr3 ts j).2.2 = false) : allD ts = false := by
  cases e : allD ts
  · rfl
  · unfold allD at e
    rw [List.all_eq_true] at e
    have := e _ (List.getElem_mem hj)
    unfold dr3 at h
    rw [List.getD_eq_getElem?_getD, List.getElem?_eq_getElem hj] at h
    simp only [Option.getD_some] at h
    rw [h] at this
    cases this
/-- the code of an array and directions -/
def erC (zs : List Int) (ts : List (Int × Int × Int)) (r v : Int) : Int := if arrB zs && allD ts then (if timB r v then 0 else 2) else 1
theorem erC_one (zs : List Int) (c s h r v : Int) : erC zs [(c, s, h)] r v = arC zs c s h r v := by
  unfold erC arC allD; simp
set_option maxRecDepth 100000 in
set_option maxHeartbeats 2000000 in
theorem erf_any (w : World) (a b : Option Addr) (cap d : Nat) (zs : List Int) (ts : List (Int × Int × Int)) (r v : Int) (hl : zs.length ≤ 9223372036854775807) (hl2 : ts.length ≤ 1000000) (hz : Ints .i64 w w.heap.size a zs) (ht : Dirs w w.heap.size b ts) :
    Calls Try.prog 35 #[.agg #[.slice a zs.length cap, .int .i64 r, .int .i64 v], .slice b ts.length d] w fun e w' => e = .returned (.int .i64 (erC zs ts r v)) ∧ Below w.heap.size w w' := by
  have HZ := Lib.hid hz
  have HT := Lib.hid ht
  clear hz ht
  obtain ⟨n, hn⟩ : ∃ n, ts.length = n := ⟨_, rfl⟩
  rw [hn] at hl2 ⊢
  have HN := Lib.hid hn
  clear hn
  go_enter Try.func35, Try.ntmps35
  go_wp2_with fail
  obtain ⟨W, hW⟩ : ∃ W, W = w.alloc (.cells #[.slice a zs.length cap, .int .i64 r, .int .i64 v] 50) := ⟨_, rfl⟩
  have hb : Below w.heap.size w W := by rw [hW]; exact (by repeat (first | exact Below.refl _ _ | (refine Below.alloc ?_ (by simp <;> omega) _) | (refine Below.setCell ?_ (by simp <;> omega) _) | (refine Below.drew ?_) | (refine bel_drewN ?_ _)))
  have bX : Bk W w.heap.size #[.slice a zs.length cap, .int .i64 r, .int .i64 v] 50 := by rw [hW]; exact Bk.new' rfl
  rw [← hW]
  clear hW
  have HB := Lib.hid hb
  clear hb
  refine (iar_any W w.heap.size a cap zs hl (HZ.out.below HB.out)).mono ?_
  cases h0 : arrB zs
  · rintro e w' ⟨rfl, rfl⟩
    go_wp2
    go_ret
    exact ⟨ret_int (by unfold erC; rw [h0]; rfl), HB.out⟩
  rintro e w' ⟨rfl, rfl⟩
  go_wp2_with fail
  go_loopw [15] (fun i wr => ∃ k : Nat, k ≤ n ∧ i = .int .i64 k ∧ Below W.heap.size W wr ∧ ∀ j, j < k → dirB (dr3 ts j).1 (dr3 ts j).2.1 (dr3 ts j).2.2 = true) (fun i _ => n - (intOf i).toNat)
  case atStart => exact ⟨0, by omega, rfl, Below.refl _ _, fun j hj => by omega⟩
  case round =>
    obtain ⟨k, hk, rfl, hb, hr⟩ := hrel
    have HR := Lib.hid hr
    have bY := bX.on hb
    have HW := Lib.hid (bel_end HB.out hb)
    have HX := Lib.hid hb
    clear hr hb
    by_cases hlt : k < n
    · obtain ⟨b, off, rfl, -, hc⟩ := (HT.out.below HW.out) (by rw [HN.out]; omega)
      obtain ⟨c0, c1, c2⟩ := hc k (by rw [HN.out]; omega)
      obtain ⟨⟨c, s, h⟩, hq⟩ : ∃ q, dr3 ts k = q := ⟨_, rfl⟩
      rw [hq] at c0 c1 c2
      have HQ := Lib.hid hq
      clear hq hc
      dsimp only at c0 c1 c2
      go_wp2_with fail
      generalize hV : World.alloc _ _ = V
      have hb : Below wr.heap.size wr V := by rw [← hV]; exact (by repeat (first | exact Below.refl _ _ | (refine Below.alloc ?_ (by simp <;> omega) _) | (refine Below.setCell ?_ (by simp <;> omega) _) | (refine Below.drew ?_) | (refine bel_drewN ?_ _)))
      clear hV c0 c1 c2
      replace HW := Lib.hid (bel_end HW.out hb)
      replace HX := Lib.hid (bel_end HX.out hb)
      replace bY := bY.on hb
      clear hb
      refine (idr_any c s h V).mono ?_
      cases hd : dirB c s h
      · rintro e w5 ⟨rfl, hb⟩
        go_wp2
        go_ret
        exact ⟨ret_int (by unfold erC; rw [allD_f (j := k) (by rw [HN.out]; exact hlt) (by rw [HQ.out]; exact hd), Bool.and_false]; rfl), bel_end HW.out hb⟩
      · rintro e w5 ⟨rfl, hb⟩
        go_wp2_with fail
        go_roundw
        case rel =>
          refine ⟨k + 1, by omega, by go_num, ?_, fun j hj => ?_⟩
          · exact bel_end HX.out hb
          · by_cases hjk : j < k
            · exact HR.out j hjk
            · obtain rfl : j = k := by omega
              rw [HQ.out]; exact hd
        case measure => simp [intOf]; omega
    · obtain rfl : k = n := by omega
      have x1 := bY.cell 1 rfl
      have xl := bY.lt
      have HA : Hid (erC zs ts r v = if timB r v then 0 else 2) := Lib.hid (by unfold erC; rw [h0, allD_t (fun j hj => HR.out j (by rw [HN.out] at hj; exact hj))]; rfl)
      go_wp2_with fail
      generalize hV : World.alloc (World.alloc _ _) _ = V
      have hb : Below wr.heap.size wr V := by rw [← hV]; exact (by repeat (first | exact Below.refl _ _ | (refine Below.alloc ?_ (by simp <;> omega) _) | (refine Below.setCell ?_ (by simp <;> omega) _) | (refine Below.drew ?_) | (refine bel_drewN ?_ _)))
      have bQ : Bk V (wr.heap.size + 1) #[.int .i64 1300000, .int .i64 1700000] 59 := by rw [← hV]; repeat (first | (refine Bk.new' ?_; (simp; done)) | refine Bk.alloc ?_ _)
      clear hV x1 xl
      replace HW := Lib.hid (bel_end HW.out hb)
      replace bY := bY.on hb
      clear hb
      refine (lacks_any _ _ _ _).mono ?_
      rintro e w5 ⟨rfl, hw⟩
      have hb : Below V.heap.size V w5 := by rw [hw]; exact (by repeat (first | exact Below.refl _ _ | (refine Below.alloc ?_ (by simp <;> omega) _) | (refine Below.setCell ?_ (by simp <;> omega) _) | (refine Below.drew ?_) | (refine bel_drewN ?_ _)))
      clear hw
      replace HW := Lib.hid (bel_end HW.out hb)
      replace bY := bY.on hb
      replace bQ := bQ.on hb
      clear hb
      have x2 := bY.cell 2 rfl
      have q0 := bQ.cell 0 rfl
      have q1 := bQ.cell 1 rfl
      cases h1 : hasB 1 100000 r
      · go_wp2
        go_ret
        exact ⟨ret_int (by rw [HA.out]; unfold timB; rw [h1]; rfl), HW.out⟩
      go_wp2_with fail
      refine (lacks_any _ _ _ _).mono ?_
      rintro e w6 ⟨rfl, hw⟩
      have hb : Below w5.heap.size w5 w6 := by rw [hw]; exact (by repeat (first | exact Below.refl _ _ | (refine Below.alloc ?_ (by simp <;> omega) _) | (refine Below.setCell ?_ (by simp <;> omega) _) | (refine Below.drew ?_) | (refine bel_drewN ?_ _)))
      clear hw x2 q0 q1
      replace HW := Lib.hid (bel_end HW.out hb)
      cases h2 : hasB 1300000 1700000 v
      · go_wp2
        go_ret
        exact ⟨ret_int (by rw [HA.out]; unfold timB; rw [h1, h2]; rfl), HW.out⟩
      · go_wp2
        go_ret
        exact ⟨ret_int (by rw [HA.out]; unfold timB; rw [h1, h2]; rfl), HW.out⟩
set_option maxRecDepth 100000 in
set_option maxHeartbeats 2000000 in
theorem sco_any (w : World) (a : Option Addr) (cap : Nat) (zs : List Int) (c s h r v : Int) (hl : zs.length ≤ 9223372036854775807) (hz : Ints .i64 w w.heap.size a zs) :
    Calls Try.prog 33 #[.slice a zs.length cap, .agg #[.int .i64 c, .int .i64 s, .int .i64 h], .int .i64 r, .int .i64 v] w fun e w' => e = .returned (.int .i64 (arC zs c s h r v)) ∧ Below w.heap.size w w' := by
  have HZ := Lib.hid hz
  clear hz
  go_enter Try.func33, Try.ntmps33
  go_wp2_with fail
  obtain ⟨W, hW⟩ : ∃ W, W = w.alloc (.cells #[.int .i64 c, .int .i64 s, .int .i64 h] 30) := ⟨_, rfl⟩
  have hb : Below w.heap.size w W := by rw [hW]; exact (by repeat (first | exact Below.refl _ _ | (refine Below.alloc ?_ (by simp <;> omega) _) | (refine Below.setCell ?_ (by simp <;> omega) _) | (refine Below.drew ?_) | (refine bel_drewN ?_ _)))
  have bX : Bk W w.heap.size #[.int .i64 c, .int .i64 s, .int .i64 h] 30 := by rw [hW]; exact Bk.new' rfl
  rw [← hW]
  clear hW
  refine (sar_any W w.heap.size a cap zs hl (HZ.out.below hb)).mono ?_
  cases h0 : arrB zs
  · rintro e w1 ⟨rfl, nd, rfl⟩
    go_wp2
    go_ret
    exact ⟨ret_int (by unfold arC; rw [h0]; rfl), below_drewN hb _⟩
  rintro e w1 ⟨rfl, nd, rfl⟩
  have x0 : (W.drewN nd).cell? ⟨w.heap.size, 0, none⟩ = some (.int .i64 c) := bX.cell 0 rfl
  have x1 : (W.drewN nd).cell? ⟨w.heap.size, 1, none⟩ = some (.int .i64 s) := bX.cell 1 rfl
  have x2 : (W.drewN nd).cell? ⟨w.heap.size, 2, none⟩ = some (.int .i64 h) := bX.cell 2 rfl
  have HB := Lib.hid (below_drewN hb nd)
  obtain ⟨V, hV⟩ : ∃ V, V = W.drewN nd := ⟨_, rfl⟩
  rw [← hV] at x0 x1 x2 HB ⊢
  clear hV hb bX
  go_wp2_with fail
  refine (sdr_any c s h V).mono ?_
  cases h1 : dirB c s h
  · rintro e w2 ⟨rfl, hb⟩
    go_wp2
    go_ret
    exact ⟨ret_int (by unfold arC; rw [h0, h1]; rfl), bel_end HB.out hb⟩
  rintro e w2 ⟨rfl, hb⟩
  cases h2 : timB r v
  · go_wp2_with (go_at_call 52; refine (stm_any _ _ _).mono ?_; rw [h2]; rintro e w' ⟨rfl, rfl⟩)
    go_ret
    exact ⟨ret_int (by unfold arC; rw [h0, h1, h2]; rfl), bel_end HB.out hb⟩
  · go_wp2_with (go_at_call 52; refine (stm_any _ _ _).mono ?_; rw [h2]; rintro e w' ⟨rfl, rfl⟩)
    go_ret
    exact ⟨ret_int (by unfold arC; rw [h0, h1, h2]; rfl), bel_end HB.out hb⟩
/-- an array, a direction, a rate and a speed that are valid -/
structure AOk (zs : List Int) (c s h r v : Int) : Prop where
  ar : arrB zs = true
  dr : dirB c s h = true
  tm : timB r v = true
theorem AOk.of {zs : List Int} {c s h r v : Int} (e : arC zs c s h r v = 0) : AOk zs c s h r v := by obtain ⟨a, b, d⟩ := arC_0 e; exact ⟨a, b, d⟩
theorem AOk.num {zs : List Int} {c s h r v : Int} (k : AOk zs c s h r v) (i : Nat) :
    -100000 ≤ 10 * zs.getD i 0 ∧ 10 * zs.getD i 0 ≤ 100000 ∧ -10000000000 ≤ 10 * zs.getD i 0 * r ∧ 10 * zs.getD i 0 * r ≤ 10000000000 ∧ -10000000000000 ≤ dnm (zs.getD i 0) r s ∧ dnm (zs.getD i 0) r s ≤ 10000000000000 := by
  have d := dirB_t k.dr
  have t := timB_t k.tm
  exact dnm_bd (arrB_sml k.ar i) t.1 t.2.1 (by have := d.s1; have := d.h2; omega) (by have := d.s2; have := d.h2; omega)
theorem AOk.den {zs : List Int} {c s h r v : Int} (k : AOk zs c s h r v) : 1300000 ≤ h * v ∧ h * v ≤ 1700000000 := by
  have d := dirB_t k.dr
  have t := timB_t k.tm
  exact dden_bd d.h1 d.h2 t.2.2.1 t.2.2.2
theorem exd_any (w : World) (a : Option Addr) (n cap : Nat) (r v x c s h : Int) (b1 : -100000 ≤ 10 * x) (b2 : 10 * x ≤ 100000) (b3 : -10000000000 ≤ 10 * x * r) (b4 : 10 * x * r ≤ 10000000000) (b5 : -10000000000000 ≤ dnm x r s) (b6 : dnm x r s ≤ 10000000000000) (b7 : 1300000 ≤ h * v) (b8 : h * v ≤ 1700000000) :
    Calls Try.prog 39 #[.agg #[.slice a n cap, .int .i64 r, .int .i64 v], .int .i64 x, .agg #[.int .i64 c, .int .i64 s, .int .i64 h]] w fun e w' => e = .returned (.tuple #[.int .i64 (dnm x r s), .int .i64 (h * v)]) ∧ Below w.heap.size w w' := by
  unfold dnm at *
  have e1 : IntKind.wrap .i64 (10 * x) = 10 * x := IntWalk.i64_in _ (by omega)
  have e2 : IntKind.wrap .i64 (10 * x * r) = 10 * x * r := IntWalk.i64_in _ (by omega)
  have e3 : IntKind.wrap .i64 (10 * x * r * s) = 10 * x * r * s := IntWalk.i64_in _ (by omega)
  have e4 : IntKind.wrap .i64 (h * v) = h * v := IntWalk.i64_in _ (by omega)
  go_enter Try.func39, Try.ntmps39
  go_wp2
  go_quiet (fail)
  go_wp2
  go_ret2
  exact ⟨rfl, (by repeat (first | exact Below.refl _ _ | (refine Below.alloc ?_ (by simp <;> omega) _) | (refine Below.setCell ?_ (by simp <;> omega) _) | (refine Below.drew ?_) | (refine bel_drewN ?_ _)))⟩

set_option maxRecDepth 100000 in
set_option maxHeartbeats 4000000 in
theorem idf_any (w : World) (a : Option Addr) (cap : Nat) (zs : List Int) (c s h r v : Int) (ok : AOk zs c s h r v) (hz : Ints .i64 w w.heap.size a zs) :
    Calls Try.prog 36 #[.agg #[.slice a zs.length cap, .int .i64 r, .int .i64 v], .agg #[.int .i64 c, .int .i64 s, .int .i64 h]] w fun e w' => ∃ (a' : Option Addr) (c' : Nat), e = .returned (.slice a' (dlL zs s h r v zs.length).length c') ∧ OwnA w' w.heap.size w'.heap.size a' c' (dlL zs s h r v zs.length) ∧ Below w.heap.size w w' := by
  have HZ := Lib.hid hz
  have HD : Hid (∀ i, _) := Lib.hid ok.num
  obtain ⟨d1, d2⟩ := ok.den
  have h1 := (arrB_t ok.ar).2.1
  clear hz ok
  obtain ⟨N, hN⟩ : ∃ N, zs.length = N := ⟨_, rfl⟩
  rw [hN] at h1 ⊢
  have HN := Lib.hid hN
  clear hN
  have hmk : ∀ w, (Instr.makeSlice 22 (.int .i64 N) (.int .i64 N)).run Try.prog w = .ok (.slice (some ⟨w.heap.size, 0, none⟩) N N) (w.alloc (.cells (madeCells #[.int .i64 0] N) 2)) := fun w => run_make_row' (P := Try.prog) 22 2 (.int .i64 0) 8 Try.underlying22 info_i64 rfl .i64 .i64 N (by omega) (by omega) w
  go_enter Try.func36, Try.ntmps36
  go_upto_region 1 with fail
  obtain ⟨W, hW⟩ : ∃ W, W = (w.alloc (.cells #[.slice a N cap, .int .i64 r, .int .i64 v] 50)).alloc (.cells #[.int .i64 c, .int .i64 s, .int .i64 h] 30) := ⟨_, rfl⟩
  have hb : Below w.heap.size w W := by rw [hW]; exact (by repeat (first | exact Below.refl _ _ | (refine Below.alloc ?_ (by simp <;> omega) _) | (refine Below.setCell ?_ (by simp <;> omega) _) | (refine Below.drew ?_) | (refine bel_drewN ?_ _)))
  have bX : Bk W w.heap.size #[.slice a N cap, .int .i64 r, .int .i64 v] 50 := by rw [hW]; exact (Bk.new' rfl).alloc _
  have bY : Bk W (w.heap.size + 1) #[.int .i64 c, .int .i64 s, .int .i64 h] 30 := by rw [hW]; exact Bk.new' (by simp)
  rw [← hW]
  clear hW
  have HB := Lib.hid hb
  have HZ1 := Lib.hid ((HZ.out.below hb).more hb.size)
  clear hb
  have x0 := bX.cell 0 rfl
  have xl := bX.lt
  go_wp2_with fail
  clear hmk x0 xl
  have HR0 := Lib.hid (rowG_zeros W N (by unfold maxLen; omega))
  obtain ⟨G, hG⟩ : ∃ G, W.heap.size = G := ⟨_, rfl⟩
  rw [hG] at HR0 ⊢
  have HGs := Lib.hid hG
  clear hG
  obtain ⟨f, hf⟩ : ∃ f : Nat → Int, f = fun i => dly s h r v (zs.getD i 0) := ⟨_, rfl⟩
  have HFF := Lib.hid hf
  clear hf
  go_loopw [15] (fun i wr => ∃ k : Nat, k ≤ N ∧ i = .int .i64 k ∧ RowG W 2 1 G N N ((preL f N k).map iv4) wr) (fun i _ => N - (intOf i).toNat)
  case atStart => exact ⟨0, by omega, rfl, by rw [preL_0]; exact HR0.out⟩
  case round =>
    obtain ⟨k, hk, rfl, hR⟩ := hrel
    have HR := Lib.hid hR
    have bX1 := bX.on hR.bel
    have bY1 := bY.on hR.bel
    clear hR HR0 bX bY
    by_cases hlt : k < N
    · obtain ⟨b, off, rfl, -, hc⟩ := (HZ1.out.below HR.out.bel).at_ (j := k) (by rw [HN.out]; exact hlt)
      obtain ⟨n1, n2, n3, n4, n5, n6⟩ := HD.out k
      have HF : Hid (f k = near (dnm (zs.getD k 0) r s) (h * v)) := Lib.hid (by rw [HFF.out]; rfl)
      obtain ⟨x, hx⟩ : ∃ x, zs.getD k 0 = x := ⟨_, rfl⟩
      rw [hx] at hc n1 n2 n3 n4 n5 n6 HF
      clear hx
      have K1 : Hid (∀ w : World, _) := Lib.hid (fun w => exd_any w (some ⟨b, off, none⟩) N cap r v x c s h n1 n2 n3 n4 n5 n6 d1 d2)
      obtain ⟨nm, hnm⟩ : ∃ u, dnm x r s = u := ⟨_, rfl⟩
      obtain ⟨dn, hdn⟩ : ∃ u, h * v = u := ⟨_, rfl⟩
      rw [hnm] at n5 n6 HF K1
      rw [hdn] at d1 d2 HF K1
      clear hnm hdn n1 n2 n3 n4
      have y0 := bX1.cell 0 rfl
      have y1 := bX1.cell 1 rfl
      have y2 := bX1.cell 2 rfl
      have z0 := bY1.cell 0 rfl
      have z1 := bY1.cell 1 rfl
      have z2 := bY1.cell 2 rfl
      go_wp2_with fail
      clear y0 y1 y2 z0 z1 z2 hc
      refine (K1.out _).mono ?_
      rintro e w2 ⟨rfl, hb⟩
      replace HR := Lib.hid (HR.out.on hb)
      clear hb K1
      have ho := HR.out.at1 (j := k) hlt (preL_len _ _ _)
      have hfz := HR.out.own.frozenAt k
      obtain ⟨u, hu⟩ : ∃ u, (preL f N k).getD k 0 = u := ⟨_, rfl⟩
      rw [hu] at ho
      clear hu
      go_wp2_with (go_at_call 56; refine (inn_any _ _ (by omega) (by omega) (by omega) (by omega) (by omega) _).mono ?_; rw [← HF.out]; rintro e w' ⟨rfl, rfl⟩)
      go_roundw
      case rel => exact ⟨k + 1, by omega, by go_num, by rw [← preL_set]; exact HR.out.set k _⟩
      case measure => simp [intOf]; omega
    · obtain rfl : k = N := by omega
      have HE : Hid (preL f k k = dlL zs s h r v k) := Lib.hid (by rw [preL_end, HFF.out]; rfl)
      rw [HE.out] at HR
      go_wp2
      go_ret
      exact ⟨some ⟨G, 0, none⟩, k, by rw [dlL_len]; rfl, ownA_row HR.out (dlL_len _ _ _ _ _ _) HB.out.size, bel_end HB.out HR.out.bel⟩
end Go.Proofs.Ythfaejhiabdkbaa
