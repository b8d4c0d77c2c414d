/- Contracts of lists of correlations, of pulses of bits, of signals turned, the program's and the model's. -/
import Derived.Test.YtpnebnjpeiieaaaPuS
import Derived.Deep.RegionHeld3
import Derived.Laws.MakeOwn
import Derived.Deep.AppendLies
namespace Go.Proofs.Ytpnebnjpeiieaaa
open Go.ChangeShapes Go.WideShapes Go.ChangeAt Go.RowKit Go.Shelf Num
set_option linter.unusedVariables false
set_option linter.unusedSimpArgs false
theorem ownA_nil (W : World) (lo : Nat) (h : lo ≤ W.heap.size) : OwnA W lo W.heap.size none 0 [] := ⟨World.ownsRow_nil _ _ _ _, fun g e => by simp [Value.ownBlock] at e, Nat.le_refl _⟩
theorem ownA_row {w1 W : World} {g c n lo : Nat} {L : List Int} (h : RowG w1 2 1 g c n (L.map iv4) W) (hl : L.length = n) (hlo : lo ≤ w1.heap.size) : OwnA W lo W.heap.size (some ⟨g, 0, none⟩) c L := by
  subst hl
  exact ⟨World.ownsRow.mono h.own hlo, fun g e => (h.own.lt g e).2, Nat.le_refl _⟩
/-- a row made with zeros -/
theorem rowG_zeros (w : World) (n : Nat) (hn : n ≤ maxLen) : RowG w 2 1 w.heap.size n n ((List.replicate n 0).map iv4) (w.alloc (.cells (madeCells #[.int .i64 0] n) 2)) :=
  ⟨by
    have h := World.ownsRow_lit (base := w.heap.size) (e := 2) (size := 1) w (madeCells #[.int .i64 0] n) n (Nat.le_refl _) hn (by simp [size_madeCells])
    have e : (madeCells #[.int .i64 0] n).toList = (List.replicate n 0).map iv4 := by
      apply List.ext_getElem (by simp [size_madeCells])
      intro i h1 h2
      simp [madeCells, iv4, Nat.mod_one]
    rwa [e] at h, (Below.refl _ _).alloc (Nat.le_refl _) _⟩
theorem RowG.set {w1 W : World} {g c n : Nat} {L : List Int} (h : RowG w1 2 1 g c n (L.map iv4) W) (j : Nat) (x : Int) : RowG w1 2 1 g c n ((L.set j x).map iv4) (W.setCell ⟨g, j, none⟩ (.int .i64 x)) :=
  ⟨own_set h.own j x, h.bel.setCell (by have := h.lo; simp; omega) _⟩
theorem RowG.at1 {w1 W : World} {g c n : Nat} {L : List Int} (h : RowG w1 2 1 g c n (L.map iv4) W) {j : Nat} (hj : j < n) (hl : L.length = n) : W.cell? ⟨g, j, none⟩ = some (.int .i64 (L.getD j 0)) := by
  rw [h.own.cellAt j (by omega), List.getElem?_map, List.getElem?_eq_getElem (by omega), List.getD_eq_getElem?_getD, List.getElem?_eq_getElem (by omega)]; rfl
def crL (zs : List Int) : List Int := if sigB zs then corL zs zs.length else []
theorem crL_len (zs : List Int) : (crL zs).length ≤ 400 := by
  unfold crL
  split
  · rename_i h
    rw [corL_len]; exact (sigB_t h).1
  · simp

set_option maxRecDepth 100000 in
set_option maxHeartbeats 2000000 in
theorem icr_any (w : World) (a : Option Addr) (cap : Nat) (zs : List Int) (hl : zs.length ≤ 9223372036854775807) (hc : zs.length ≤ cap) (hz : Ints .i64 w w.heap.size a zs) :
    Calls Try.prog 16 #[.slice a zs.length cap] w fun e w' => ∃ (a' : Option Addr) (c' : Nat), e = .returned (.tuple #[.slice a' (crL zs).length c', .int .i64 (sgC zs)]) ∧ OwnA w' w.heap.size w'.heap.size a' c' (crL zs) ∧ Below w.heap.size w w' := by
  have HZ := Lib.hid hz
  clear hz
  cases hs : sigB zs
  · have H1 : Hid (crL zs = []) := Lib.hid (by unfold crL; rw [hs]; rfl)
    have H2 : Hid (sgC zs = 1) := Lib.hid (by unfold sgC; rw [hs]; rfl)
    go_enter Try.func16, Try.ntmps16
    go_wp2_with fail
    refine (isg_any _ _ _ zs hl HZ.out).mono ?_
    rw [hs]
    rintro e w1 ⟨rfl, hb⟩
    have HB := Lib.hid hb
    clear hb
    go_wp2
    go_ret2
    exact ⟨none, 0, by rw [H1.out, H2.out]; rfl, by rw [H1.out]; exact ownA_nil _ _ HB.out.size, HB.out⟩
  · have H1 : Hid (crL zs = corL zs zs.length) := Lib.hid (by unfold crL; rw [hs]; rfl)
    have H2 : Hid (sgC zs = 0) := Lib.hid (by unfold sgC; rw [hs]; rfl)
    obtain ⟨g4, gs⟩ := sigB_t hs
    have GS := Lib.hid gs
    clear gs
    go_enter Try.func16, Try.ntmps16
    go_wp2_with fail
    refine (isg_any _ _ _ zs hl HZ.out).mono ?_
    rw [hs]
    rintro e w1 ⟨rfl, hb⟩
    have HB := Lib.hid hb
    have HZ1 := Lib.hid ((HZ.out.below hb).more hb.size)
    clear hb
    have hmk : ∀ w, (Instr.makeSlice 24 (.int .i64 zs.length) (.int .i64 zs.length)).run Try.prog w = .ok (.slice (some ⟨w.heap.size, 0, none⟩) zs.length zs.length) (w.alloc (.cells (madeCells #[.int .i64 0] zs.length) 2)) := fun w => run_make_row' (P := Try.prog) 24 2 (.int .i64 0) 8 Try.underlying24 info_i64 rfl .i64 .i64 zs.length (by omega) (by omega) w
    go_wp2_with fail
    clear hmk
    have HR0 := Lib.hid (rowG_zeros w1 zs.length (by unfold maxLen; omega))
    obtain ⟨G, hG⟩ : ∃ G, w1.heap.size = G := ⟨_, rfl⟩
    rw [hG] at HR0 ⊢
    have HGs := Lib.hid hG
    clear hG
    go_loopw [14] (fun i wr => ∃ k : Nat, k ≤ zs.length ∧ i = .int .i64 k ∧ RowG w1 2 1 G zs.length zs.length ((corP zs zs.length k).map iv4) wr) (fun i _ => zs.length - (intOf i).toNat)
    case atStart => exact ⟨0, by omega, rfl, by rw [corP_0]; exact HR0.out⟩
    case round =>
      obtain ⟨k, hk, rfl, hR⟩ := hrel
      rename_i wr
      have HR := Lib.hid hR
      clear hR HR0
      by_cases hlt : k < zs.length
      · have KK := Lib.hid (cra_any wr _ a cap k zs hk g4 hc GS.out (HZ1.out.below HR.out.bel))
        have ho := HR.out.at1 (j := k) hlt (corP_len _ _ _)
        have hf := HR.out.own.frozenAt k
        obtain ⟨u, hu⟩ : ∃ u, (corP zs zs.length k).getD k 0 = u := ⟨_, rfl⟩
        rw [hu] at ho
        clear hu
        go_wp2_with fail
        refine KK.out.mono ?_
        rintro e w' ⟨rfl, rfl⟩
        go_wp2_with fail
        go_roundw
        case rel => exact ⟨k + 1, by omega, by go_num, by rw [← corP_set]; exact HR.out.set k _⟩
        case measure => simp [intOf]; omega
      · obtain rfl : k = zs.length := by omega
        rw [corP_end] at HR
        go_wp2
        go_ret2
        exact ⟨some ⟨G, 0, none⟩, zs.length, by rw [H1.out, H2.out, corL_len]; rfl, by rw [H1.out]; exact ownA_row HR.out (corL_len _ _) HB.out.size, bel_end HB.out HR.out.bel⟩

set_option maxRecDepth 100000 in
set_option maxHeartbeats 2000000 in
theorem scr_any (w : World) (a : Option Addr) (cap : Nat) (zs : List Int) (hl : zs.length ≤ 9223372036854775807) (hz : Ints .i64 w w.heap.size a zs) :
    Calls Try.prog 17 #[.slice a zs.length cap] w fun e w' => ∃ (a' : Option Addr) (c' : Nat), e = .returned (.tuple #[.slice a' (crL zs).length c', .int .i64 (sgC zs)]) ∧ OwnA w' w.heap.size w'.heap.size a' c' (crL zs) ∧ Below w.heap.size w w' := by
  obtain ⟨i0, hi, hz0, hz1, hz2⟩ := info_parts info_i64
  have HZ := Lib.hid hz
  clear hz
  cases hs : sigB zs
  · have H1 : Hid (crL zs = []) := Lib.hid (by unfold crL; rw [hs]; rfl)
    have H2 : Hid (sgC zs = 1) := Lib.hid (by unfold sgC; rw [hs]; rfl)
    go_enter Try.func17, Try.ntmps17
    go_wp2_with (go_at_call 36; refine (ssg_any _ _ _ _ zs hl HZ.out).mono ?_; rw [hs]; rintro e w' ⟨rfl, rfl⟩)
    go_ret2
    exact ⟨none, 0, by rw [H1.out, H2.out]; rfl, by rw [H1.out]; exact ownA_nil _ _ (Nat.le_refl _), Below.refl _ _⟩
  · have H1 : Hid (crL zs = corL zs zs.length) := Lib.hid (by unfold crL; rw [hs]; rfl)
    have H2 : Hid (sgC zs = 0) := Lib.hid (by unfold sgC; rw [hs]; rfl)
    obtain ⟨g4, gs⟩ := sigB_t hs
    have GS := Lib.hid gs
    clear gs
    go_enter Try.func17, Try.ntmps17
    go_wp2_with (go_at_call 36; refine (ssg_any _ _ _ _ zs hl HZ.out).mono ?_; rw [hs]; rintro e w' ⟨rfl, rfl⟩)
    have HR0 := Lib.hid (RowG.lit (w1 := w) (t := 2) (m := 1) (W := w.alloc (.cells #[] 2)) (Bk.new' rfl) (Nat.le_refl _) ((Below.refl _ _).alloc (Nat.le_refl _) _))
    go_loopw [4, 5] (fun v i wr => ∃ (k ge ce : Nat), k ≤ zs.length ∧ v = .slice (some ⟨ge, 0, none⟩) k ce ∧ i = .int .i64 k ∧ RowG w 2 1 ge ce k ((corL zs k).map iv4) wr) (fun _ i _ => zs.length - (intOf i).toNat)
    case atStart => exact ⟨0, w.heap.size, 0, by omega, rfl, rfl, HR0.out⟩
    case round =>
      obtain ⟨k, ge, ce, hk, rfl, rfl, hR⟩ := hrel
      rename_i wr
      have HR := Lib.hid hR
      clear hR HR0
      by_cases hlt : k < zs.length
      · have KK := Lib.hid (l9a_any wr _ a cap k zs hk g4 GS.out (HZ.out.below HR.out.bel))
        have hsn := corL_succ zs k
        obtain ⟨C, hC⟩ : ∃ C, cor zs k = C := ⟨_, rfl⟩
        rw [hC] at KK hsn
        have HSN : Hid ((corL zs k).map iv4 ++ [.int .i64 C] = (corL zs (k + 1)).map iv4) := Lib.hid (by rw [hsn, List.map_append]; rfl)
        clear hC hsn
        go_wp2_with fail
        refine KK.out.mono ?_
        rintro e w2 ⟨rfl, n2, hw2⟩
        have hb : Below wr.heap.size wr w2 := by rw [hw2]; exact below_drewN (Below.refl _ _) _
        replace HR := Lib.hid (HR.out.on hb)
        clear hw2 hb KK
        go_wp2_with (at_builtin; refine wpList_append_lies _ rfl _ _ 24 rfl w.heap.size 2 i0 (.int .i64 0) 1 8 Try.underlying24 hi hz0 hz1 hz2 rfl (by decide) (.slice (some ⟨ge, 0, none⟩) k ce) k ((corL zs k).map iv4) rfl (HR.out.own.alloc _) ⟨w2.heap.size, 0, none⟩ 1 1 [.int .i64 C] rfl rfl (World.news_of_block (cs := #[.int .i64 C]) (t := 2) (fr := (0, 0)) (heap_alloc_new w2 _)) (by simp [Value.oneCell']) (by decide) (by unfold maxLen; omega) (by omega) (by simp; exact Nat.le_succ_of_le HR.out.bel.size) (w2.heap.size + 1) (by simp) ?_; intro g2 cp2 w9 hown hgrow hat hlt9; have HR9 := Lib.hid ((HR.out.on ((Below.refl _ _).alloc (Nat.le_refl _) _)).snoc hown hgrow); clear hown hgrow hat hlt9)
        rw [HSN.out] at HR9
        go_wp2_with fail
        go_roundw
        case rel => exact ⟨k + 1, g2, cp2, by omega, rfl, by go_num, HR9.out⟩
        case measure => simp [intOf]; omega
      · obtain rfl : k = zs.length := by omega
        go_wp2
        go_ret2
        exact ⟨some ⟨ge, 0, none⟩, ce, by rw [H1.out, H2.out, corL_len]; rfl, by rw [H1.out]; exact ownA_row HR.out (corL_len _ _) (Nat.le_refl _), HR.out.bel⟩
end Go.Proofs.Ytpnebnjpeiieaaa
