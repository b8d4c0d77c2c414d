/- The walk of the law FnMatches over drawn data: it returns true and writes nothing that was there. -/
import Derived.Test.YtmofljncnfllcaaPuX
import Derived.Test.YtmofljncnfllcaaMfU
import Derived.Test.YtmofljncnfllcaaDice
import Derived.Test.YtmofljncnfllcaaLys
import Derived.Deep.RegionWith
namespace Go.Proofs.Ytmofljncnfllcaa
open Go.ChangeShapes Go.WideShapes Go.ChangeAt Go.RowKit Go.Shelf Num
set_option linter.unusedVariables false
set_option linter.unusedSimpArgs false
/-- the laws' comparison of a list with itself -/
theorem lkm_any (w : World) (a b : Option Addr) (c d : Nat) (xs : List Int) (hl : xs.length ≤ 1048576) (hx : Ints .i64 w w.heap.size a xs) (hy : Ints .i64 w w.heap.size b xs) :
    Calls Try.prog 29 #[.slice a xs.length c, .slice b xs.length d] w fun e w' => e = .returned (.bool true) ∧ Below w.heap.size w w' :=
  (lki_any w w.heap.size a b c d xs hl hx hy).mono (by rintro e w' ⟨rfl, n, rfl⟩; exact ⟨rfl, bel_drewN (Below.refl _ _) _⟩)
theorem getD_all {L M : List Int} {n : Nat} (hL : L.length = n) (hM : M.length = n) (h : ∀ i, i < n → L.getD i 0 = M.getD i 0) : ∀ i, L.getD i 0 = M.getD i 0 := fun i => by
  by_cases hi : i < n
  · exact h i hi
  · rw [getD_outP (by omega), getD_outP (by omega)]
theorem mtA_add {ss xs ys ps : List Int} (h : ∀ i, ys.getD i 0 = ss.getD i 0 + xs.getD i 0) (k : Nat) : mtA ys ps k = mtA ss ps k + mtA xs ps k := by
  unfold mtA dotT
  rw [← sumT_add]
  apply sumT_congr
  intro i _
  rw [getD_drop, getD_drop, getD_drop, h, Int.mul_add]
theorem sml_sig {A : Int} {L : List Int} (h : smlL A L) (hA : A ≤ 1000) (hl : L.length ≤ 400) : sigB L = true := sigB_mk hl (fun i _ => by have := h i; omega)
theorem mtC_sig {ss ps ys : List Int} (h : mtC ss ps = 0) (hl : ys.length = ss.length) : mtC ys ps = if sigB ys then 0 else 1 := by
  cases hs : sigB ys
  · unfold mtC; rw [hs]; rfl
  · rw [mtC_keep h hs hl]; rfl
theorem mtR_own {ps : List Int} (h : sigB ps = true) (h0 : 0 < ps.length) : mtC ps ps = 0 ∧ mtR ps ps = [cor ps 0] := by
  have e : mtC ps ps = 0 := by unfold mtC; rw [h, decide_eq_false (by omega), decide_eq_false (by omega)]; rfl
  refine ⟨e, ?_⟩
  unfold mtR mtL mtK mtN
  rw [if_pos e, Nat.sub_self]
  show [mtA ps ps 0] = _
  unfold mtA cor
  rw [List.drop_zero, Nat.sub_zero]
/-- two rows of one's own beside dice -/
structure E2 (w5 : World) (B s g1 c1 : Nat) (xs : List Int) (g2 c2 : Nat) (ys : List Int) (W : World) : Prop where
  fst : W.ownsRow B 2 1 (.slice (some ⟨g1, 0, none⟩) xs.length c1) xs.length (xs.map iv4)
  snd : W.ownsRow B 2 1 (.slice (some ⟨g2, 0, none⟩) ys.length c2) ys.length (ys.map iv4)
  n1 : g1 ≠ s
  n2 : g2 ≠ s
  n3 : g1 ≠ g2
  dice : Dice W s
  bel : Below B w5 W
  lo : B ≤ s ∧ s < w5.heap.size
theorem dice_far {W W' : World} {s g : Nat} (h : Dice W s) (hg : W.grownBy W' (some g)) (hne : g ≠ s) (hB : ∀ k, k < s → k ≠ g) : Dice W' s := by
  obtain ⟨a, cap, zs, k, q, hb0, hc, rest⟩ := h
  have hlt := (Array.getElem?_eq_some_iff.1 hb0).1
  exact ⟨a, cap, zs, k, q, (hg.block s hlt (fun e => by injection e with e; exact hne e.symm)).trans hb0, hc.below ⟨hg.os, hg.tape, hg.output, hg.size, fun k hk => hg.block k (by omega) (fun e => by injection e with e; exact hB k hk e)⟩ (Nat.le_refl _), rest⟩
section
variable {w5 W W' : World} {B s g1 c1 g2 c2 : Nat} {xs ys : List Int}
theorem E2.swap (h : E2 w5 B s g1 c1 xs g2 c2 ys W) : E2 w5 B s g2 c2 ys g1 c1 xs W := ⟨h.snd, h.fst, h.n2, h.n1, h.n3.symm, h.dice, h.bel, h.lo⟩
theorem E2.throw (h : E2 w5 B s g1 c1 xs g2 c2 ys W) (hd : Dice W' s) (hg : W.grownBy W' (some s)) : E2 w5 B s g1 c1 xs g2 c2 ys W' :=
  ⟨h.fst.kept hg (Or.inr (by have := h.n1; simp [Value.ownBlock]; omega)), h.snd.kept hg (Or.inr (by have := h.n2; simp [Value.ownBlock]; omega)), h.n1, h.n2, h.n3, hd, h.bel.trans (below_grP hg h.lo.1 (Nat.le_trans (Nat.le_of_lt (Nat.lt_of_le_of_lt h.lo.1 h.lo.2)) h.bel.size)), h.lo⟩
theorem E2.put {w9 : World} {o : Obj} {g' c' : Nat} {x : Int} (h : E2 w5 B s g1 c1 xs g2 c2 ys W) (hs1 : w5.heap.size ≤ g1) (hown : w9.ownsRow B 2 1 (.slice (some ⟨g', 0, none⟩) (xs.length + 1) c') (xs.length + 1) (xs.map iv4 ++ [.int .i64 x]))
    (hg : (W.alloc o).grownBy w9 (some g1)) (hat : (some g1 : Option Nat) = some g' ∨ g' = W.heap.size + 1) : E2 w5 B s g' c' (xs ++ [x]) g2 c2 ys w9 := by
  have hl1 := (h.fst.lt g1 rfl).2
  have hl2 := (h.snd.lt g2 rfl).2
  have hlo := h.lo
  have hsz := h.bel.size
  have hwB : B ≤ W.heap.size := by omega
  have hal : Below W.heap.size W (W.alloc o) := (Below.refl _ W).alloc (Nat.le_refl _) o
  have hd2 : Dice (W.alloc o) s := by
    obtain ⟨a, cap, zs, k, q, hb0, hc, rest⟩ := h.dice
    have hlt := (Array.getElem?_eq_some_iff.1 hb0).1
    exact ⟨a, cap, zs, k, q, (hal.block s hlt).trans hb0, hc.below (hal.mono (by omega)) (Nat.le_refl _), rest⟩
  refine ⟨by simpa [iv4] using hown, (own_bel h.snd hal).kept hg (Or.inr (by have := h.n3; simp [Value.ownBlock]; omega)), ?_, h.n2, ?_, dice_far hd2 hg h.n1 (fun k hk => by omega), (h.bel.trans (hal.mono hwB)).grown hg (by simp; omega) (fun k e => by injection e; omega), h.lo⟩
  · rcases hat with e | e
    · injection e with e; rw [← e]; exact h.n1
    · omega
  · rcases hat with e | e
    · injection e with e; rw [← e]; exact h.n3
    · omega
theorem E2.lit (hd : Dice w5 s) (hB : B ≤ s) (hs : s < w5.heap.size) : E2 w5 B s w5.heap.size 0 [] (w5.heap.size + 1) 0 [] ((w5.alloc (.cells #[] 2)).alloc (.cells #[] 2)) := by
  have hb : Below w5.heap.size w5 ((w5.alloc (.cells #[] 2)).alloc (.cells #[] 2)) := (by repeat (first | exact Below.refl _ _ | (refine Below.alloc ?_ (by simp <;> omega) _) | (refine Below.setCell ?_ (by simp <;> omega) _) | (refine Below.drew ?_) | (refine bel_drewN ?_ _)))
  refine ⟨own_bel (World.ownsRow_lit (base := B) (e := 2) (size := 1) w5 #[] 0 (by omega) (by decide) (by decide)) (by repeat (first | exact Below.refl _ _ | (refine Below.alloc ?_ (by simp <;> omega) _) | (refine Below.setCell ?_ (by simp <;> omega) _) | (refine Below.drew ?_) | (refine bel_drewN ?_ _))), ?_, by omega, by omega, by omega, ?_, hb.mono (by omega), ⟨hB, hs⟩⟩
  · have := World.ownsRow_lit (base := B) (e := 2) (size := 1) (w5.alloc (.cells #[] 2)) #[] 0 (by simp; omega) (by decide) (by decide)
    rwa [World.size_alloc] at this
  · obtain ⟨a, cap, zs, k, q, hb0, hc, rest⟩ := hd
    exact ⟨a, cap, zs, k, q, (hb.block s hs).trans hb0, hc.below (hb.mono (by omega)) (Nat.le_refl _), rest⟩
end
theorem IntL.belowB {w w' : World} {L B : Nat} {a : Option Addr} {zs : List Int} (h : IntL w L a zs) (hb : Below B w w') (hL : L ≤ B) : IntL w' L a zs := ⟨h.at_.below (hb.mono hL), Nat.le_trans h.le hb.size⟩
theorem OwnA.belowB {w w' : World} {lo hi B : Nat} {a : Option Addr} {c : Nat} {zs : List Int} (h : OwnA w lo hi a c zs) (hb : Below B w w') (hL : hi ≤ B) : OwnA w' lo hi a c zs :=
  ⟨own_at h.own (fun g e => hb.block g (Nat.lt_of_lt_of_le (h.lt g e) hL)), h.lt, Nat.le_trans h.up hb.size⟩

set_option maxRecDepth 100000 in
set_option maxHeartbeats 8000000 in
theorem lmtc (a0 : Option Addr) (len0 cap0 : Nat) (z0 : List Int) (w : World) (w0 : IsRow .u8 w a0 len0 cap0 z0) :
    Calls Try.prog 9 #[.slice a0 len0 cap0] w fun e w' => e = .returned (.bool true) ∧ Below w.heap.size w w' := by
  obtain ⟨hlen, hcode⟩ := Code8.of_row w0
  obtain ⟨zs, hzs⟩ : ∃ zs, z0.take len0 = zs := ⟨_, rfl⟩
  rw [hzs] at hlen hcode
  subst hlen
  clear hzs w0
  have HC := Lib.hid hcode
  clear hcode
  have HB := Lib.hid (Below.refl w.heap.size w)
  by_cases hbig : 4096 < zs.length
  · have hd : decide ((4096 : Int) < (zs.length : Int)) = true := by simp; omega
    go_enter Try.func9, Try.ntmps9
    go_wp2_with (go_at_call 27; refine (big_any _ _ _ _).mono ?_; rw [hd]; rintro e w' ⟨rfl, rfl⟩)
    go_ret
    exact ⟨rfl, Below.refl _ _⟩
  · have hd : decide ((4096 : Int) < (zs.length : Int)) = false := by simp; omega
    go_enter Try.func9, Try.ntmps9
    go_wp2_with (go_at_call 27; refine (big_any _ _ _ _).mono ?_; rw [hd]; rintro e w' ⟨rfl, rfl⟩)
    clear hd
    refine (dms_any _ _ _ zs HC.out).mono ?_
    rintro e w1 ⟨sa, sc, sn, pa, pc, pn, ss, ps, rfl, ⟨rfl, rfl⟩, ⟨n0, n1⟩, ⟨k0, k1⟩, hp, hd, hb⟩
    replace HB := Lib.hid (HB.out.trans (hb.mono HB.out.size))
    have q1 := hb.size
    have HS := Lib.hid (IntL.of hp)
    have HP := Lib.hid (IntL.of hd)
    clear hp hd hb
    have l12 := mtR_len ss ps
    obtain ⟨LX, hLX⟩ : ∃ x, mtR ss ps = x := ⟨_, rfl⟩
    obtain ⟨qx, hqx⟩ : ∃ x, mtC ss ps = x := ⟨_, rfl⟩
    rw [hLX] at l12
    have S1 : Hid (∀ (W : World) (a b : Option Addr) (c d : Nat), ss.length ≤ c → Ints .i64 W W.heap.size a ss → Ints .i64 W W.heap.size b ps → Calls Try.prog 11 #[.slice a ss.length c, .slice b ps.length d] W fun e w' => ∃ (a' : Option Addr) (c' : Nat), e = .returned (.tuple #[.slice a' LX.length c', .int .i64 qx]) ∧ OwnA w' W.heap.size w'.heap.size a' c' LX ∧ Below W.heap.size W w') := Lib.hid (fun W a b c d hc h0 h1 => by have := sms_any W a b c d ss ps (by omega) (by omega) h0 h1; rwa [hLX, hqx] at this)
    have S2 : Hid (∀ (W : World) (a b : Option Addr) (c d : Nat), ss.length ≤ c → Ints .i64 W W.heap.size a ss → Ints .i64 W W.heap.size b ps → Calls Try.prog 13 #[.slice a ss.length c, .slice b ps.length d] W fun e w' => ∃ (a' : Option Addr) (c' : Nat), e = .returned (.tuple #[.slice a' LX.length c', .int .i64 qx]) ∧ OwnA w' W.heap.size w'.heap.size a' c' LX ∧ Below W.heap.size W w') := Lib.hid (fun W a b c d hc h0 h1 => by have := ims_any W a b c d ss ps (by omega) (by omega) hc h0 h1; rwa [hLX, hqx] at this)
    have HLX := Lib.hid hLX
    have HQX := Lib.hid hqx
    clear hLX hqx
    go_wp2_with fail
    refine (S2.out _ _ _ _ _ k0 HS.out.ints HP.out.ints).mono ?_
    rintro e w2 ⟨xa, xc, rfl, ho, hb⟩
    replace HS := Lib.hid (HS.out.on hb)
    replace HP := Lib.hid (HP.out.on hb)
    replace HB := Lib.hid (HB.out.trans (hb.mono HB.out.size))
    have q2 := hb.size
    have HX := Lib.hid ho
    clear ho hb
    go_wp2_with fail
    refine (S1.out _ _ _ _ _ k0 HS.out.ints HP.out.ints).mono ?_
    rintro e w3 ⟨ma, mc, rfl, ho, hb⟩
    replace HS := Lib.hid (HS.out.on hb)
    replace HP := Lib.hid (HP.out.on hb)
    replace HX := Lib.hid (HX.out.on hb)
    replace HB := Lib.hid (HB.out.trans (hb.mono HB.out.size))
    have q3 := hb.size
    have HM := Lib.hid ho
    clear ho hb
    go_wp2_with fail
    refine (lkm_any _ _ _ _ _ LX (by omega) HX.out.ints HM.out.ints).mono ?_
    rintro e w4 ⟨rfl, hb⟩
    replace HS := Lib.hid (HS.out.on hb)
    replace HP := Lib.hid (HP.out.on hb)
    replace HX := Lib.hid (HX.out.on hb)
    replace HM := Lib.hid (HM.out.on hb)
    replace HB := Lib.hid (HB.out.trans (hb.mono HB.out.size))
    have q4 := hb.size
    clear hb
    clear S1 S2
    clear HM
    by_cases h0 : qx = 0
    case neg =>
      have hne : (qx != 0) = true := by simpa using h0
      go_wp2
      go_ret
      exact ⟨rfl, HB.out⟩
    case pos =>
      subst h0
      have HMT := Lib.hid HQX.out
      obtain ⟨s1, s2, p0, pl⟩ := mtC_0 HMT.out
      have h4 := (sigB_t s1).1
      have HLn : Hid (LX.length = ss.length - ps.length + 1) := Lib.hid (by rw [← HLX.out]; unfold mtR; rw [if_pos HMT.out, mtL_len])
      have HLe : Hid (LX = mtL ss ps) := Lib.hid (by rw [← HLX.out]; unfold mtR; rw [if_pos HMT.out])
      have HSP := Lib.hid s2
      have HOW := Lib.hid (mtR_own s2 p0)
      clear s1 s2 HQX HLX
      go_wp2_with fail
      refine (roll_any _ _ _ zs _ (HC.out.below HB.out (Nat.le_refl _) |>.more HB.out.size)).mono ?_
      rintro e w5 ⟨s, rfl, hs0, hdice, hb⟩
      replace HS := Lib.hid (HS.out.on hb)
      replace HP := Lib.hid (HP.out.on hb)
      replace HX := Lib.hid (HX.out.on hb)
      replace HB := Lib.hid (HB.out.trans (hb.mono HB.out.size))
      have q5 := hb.size
      have hslt := (Array.getElem?_eq_some_iff.1 (show _ from hdice.choose_spec.choose_spec.choose_spec.choose_spec.choose_spec.1)).1
      have HE0 := Lib.hid (E2.lit hdice hs0 hslt)
      clear hb hdice
      obtain ⟨i0, hi, hz0, hz1, hz2⟩ := info_parts info_i64
      obtain ⟨n, hn⟩ : ∃ n, ss.length = n := ⟨_, rfl⟩
      have HN := Lib.hid hn
      rw [hn] at pl h4 n0 k0
      rw [hn]
      clear hn
      go_upto_region 12 with fail
      obtain ⟨W6, hW6⟩ : ∃ X, X = (w5.alloc (.cells #[] 2)).alloc (.cells #[] 2) := ⟨_, rfl⟩
      obtain ⟨ga, hga⟩ : ∃ g, w5.heap.size = g := ⟨_, rfl⟩
      obtain ⟨gb, hgb⟩ : ∃ g, ga + 1 = g := ⟨_, rfl⟩
      have HGA : Hid (w5.heap.size ≤ ga ∧ w5.heap.size ≤ gb) := Lib.hid ⟨by omega, by omega⟩
      rw [← hW6]
      rw [← hW6, hga, hgb] at HE0
      rw [hga, hgb]
      skip
      clear hW6 hga hgb
      go_wp2_with fail
      go_loopw [10, 11, 12] (fun u v z wr => ∃ (g1 c1 g2 c2 k : Nat) (xs ys : List Int), k ≤ n ∧ u = .slice (some ⟨g1, 0, none⟩) xs.length c1 ∧ v = .slice (some ⟨g2, 0, none⟩) ys.length c2 ∧ z = .int .i64 (k : Int) ∧ E2 w5 w4.heap.size s g1 c1 xs g2 c2 ys wr ∧ (w5.heap.size ≤ g1 ∧ w5.heap.size ≤ g2) ∧ (xs.length = k ∧ ys.length = k) ∧ smlL 4 xs ∧ ∀ i, i < k → ys.getD i 0 = ss.getD i 0 + xs.getD i 0) (fun _ _ z _ => n - (intOf z).toNat)
      case atStart => exact ⟨ga, 0, gb, 0, 0, [], [], Nat.zero_le _, rfl, rfl, rfl, HE0.out, HGA.out, ⟨rfl, rfl⟩, smlL_nil (by decide), fun i hi => absurd hi (Nat.not_lt_zero _)⟩
      case round =>
        obtain ⟨g1, c1, g2, c2, k, xs, ys, hk, rfl, rfl, rfl, hE, hgs, hxl, hsm, hsum⟩ := hrel
        rename_i wr
        have HE := Lib.hid hE
        have HGS := Lib.hid hgs
        have HXL := Lib.hid hxl
        have HSM := Lib.hid hsm
        have HSUM := Lib.hid hsum
        clear hE hgs hxl hsm hsum HE0 HGA
        by_cases hlt : k < n
        case pos =>
          have hx4 : xs.length ≤ 400 := by have := HXL.out; omega
          have hy4 : ys.length ≤ 400 := by have := HXL.out; omega
          go_wp2_with fail
          refine (bel_any _ s 9 (by decide) HE.out.dice).mono ?_
          rintro e wa ⟨v, rfl, v0, v1, hd, hg⟩
          replace HE := Lib.hid (HE.out.throw hd hg)
          clear hd hg
          obtain ⟨x, hx, x1, x2⟩ : ∃ x : Int, v - 4 = x ∧ -4 ≤ x ∧ x ≤ 4 := ⟨v - 4, rfl, by omega, by omega⟩
          have hxw : IntKind.wrap .i64 (v - 4) = x := by rw [← hx]; exact IntWalk.i64_in _ (by omega)
          clear hx
          obtain ⟨bS, oS, rS, -, hcS⟩ := (HS.out.belowB HE.out.bel (by omega)).ints.at_ (j := k) (by rw [HN.out]; exact hlt)
          subst rS
          obtain ⟨u, hu⟩ : ∃ u, ss.getD k 0 = u := ⟨_, rfl⟩
          have hub : -1000 ≤ u ∧ u ≤ 1000 := by rw [← hu]; exact (sigB_t (mtC_0 HMT.out).1).2 k
          obtain ⟨u1, u2⟩ := hub
          rw [hu] at hcS
          have HU := Lib.hid hu
          have HSL := Lib.hid (HS.out.belowB HE.out.bel (by omega)).le
          have hBS : bS < w4.heap.size := by
            obtain ⟨b9, o9, e9, h9, -⟩ := HS.out.at_ (by rw [HN.out]; omega)
            injection e9 with e9; injection e9 with e9; omega
          have huw : IntKind.wrap .i64 (u + x) = u + x := IntWalk.i64_in _ (by omega)
          clear hu
          go_wp2_with (first | (at_builtin; refine wpList_append_lies _ rfl _ _ 22 rfl w4.heap.size 2 i0 (.int .i64 0) 1 8 Try.underlying22 hi hz0 hz1 hz2 rfl (by decide) (.slice (some ⟨g1, 0, none⟩) xs.length c1) xs.length ((xs).map iv4) rfl (HE.out.fst.alloc _) ⟨wa.heap.size, 0, none⟩ 1 1 [.int .i64 (x)] rfl rfl (World.news_of_block (cs := #[.int .i64 (x)]) (t := 2) (fr := (0, 0)) (heap_alloc_new wa _)) (by simp [Value.oneCell']) (by decide) (by unfold maxLen; omega) (by omega) (by simp; have := HE.out.bel.size; omega) (wa.heap.size + 1) (by simp) ?_; intro g3 c3 w9 hown hgrow hat hlt9; have HG1 : Hid (w5.heap.size ≤ g3) := Lib.hid (by rcases hat with e | e; exact (Option.some.inj (show some g1 = some g3 from e)) ▸ HGS.out.1; (have := HE.out.bel.size; omega)); have HE9 := Lib.hid (HE.out.put HGS.out.1 hown hgrow hat); clear hown hgrow hat hlt9; replace hcS := (HE9.out.bel.cell (p := ⟨bS, oS + k, none⟩) hBS).trans ((HE.out.bel.cell (p := ⟨bS, oS + k, none⟩) hBS).symm.trans hcS)) | (at_builtin; refine wpList_append_lies _ rfl _ _ 22 rfl w4.heap.size 2 i0 (.int .i64 0) 1 8 Try.underlying22 hi hz0 hz1 hz2 rfl (by decide) (.slice (some ⟨g2, 0, none⟩) ys.length c2) ys.length ((ys).map iv4) rfl (HE9.out.snd.alloc _) ⟨w9.heap.size, 0, none⟩ 1 1 [.int .i64 (u + x)] rfl rfl (World.news_of_block (cs := #[.int .i64 (u + x)]) (t := 2) (fr := (0, 0)) (heap_alloc_new w9 _)) (by simp [Value.oneCell']) (by decide) (by unfold maxLen; omega) (by omega) (by simp; have := HE9.out.bel.size; omega) (w9.heap.size + 1) (by simp) ?_; intro g4 c4 w10 hown hgrow hat hlt9; have HG2 : Hid (w5.heap.size ≤ g4) := Lib.hid (by rcases hat with e | e; exact (Option.some.inj (show some g2 = some g4 from e)) ▸ HGS.out.2; (have := HE9.out.bel.size; omega)); have HE8 := Lib.hid (HE9.out.swap.put HGS.out.2 hown hgrow hat); clear hown hgrow hat hlt9))
          go_roundw
          case rel => exact ⟨g3, c3, g4, c4, k + 1, xs ++ [x], ys ++ [u + x], by omega, by rw [List.length_append]; rfl, by rw [List.length_append]; rfl, by go_num, HE8.out.swap, ⟨HG1.out, HG2.out⟩, ⟨by rw [List.length_append, HXL.out.1]; rfl, by rw [List.length_append, HXL.out.2]; rfl⟩, smlL_snoc (by decide) HSM.out ⟨x1, x2⟩, fun i hi => by
            rw [getD_snoc, getD_snoc, HXL.out.1, HXL.out.2]
            by_cases h : i < k
            · rw [if_pos h, if_pos h]; exact HSUM.out i h
            · obtain rfl : i = k := by omega
              rw [if_neg h, if_neg h, if_pos rfl, if_pos rfl, HU.out]⟩
          case measure => simp [intOf]; omega
        case neg =>
          obtain rfl : k = n := by omega
          replace HS := Lib.hid (HS.out.belowB HE.out.bel (by omega))
          replace HP := Lib.hid (HP.out.belowB HE.out.bel (by omega))
          replace HX := Lib.hid (HX.out.belowB HE.out.bel (by omega))
          replace HB := Lib.hid (HB.out.trans (HE.out.bel.mono (by omega)))
          have qe := HE.out.bel.size
          have HA : Hid (OwnA wr w4.heap.size wr.heap.size (some ⟨g1, 0, none⟩) c1 xs) := Lib.hid ⟨HE.out.fst, fun g e => (HE.out.fst.lt g e).2, Nat.le_refl _⟩
          have HD : Hid (OwnA wr w4.heap.size wr.heap.size (some ⟨g2, 0, none⟩) c2 ys) := Lib.hid ⟨HE.out.snd, fun g e => (HE.out.snd.lt g e).2, Nat.le_refl _⟩
          have hsx := sml_sig HSM.out (by decide) (by rw [HXL.out.1]; omega)
          have hall : ∀ i, ys.getD i 0 = ss.getD i 0 + xs.getD i 0 := fun i => by
            by_cases hi : i < k
            · exact HSUM.out i hi
            · rw [getD_outP (by rw [HXL.out.2]; exact hi), getD_outP (by rw [HN.out]; exact hi), getD_outP (by rw [HXL.out.1]; exact hi)]; rfl
          have hcx : mtC xs ps = 0 := by rw [mtC_sig HMT.out (by rw [HXL.out.1, HN.out]), hsx]; rfl
          have hcy := mtC_sig HMT.out (ys := ys) (by rw [HXL.out.2, HN.out])
          have hLY : mtR xs ps = mtL xs ps := by unfold mtR; rw [if_pos hcx]
          have HLYn : Hid ((mtR xs ps).length = LX.length) := Lib.hid (by rw [hLY, mtL_len, HLn.out, HXL.out.1, HN.out])
          have HADD : Hid (mtC ys ps = 0 → (mtR ys ps).length = LX.length ∧ ∀ i, i < LX.length → (mtR ys ps).getD i 0 = LX.getD i 0 + (mtR xs ps).getD i 0) := Lib.hid (fun h => by
            have e : mtR ys ps = mtL ys ps := by unfold mtR; rw [if_pos h]
            have hN1 : mtN ys ps = mtN ss ps := by unfold mtN; rw [HXL.out.2, HN.out]
            have hN2 : mtN xs ps = mtN ss ps := by unfold mtN; rw [HXL.out.1, HN.out]
            have hLl : LX.length = mtN ss ps := by rw [HLe.out]; exact mtK_len _ _ _
            refine ⟨by rw [e, hLl, ← hN1]; exact mtK_len _ _ _, fun i hi => ?_⟩
            rw [hLl] at hi
            rw [e, hLY, HLe.out]
            unfold mtL
            rw [hN1, hN2, mtK_at _ _ hi, mtK_at _ _ hi, mtK_at _ _ hi]
            exact mtA_add hall i)
          have HBX : Hid (∀ i, -400000000 ≤ LX.getD i 0 ∧ LX.getD i 0 ≤ 400000000) := Lib.hid (fun i => by rw [HLe.out]; exact mtK_sml (sigB_t (mtC_0 HMT.out).1).2 (sigB_t HSP.out).2 (sigB_t HSP.out).1 _ i)
          have HBY : Hid (∀ i, -400000000 ≤ (mtR xs ps).getD i 0 ∧ (mtR xs ps).getD i 0 ≤ 400000000) := Lib.hid (fun i => by rw [hLY]; exact mtK_sml (sigB_t hsx).2 (sigB_t HSP.out).2 (sigB_t HSP.out).1 _ i)
          have HCX := Lib.hid hcx
          have HCY := Lib.hid hcy
          have HX1 := Lib.hid HXL.out.1
          have HX2 := Lib.hid HXL.out.2
          have l13 := mtR_len xs ps
          have l14 := mtR_len ys ps
          have lxk : xs.length ≤ 400 := by rw [HX1.out]; omega
          have lyk : ys.length ≤ 400 := by rw [HX2.out]; omega
          clear hsx hall hcx hcy hLY HSM HSUM HE HGS HXL hlt
          obtain ⟨LY, hLY⟩ : ∃ x, mtR xs ps = x := ⟨_, rfl⟩
          obtain ⟨LZ, hLZ⟩ : ∃ x, mtR ys ps = x := ⟨_, rfl⟩
          obtain ⟨qz, hqz⟩ : ∃ x, mtC ys ps = x := ⟨_, rfl⟩
          obtain ⟨E, hE⟩ : ∃ x, cor ps 0 = x := ⟨_, rfl⟩
          rw [hLY] at l13 HLYn HADD HBY
          rw [hLZ] at l14 HADD
          rw [hqz] at HADD HCY
          have S3 : Hid (∀ (W : World) (a b : Option Addr) (c d : Nat), xs.length ≤ c → Ints .i64 W W.heap.size a xs → Ints .i64 W W.heap.size b ps → Calls Try.prog 11 #[.slice a xs.length c, .slice b ps.length d] W fun e w' => ∃ (a' : Option Addr) (c' : Nat), e = .returned (.tuple #[.slice a' LY.length c', .int .i64 0]) ∧ OwnA w' W.heap.size w'.heap.size a' c' LY ∧ Below W.heap.size W w') := Lib.hid (fun W a b c d hc h0 h1 => by have := sms_any W a b c d xs ps (by omega) (by omega) h0 h1; rwa [hLY, HCX.out] at this)
          have S4 : Hid (∀ (W : World) (a b : Option Addr) (c d : Nat), xs.length ≤ c → Ints .i64 W W.heap.size a xs → Ints .i64 W W.heap.size b ps → Calls Try.prog 13 #[.slice a xs.length c, .slice b ps.length d] W fun e w' => ∃ (a' : Option Addr) (c' : Nat), e = .returned (.tuple #[.slice a' LY.length c', .int .i64 0]) ∧ OwnA w' W.heap.size w'.heap.size a' c' LY ∧ Below W.heap.size W w') := Lib.hid (fun W a b c d hc h0 h1 => by have := ims_any W a b c d xs ps (by omega) (by omega) hc h0 h1; rwa [hLY, HCX.out] at this)
          have S5 : Hid (∀ (W : World) (a b : Option Addr) (c d : Nat), ys.length ≤ c → Ints .i64 W W.heap.size a ys → Ints .i64 W W.heap.size b ps → Calls Try.prog 11 #[.slice a ys.length c, .slice b ps.length d] W fun e w' => ∃ (a' : Option Addr) (c' : Nat), e = .returned (.tuple #[.slice a' LZ.length c', .int .i64 qz]) ∧ OwnA w' W.heap.size w'.heap.size a' c' LZ ∧ Below W.heap.size W w') := Lib.hid (fun W a b c d hc h0 h1 => by have := sms_any W a b c d ys ps (by omega) (by omega) h0 h1; rwa [hLZ, hqz] at this)
          have S6 : Hid (∀ (W : World) (a b : Option Addr) (c d : Nat), ys.length ≤ c → Ints .i64 W W.heap.size a ys → Ints .i64 W W.heap.size b ps → Calls Try.prog 13 #[.slice a ys.length c, .slice b ps.length d] W fun e w' => ∃ (a' : Option Addr) (c' : Nat), e = .returned (.tuple #[.slice a' LZ.length c', .int .i64 qz]) ∧ OwnA w' W.heap.size w'.heap.size a' c' LZ ∧ Below W.heap.size W w') := Lib.hid (fun W a b c d hc h0 h1 => by have := ims_any W a b c d ys ps (by omega) (by omega) hc h0 h1; rwa [hLZ, hqz] at this)
          have S7 : Hid (∀ (W : World) (a b : Option Addr) (c d : Nat), ps.length ≤ c → Ints .i64 W W.heap.size a ps → Ints .i64 W W.heap.size b ps → Calls Try.prog 13 #[.slice a ps.length c, .slice b ps.length d] W fun e w' => ∃ (a' : Option Addr) (c' : Nat), e = .returned (.tuple #[.slice a' [E].length c', .int .i64 0]) ∧ OwnA w' W.heap.size w'.heap.size a' c' [E] ∧ Below W.heap.size W w') := Lib.hid (fun W a b c d hc h0 h1 => by have := ims_any W a b c d ps ps (by omega) (by omega) hc h0 h1; rwa [HOW.out.1, HOW.out.2, hE] at this)
          have KE : Hid (∀ (W : World) (a : Option Addr) (c : Nat), ps.length ≤ c → Ints .i64 W W.heap.size a ps → Calls Try.prog 32 #[.slice a ps.length c] W fun e w' => e = .returned (.tuple #[.int .i64 E, .int .i64 0]) ∧ Below W.heap.size W w') := Lib.hid (fun W a c hc hz => by have := ien_any W a c ps (by omega) hc hz; unfold enV sgC at this; rwa [HSP.out, if_pos rfl, if_pos rfl, hE] at this)
          clear hLY hLZ hqz hE
          go_wp2_with fail
          refine (S4.out _ _ _ _ _ (ownA_cap HA.out) HA.out.ints HP.out.ints).mono ?_
          rintro e w16 ⟨ya, yc, rfl, ho, hb⟩
          replace HS := Lib.hid (HS.out.on hb)
          replace HP := Lib.hid (HP.out.on hb)
          replace HX := Lib.hid (HX.out.on hb)
          replace HA := Lib.hid (HA.out.on hb)
          replace HD := Lib.hid (HD.out.on hb)
          replace HB := Lib.hid (HB.out.trans (hb.mono HB.out.size))
          have q16 := hb.size
          have HY := Lib.hid ho
          clear ho hb
          go_wp2_with fail
          refine (S3.out _ _ _ _ _ (ownA_cap HA.out) HA.out.ints HP.out.ints).mono ?_
          rintro e w17 ⟨yoa, yoc, rfl, ho, hb⟩
          replace HS := Lib.hid (HS.out.on hb)
          replace HP := Lib.hid (HP.out.on hb)
          replace HX := Lib.hid (HX.out.on hb)
          replace HA := Lib.hid (HA.out.on hb)
          replace HD := Lib.hid (HD.out.on hb)
          replace HY := Lib.hid (HY.out.on hb)
          replace HB := Lib.hid (HB.out.trans (hb.mono HB.out.size))
          have q17 := hb.size
          have HYo := Lib.hid ho
          clear ho hb
          go_wp2_with fail
          refine (lkm_any _ _ _ _ _ LY (by omega) HY.out.ints HYo.out.ints).mono ?_
          rintro e w18 ⟨rfl, hb⟩
          replace HS := Lib.hid (HS.out.on hb)
          replace HP := Lib.hid (HP.out.on hb)
          replace HX := Lib.hid (HX.out.on hb)
          replace HA := Lib.hid (HA.out.on hb)
          replace HD := Lib.hid (HD.out.on hb)
          replace HY := Lib.hid (HY.out.on hb)
          replace HYo := Lib.hid (HYo.out.on hb)
          replace HB := Lib.hid (HB.out.trans (hb.mono HB.out.size))
          have q18 := hb.size
          clear hb
          go_wp2_with fail
          refine (S6.out _ _ _ _ _ (ownA_cap HD.out) HD.out.ints HP.out.ints).mono ?_
          rintro e w19 ⟨za, zc, rfl, ho, hb⟩
          replace HS := Lib.hid (HS.out.on hb)
          replace HP := Lib.hid (HP.out.on hb)
          replace HX := Lib.hid (HX.out.on hb)
          replace HA := Lib.hid (HA.out.on hb)
          replace HD := Lib.hid (HD.out.on hb)
          replace HY := Lib.hid (HY.out.on hb)
          replace HYo := Lib.hid (HYo.out.on hb)
          replace HB := Lib.hid (HB.out.trans (hb.mono HB.out.size))
          have q19 := hb.size
          have HZ := Lib.hid ho
          clear ho hb
          go_wp2_with fail
          refine (S5.out _ _ _ _ _ (ownA_cap HD.out) HD.out.ints HP.out.ints).mono ?_
          rintro e w20 ⟨zoa, zoc, rfl, ho, hb⟩
          replace HS := Lib.hid (HS.out.on hb)
          replace HP := Lib.hid (HP.out.on hb)
          replace HX := Lib.hid (HX.out.on hb)
          replace HA := Lib.hid (HA.out.on hb)
          replace HD := Lib.hid (HD.out.on hb)
          replace HY := Lib.hid (HY.out.on hb)
          replace HYo := Lib.hid (HYo.out.on hb)
          replace HZ := Lib.hid (HZ.out.on hb)
          replace HB := Lib.hid (HB.out.trans (hb.mono HB.out.size))
          have q20 := hb.size
          have HZo := Lib.hid ho
          clear ho hb
          go_wp2_with fail
          refine (lkm_any _ _ _ _ _ LZ (by omega) HZ.out.ints HZo.out.ints).mono ?_
          rintro e w21 ⟨rfl, hb⟩
          replace HS := Lib.hid (HS.out.on hb)
          replace HP := Lib.hid (HP.out.on hb)
          replace HX := Lib.hid (HX.out.on hb)
          replace HA := Lib.hid (HA.out.on hb)
          replace HD := Lib.hid (HD.out.on hb)
          replace HY := Lib.hid (HY.out.on hb)
          replace HYo := Lib.hid (HYo.out.on hb)
          replace HZ := Lib.hid (HZ.out.on hb)
          replace HZo := Lib.hid (HZo.out.on hb)
          replace HB := Lib.hid (HB.out.trans (hb.mono HB.out.size))
          have q21 := hb.size
          clear hb
          go_wp2_with fail
          refine (S7.out _ _ _ _ _ k1 HP.out.ints HP.out.ints).mono ?_
          rintro e w22 ⟨oa, oc, rfl, ho, hb⟩
          replace HS := Lib.hid (HS.out.on hb)
          replace HP := Lib.hid (HP.out.on hb)
          replace HX := Lib.hid (HX.out.on hb)
          replace HA := Lib.hid (HA.out.on hb)
          replace HD := Lib.hid (HD.out.on hb)
          replace HY := Lib.hid (HY.out.on hb)
          replace HYo := Lib.hid (HYo.out.on hb)
          replace HZ := Lib.hid (HZ.out.on hb)
          replace HZo := Lib.hid (HZo.out.on hb)
          replace HB := Lib.hid (HB.out.trans (hb.mono HB.out.size))
          have q22 := hb.size
          have HO := Lib.hid ho
          clear ho hb
          go_wp2_with fail
          refine (KE.out _ _ _ k1 HP.out.ints).mono ?_
          rintro e w23 ⟨rfl, hb⟩
          replace HS := Lib.hid (HS.out.on hb)
          replace HP := Lib.hid (HP.out.on hb)
          replace HX := Lib.hid (HX.out.on hb)
          replace HA := Lib.hid (HA.out.on hb)
          replace HD := Lib.hid (HD.out.on hb)
          replace HY := Lib.hid (HY.out.on hb)
          replace HYo := Lib.hid (HYo.out.on hb)
          replace HZ := Lib.hid (HZ.out.on hb)
          replace HZo := Lib.hid (HZo.out.on hb)
          replace HO := Lib.hid (HO.out.on hb)
          replace HB := Lib.hid (HB.out.trans (hb.mono HB.out.size))
          have q23 := hb.size
          clear hb
          obtain ⟨W, hW⟩ : ∃ X, X = w23.alloc (.cells #[.int .i64 E] 2) := ⟨_, rfl⟩
          have hWI : Ints .i64 W W.heap.size (some ⟨w23.heap.size, 0, none⟩) [E] := by rw [hW]; exact ints_one w23 E
          have hbW : Below w23.heap.size w23 W := by rw [hW]; exact (by repeat (first | exact Below.refl _ _ | (refine Below.alloc ?_ (by simp <;> omega) _) | (refine Below.setCell ?_ (by simp <;> omega) _) | (refine Below.drew ?_) | (refine bel_drewN ?_ _)))
          replace HD := Lib.hid (HD.out.on hbW)
          replace HX := Lib.hid (HX.out.on hbW)
          replace HY := Lib.hid (HY.out.on hbW)
          replace HZ := Lib.hid (HZ.out.on hbW)
          replace HO := Lib.hid (HO.out.on hbW)
          replace HB := Lib.hid (HB.out.trans (hbW.mono HB.out.size))
          have qw := hbW.size
          have HWI := Lib.hid hWI
          have e1 : IntKind.wrap .i64 ((k : Int) - (ps.length : Int)) = (k : Int) - (ps.length : Int) := IntWalk.i64_in _ (by omega)
          have e2 : IntKind.wrap .i64 ((k : Int) - (ps.length : Int) + 1) = (LX.length : Int) := by rw [show (k : Int) - (ps.length : Int) + 1 = (LX.length : Int) by rw [HLn.out, HN.out]; omega]; exact IntWalk.i64_in _ (by omega)
          have hl2 : ((LY.length : Int) != (LX.length : Int)) = false := by rw [HLYn.out]; simp
          clear hWI hbW
          go_wp2_with (go_at_call 29; rw [← hW]; refine (lkm_any W _ _ _ _ [E] (by simp) HO.out.ints HWI.out).mono ?_; rintro e wv ⟨rfl, hb⟩; replace HD := Lib.hid (HD.out.on hb); replace HX := Lib.hid (HX.out.on hb); replace HY := Lib.hid (HY.out.on hb); replace HZ := Lib.hid (HZ.out.on hb); replace HB := Lib.hid (HB.out.trans (hb.mono HB.out.size)); clear hb)
          clear S3 S4 S5 S6 S7 KE e1 e2 hl2 hW qw HWI HO HS HP HA
          by_cases hq : qz = 0
          case pos =>
            subst hq
            obtain ⟨hzl, hzs⟩ := HADD.out rfl
            have HZS := Lib.hid hzs
            have HZL := Lib.hid hzl
            have HXi := Lib.hid HX.out.ints
            have HYi := Lib.hid HY.out.ints
            have HZi := Lib.hid HZ.out.ints
            clear hzs hzl HADD HCY
            go_loopw [26] (fun z wr => ∃ i : Nat, i ≤ LX.length ∧ z = .int .i64 (i : Int) ∧ Below wv.heap.size wv wr) (fun z _ => LX.length - (intOf z).toNat)
            case atStart => exact ⟨0, Nat.zero_le _, rfl, Below.refl _ _⟩
            case round =>
              obtain ⟨i, hi2, rfl, hbw⟩ := hrel
              have HBW := Lib.hid hbw
              clear hbw
              by_cases hlt : i < LX.length
              case pos =>
                obtain ⟨bx, ox, rx, -, cx⟩ := (HXi.out.below HBW.out).at_ (j := i) hlt
                obtain ⟨by_, oy, ry, -, cy⟩ := (HYi.out.below HBW.out).at_ (j := i) (by rw [HLYn.out]; exact hlt)
                obtain ⟨bz, oz, rz, -, cz⟩ := (HZi.out.below HBW.out).at_ (j := i) (by rw [HZL.out]; exact hlt)
                subst rx ry rz
                have hs := HZS.out i hlt
                obtain ⟨bx1, bx2⟩ := HBX.out i
                obtain ⟨by1, by2⟩ := HBY.out i
                obtain ⟨X, hX⟩ : ∃ x, LX.getD i 0 = x := ⟨_, rfl⟩
                obtain ⟨Y, hY⟩ : ∃ x, LY.getD i 0 = x := ⟨_, rfl⟩
                rw [hs] at cz
                rw [hX] at cx cz bx1 bx2
                rw [hY] at cy cz by1 by2
                have exy : IntKind.wrap .i64 (X + Y) = X + Y := IntWalk.i64_in _ (by omega)
                have hzx : ((LZ.length : Int) != (LX.length : Int)) = false := by rw [HZL.out]; simp
                have hly : i < LY.length := by rw [HLYn.out]; exact hlt
                have hlz : i < LZ.length := by rw [HZL.out]; exact hlt
                have hxx : ((X + Y) != (X + Y)) = false := by simp
                clear hs hX hY
                go_wp2_with fail
                go_quiet (fail)
                go_wp2_with fail
                go_roundw
                case rel => exact ⟨i + 1, by omega, by go_num, bel_end HBW.out (below_drewN (Below.refl _ _) _)⟩
                case measure => simp [intOf]; omega
              case neg =>
                have HBE := Lib.hid (HB.out.trans (HBW.out.mono HB.out.size))
                go_wp2
                go_ret
                exact ⟨rfl, HBE.out⟩
          case neg =>
            have hqb : (qz == 0) = false := by simpa using hq
            have hys : sigB ys = false := by
              cases h : sigB ys
              · rfl
              · rw [h] at HCY; exact absurd HCY hq
            go_loopw [26] (fun z wr => z = .int .i64 0 ∧ wr = wv) (fun _ _ => 0)
            case atStart => exact ⟨rfl, rfl⟩
            case round =>
              obtain ⟨rfl, rfl⟩ := hrel
              go_wp2_with fail
              refine (isg_any _ _ _ ys (by omega) HD.out.ints).mono ?_
              rw [hys]
              rintro e w9 ⟨rfl, hb⟩
              have HBE := Lib.hid (HB.out.trans (hb.mono HB.out.size))
              clear hb
              go_wp2
              go_ret
              exact ⟨rfl, HBE.out⟩
end Go.Proofs.Ytmofljncnfllcaa
