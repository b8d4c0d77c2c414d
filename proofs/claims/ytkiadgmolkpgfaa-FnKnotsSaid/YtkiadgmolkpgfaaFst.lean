/- Contracts of FastestTo, the program's and the model's. -/
import Derived.Test.YtkiadgmolkpgfaaAxs
namespace Go.Proofs.Ytkiadgmolkpgfaa
open Go.ChangeShapes Go.WideShapes Go.ChangeAt Go.RowKit Go.Shelf Num
set_option linter.unusedVariables false
attribute [local go_sem] Oper.semAt_some
/-- the greatest speed of the knots pre, from a beginning -/
def mxF (ys : List Int) (pre : List Nat) : Int := pre.foldl (fun m k => if m < ys.getD k 0 then ys.getD k 0 else m) (ys.getD 0 0)
theorem mxF_snoc (ys : List Int) (pre : List Nat) (x : Nat) : mxF ys (pre ++ [x]) = if mxF ys pre < ys.getD x 0 then ys.getD x 0 else mxF ys pre := by simp [mxF]
theorem mxF_ge (ys : List Int) : ∀ n, ∀ j, j < n → ys.getD j 0 ≤ mxF ys (List.range n)
  | 0 => fun j h => by omega
  | n + 1 => fun j h => by
    rw [List.range_succ, mxF_snoc]
    have ih := mxF_ge ys n
    rcases Nat.lt_or_ge j n with hj | hj
    · have := ih j hj
      split <;> omega
    · obtain rfl : j = n := by omega
      split <;> omega
/-- the model's: from 0 -/
def mxS (ys : List Int) (k : Nat) : Int := if k = 0 then 0 else mxF ys (List.range k)
theorem mxS_succ {ys : List Int} (h0 : 0 < ys.getD 0 0) (k : Nat) : mxS ys (k + 1) = if mxS ys k < ys.getD k 0 then ys.getD k 0 else mxS ys k := by
  unfold mxS
  rw [if_neg (by omega), List.range_succ, mxF_snoc]
  by_cases hk : k = 0
  · subst hk
    rw [if_pos rfl, if_pos h0]
    show (if ys.getD 0 0 < ys.getD 0 0 then ys.getD 0 0 else ys.getD 0 0) = _
    rw [if_neg (by omega)]
  · rw [if_neg hk]
/-- the greatest speed down to a knot, 0 where there is none -/
def fsV (zs ys : List Int) (x : Int) : Int := if prfB zs ys && hkB zs x then mxF ys (List.range (x.toNat + 1)) else 0
theorem fsV_t {zs ys : List Int} {k : Nat} (h : prfB zs ys = true) (g : hkB zs (k : Int) = true) : fsV zs ys (k : Int) = mxF ys (List.range (k + 1)) := by unfold fsV; rw [h, g]; rfl
theorem fsV_f {zs ys : List Int} {x : Int} (h : prfB zs ys = false) : fsV zs ys x = 0 := by unfold fsV; rw [h]; rfl
theorem fsV_g {zs ys : List Int} {x : Int} (g : hkB zs x = false) : fsV zs ys x = 0 := by unfold fsV; rw [g, Bool.and_false]; rfl
/-- a break at the first knot beyond k -/
theorem cut_at {pre : List Nat} {x j k : Nat} (h : pre ++ [x] = List.range j) (hx : k < x) (hp : ∀ y ∈ pre, y ≤ k) : pre = List.range (k + 1) := by
  cases j with
  | zero => simp at h
  | succ j =>
    rw [List.range_succ] at h
    obtain ⟨h1, h2⟩ := List.append_inj' h rfl
    simp only [List.cons.injEq, and_true] at h2
    subst h2
    subst h1
    have : x = k + 1 := by
      rcases Nat.lt_or_ge (k + 1) x with hlt | hge
      · have := hp (k + 1) (List.mem_range.2 hlt); omega
      · omega
    rw [this]

set_option maxRecDepth 100000 in
set_option maxHeartbeats 4000000 in
theorem ifs_ok (w : World) (a b : Option Addr) (c d : Nat) (zs ys : List Int) (kn : Nat) (hp : Prof w w.heap.size a b zs ys) (hv : prfB zs ys = true) (hh : hkB zs (kn : Int) = true) :
    Calls Try.prog 25 #[.agg #[.slice a zs.length c, .slice b ys.length d], .int .i64 (kn : Int)] w fun e w' => e = .returned (.tuple #[.int .i64 (mxF ys (List.range (kn + 1))), .int .i64 0]) ∧ Below w.heap.size w w' := by
  have lz := hp.lz
  have ly := hp.ly
  have HO := Lib.hid (Okp.of hv)
  have hkn : kn < zs.length := by have := (hkB_t hh).2; omega
  have hy0 : 0 < ys.length := by rw [HO.out.len]; have := HO.out.n2; omega
  obtain ⟨b1, o1, rfl, hB1, h1⟩ := hp.sy.at_ hy0
  rw [Nat.add_zero] at h1
  obtain ⟨q0, hq0⟩ : ∃ q, ys.getD 0 0 = q := ⟨_, rfl⟩
  rw [hq0] at h1
  have HQ := Lib.hid hq0
  have HP := Lib.hid hp
  have HV := Lib.hid hv
  have HH := Lib.hid hh
  clear hp hv hq0 hh
  refine (callsIn_wide (n := 6)).1 ?_
  refine callsIn_of_wp_marks Try.func25 rfl trivial ?_ rfl
  simp only [Try.ntmps25, List.size_toArray, List.length_cons, List.length_nil, Nat.reduceAdd, Nat.reduceSub, Array.replicate_succ, Array.replicate_zero, List.push_toArray, List.append_toArray, List.nil_append, List.cons_append]
  gi_wp2_with fail
  obtain ⟨W, hW⟩ : ∃ W, W = (w.alloc (.cells #[.slice a zs.length c, .slice (some ⟨b1, o1, none⟩) ys.length d] 26)).alloc (.cells #[.int .i64 (kn : Int)] 2) := ⟨_, rfl⟩
  have bP : Bk W w.heap.size #[.slice a zs.length c, .slice (some ⟨b1, o1, none⟩) ys.length d] 26 := by rw [hW]; exact (Bk.new' rfl).alloc _
  have bD : Bk W (w.heap.size + 1) #[.int .i64 (kn : Int)] 2 := by rw [hW]; exact Bk.new' (by simp)
  have HB : Hid (Below w.heap.size w W) := Lib.hid (by rw [hW]; exact (by repeat (first | exact Below.refl _ _ | (refine Below.alloc ?_ (by simp <;> omega) _) | (refine Below.setCell ?_ (by simp <;> omega) _) | (refine Below.drew ?_) | (refine bel_drewN ?_ _))))
  rw [← hW]
  clear hW
  refine ⟨trivial, (callsIn_wide.2 (eok_any _ _ _ _ _ zs ys _ (HP.out.on HB.out))).mono ?_⟩
  rw [HV.out, HH.out, show cdT true true = 0 from rfl]
  rintro e w1 ⟨rfl, hb⟩
  replace bP := bP.on hb
  replace bD := bD.on hb
  replace HB := Lib.hid (bel_end HB.out hb)
  replace h1 := kc1 h1 HB.out
  clear hb
  have c0 := bP.cell 0 rfl
  have c1 := bP.cell 1 rfl
  have p0 := bP.lt
  gi_wp2_with fail
  obtain ⟨w2, hW⟩ : ∃ W, W = w1.alloc (.cells #[.int .i64 q0] 2) := ⟨_, rfl⟩
  have hb : Below w1.heap.size w1 w2 := by rw [hW]; exact (by repeat (first | exact Below.refl _ _ | (refine Below.alloc ?_ (by simp <;> omega) _) | (refine Below.setCell ?_ (by simp <;> omega) _) | (refine Below.drew ?_) | (refine bel_drewN ?_ _)))
  have bG : Bk w2 w1.heap.size #[.int .i64 q0] 2 := by rw [hW]; exact Bk.new' rfl
  have hG : w.heap.size + 1 < w1.heap.size := bD.lt
  have hs2 : w2.heap.size = w1.heap.size + 1 := by rw [hW]; simp
  replace bP := bP.on hb
  replace bD := bD.on hb
  replace HB := Lib.hid (bel_end HB.out hb)
  rw [← hW]
  clear hW hb
  refine ⟨trivial, (callsIn_wide.2 (kns_any _ _ _ _ _ _ _)).mono ?_⟩
  rintro e w3 ⟨rfl, rfl⟩
  obtain ⟨W0, hW⟩ : ∃ W0, W0 = w2.alloc (.cells #[.slice a zs.length c, .slice (some ⟨b1, o1, none⟩) ys.length d] 26) := ⟨_, rfl⟩
  have hb : Below w2.heap.size w2 W0 := by rw [hW]; exact (by repeat (first | exact Below.refl _ _ | (refine Below.alloc ?_ (by simp <;> omega) _) | (refine Below.setCell ?_ (by simp <;> omega) _) | (refine Below.drew ?_) | (refine bel_drewN ?_ _)))
  have bQ : Bk W0 w2.heap.size #[.slice a zs.length c, .slice (some ⟨b1, o1, none⟩) ys.length d] 26 := by rw [hW]; exact Bk.new' rfl
  replace bG := bG.on hb
  replace bD := bD.on hb
  replace HB := Lib.hid (bel_end HB.out hb)
  have hsz : W0.heap.size = w2.heap.size + 1 := by rw [hW]; simp
  have hB0 := HB.out
  gi_wp2_with fail
  rw [← hW]
  clear hW hb c0 c1
  rw [hs2] at bQ hsz
  refine wpIn_rangeFunc_ownH rfl (by omega) (gf := 74) (lb := #[.pointer (some ⟨w1.heap.size + 1, 0, none⟩)]) rfl trivial (enters_of Try.func74 (by kernel_rfl) rfl)
    (kns_stops 5 (by omega) (w1.heap.size + 1) w.heap.size a (some ⟨b1, o1, none⟩) c d zs ys HO.out.len W0 (by omega) (by omega) (bQ.cell 0 rfl) (bQ.cell 1 rfl) (HP.out.below hB0)) kpB_t (kpB_b (by omega) (by omega)) (Below.refl _ _) (fun _ => rfl)
    (fun pre W => ((∀ y ∈ pre, y ≤ kn) ∧ Bk W w1.heap.size #[.int .i64 (mxF ys pre)] 2 ∧ Bk W (w.heap.size + 1) #[.int .i64 (kn : Int)] 2 ∧ Bk W (w1.heap.size + 1) #[.slice a zs.length c, .slice (some ⟨b1, o1, none⟩) ys.length d] 26) ∧ Below w.heap.size w W)
    (fun cc pre W => (cc = .exit 0 ∧ ∃ pre' x, pre = pre' ++ [x] ∧ kn < x ∧ (∀ y ∈ pre', y ≤ kn) ∧ Bk W w1.heap.size #[.int .i64 (mxF ys pre')] 2) ∧ Below w.heap.size w W)
    (OwnFrom.and (OwnFrom.and (ownFrom_pure _ _) (OwnFrom.and (Own.from (Bk.own _ _ _) _) (OwnFrom.and (Own.from (Bk.own _ _ _) _) (Own.from (Bk.own _ _ _) _)))) (ownFrom_below (Nat.le_refl _) (by omega)))
    (fun cc => OwnFrom.and (fun pre A B row hs hg hr => by
      obtain ⟨h1, pre', x, h2, h3, h4, h5⟩ := hs
      exact ⟨h1, pre', x, h2, h3, h4, Bk.own w1.heap.size (fun (_ : Unit) => #[.int .i64 (mxF ys pre')]) _ () A B row h5 hg (fun r e => (hr r e).2)⟩) (ownFrom_below (Nat.le_refl _) (by omega)))
    ⟨⟨by simp, by rw [show mxF ys [] = q0 from HQ.out]; exact bG, bD, bQ⟩, hB0⟩
    (fun x a' W => ∃ Bx, w1.heap.size + 1 < Bx ∧ Bk W Bx #[.int .i64 (zs.getD x 0), .int .i64 (ys.getD x 0)] 57 ∧ a' = { tmps := #[.agg #[.slice a zs.length c, .slice (some ⟨b1, o1, none⟩) ys.length d], .int .i64 (kn : Int), .pointer (some ⟨w.heap.size, 0, none⟩), .pointer (some ⟨w.heap.size + 1, 0, none⟩), .int .i64 0, .int .i64 0, .int .i64 0, .pointer (some ⟨w1.heap.size, 0, none⟩), .int .i64 (x : Int), .pointer (some ⟨Bx, 0, none⟩), .agg #[.slice a zs.length c, .slice (some ⟨b1, o1, none⟩) ys.length d], .agg #[.slice a zs.length c, .slice (some ⟨b1, o1, none⟩) ys.length d], .func (.func 58) #[.agg #[.slice a zs.length c, .slice (some ⟨b1, o1, none⟩) ys.length d]] #[], .int .i64 (kn : Int), .int .i64 0, .int .i64 0, .bool false, undef, .pointer (some ⟨w.heap.size, 1, none⟩), .slice (some ⟨b1, o1, none⟩) ys.length d, .pointer (some ⟨b1, o1, none⟩), .int .i64 q0, .agg #[.slice a zs.length c, .slice (some ⟨b1, o1, none⟩) ys.length d], .func (.func 74) #[] #[.pointer (some ⟨w1.heap.size + 1, 0, none⟩)], .int .i64 (x : Int), .agg #[.int .i64 (zs.getD x 0), .int .i64 (ys.getD x 0)], undef, undef, undef, undef, undef, undef, undef, undef], defers := [] })
    (fun x a' _ X Y row hs hg hr => by obtain ⟨Bx, h1, h2, h3⟩ := hs; exact ⟨Bx, h1, Bk.own Bx (fun (_ : Unit) => #[.int .i64 (zs.getD x 0), .int .i64 (ys.getD x 0)]) _ () X Y row h2 hg (fun r e => (hr r e).2), h3⟩)
    ?assign ?body ?done ?stop
  case assign =>
    rintro l pre x W K ⟨⟨hall, bA, bB, bP'⟩, hB⟩ hK
    have hs := hB.size
    have hlt := bP'.lt
    unfold knE
    obtain ⟨z, hz⟩ : ∃ z, zs.getD x 0 = z := ⟨_, rfl⟩
    obtain ⟨y, hy⟩ : ∃ z, ys.getD x 0 = z := ⟨_, rfl⟩
    rw [hz, hy] at hK ⊢
    clear hz hy
    gi_wp2
    exact hK _ _ ((KeepsOthers.alloc _ _).from _) (KpB.of ((Below.refl _ _).alloc (Nat.le_refl _) _) hB.size bP'.lt) ⟨⟨hall, bA.alloc _, bB.alloc _, bP'.alloc _⟩, hB.alloc hB.size _⟩ ⟨W.heap.size, bP'.lt, Bk.new W _ _, rfl⟩
  case body =>
    rintro l pre x a' W hl - ⟨⟨hall, bA, bB, bP'⟩, hB⟩ ⟨Bx, hBx, bX, rfl⟩ hlt
    have HA := Lib.hid hall
    clear hall
    have hx := mxF_snoc ys pre x
    obtain ⟨z, hz⟩ : ∃ z, zs.getD x 0 = z := ⟨_, rfl⟩
    obtain ⟨y, hy⟩ : ∃ z, ys.getD x 0 = z := ⟨_, rfl⟩
    obtain ⟨s, hs⟩ : ∃ z, mxF ys pre = z := ⟨_, rfl⟩
    rw [hz, hy] at bX
    rw [hy, hs] at hx
    rw [hs] at bA
    rw [hz, hy]
    have HX := Lib.hid hx
    have HS := Lib.hid hs
    clear hz hy hx hs
    have cX := bX.cell 1 rfl
    have cA := bA.cell 0 rfl
    have cB := bB.cell 0 rfl
    have fA := bA.frozen 0
    by_cases h : kn < x
    · have hi : (kn : Int) < (x : Int) := by omega
      gi_wp2
      exact ⟨(KeepsOthers.refl _).from _, ⟨rfl, pre, x, rfl, h, HA.out, by rw [HS.out]; exact bA⟩, hB⟩
    · have hi : ¬ (kn : Int) < (x : Int) := by omega
      have hall' : ∀ y ∈ pre ++ [x], y ≤ kn := fun y hy => by
        rcases List.mem_append.1 hy with h | h
        · exact HA.out y h
        · simp at h; omega
      have HA' := Lib.hid hall'
      clear hall'
      by_cases hm : s < y
      all_goals
        gi_wp2
        exact ⟨(KeepsOthers.setCell _ _ _).from _, KpB.set _ _ _ _ (by omega) (by omega), ⟨HA'.out, by rw [HX.out]; first | (rw [if_pos hm]; exact bA.set 0 _ rfl) | (rw [if_neg (by omega)]; exact bA.set 0 _ rfl), bB.other (by omega) _ _, bP'.other (by omega) _ _⟩, hB.setCell (p := ⟨w1.heap.size, 0, none⟩) (by simp; omega) _⟩
  case done =>
    rintro D xs W hD rfl ⟨⟨hall, bA, bB, bP'⟩, hB⟩ hK
    have hn : zs.length = kn + 1 := by
      have := hall (zs.length - 1) (List.mem_range.2 (by omega)); omega
    rw [hn] at bA
    have HN := Lib.hid hn
    clear hall hn
    have cA := bA.cell 0 rfl
    gi_wp2
    refine ⟨by simp, .inl ⟨_, _, rfl, run_takeDeferred hK, ?_⟩⟩
    exact ⟨.tuple #[.int .i64 (mxF ys (List.range (kn + 1))), .int .i64 0], by simp [results, Try.results25, go_sem], rfl, hB.trans (belowK_b (w := w) (Nat.le_refl _) W D _ _ (by omega) hK rfl rfl)⟩
  case stop =>
    rintro D cc pre W hD ⟨j, hj, rfl⟩ ⟨⟨rfl, pre', x, hpre, hx, hall, bA⟩, hB⟩ hK
    rw [cut_at hpre.symm hx hall] at bA
    clear hpre hall
    have cA := bA.cell 0 rfl
    gi_wp2
    refine ⟨by simp, .inl ⟨_, _, rfl, run_takeDeferred hK, ?_⟩⟩
    exact ⟨.tuple #[.int .i64 (mxF ys (List.range (kn + 1))), .int .i64 0], by simp [results, Try.results25, go_sem], rfl, hB.trans (belowK_b (w := w) (Nat.le_refl _) W D _ _ (by omega) hK rfl rfl)⟩

theorem ifs_any (w : World) (a b : Option Addr) (c d : Nat) (zs ys : List Int) (x : Int) (hp : Prof w w.heap.size a b zs ys) :
    Calls Try.prog 25 #[.agg #[.slice a zs.length c, .slice b ys.length d], .int .i64 x] w fun e w' => e = .returned (.tuple #[.int .i64 (fsV zs ys x), .int .i64 (cdT (prfB zs ys) (hkB zs x))]) ∧ Below w.heap.size w w' := by
  cases hv : prfB zs ys
  case true =>
    cases hh : hkB zs x
    case true =>
      obtain ⟨k, rfl⟩ : ∃ k : Nat, x = (k : Int) := ⟨x.toNat, by have := (hkB_t hh).1; omega⟩
      rw [fsV_t hv hh]
      exact ifs_ok w a b c d zs ys k hp hv hh
    case false =>
      have HP := Lib.hid hp
      have HV := Lib.hid hv
      have HH := Lib.hid hh
      have HX := Lib.hid (fsV_g (ys := ys) hh)
      clear hp hv hh
      go_enter Try.func25, Try.ntmps25
      go_wp2_with fail
      refine (eok_any _ _ _ _ _ zs ys _ (HP.out.on (by repeat (first | exact Below.refl _ _ | (refine Below.alloc ?_ (by simp <;> omega) _) | (refine Below.setCell ?_ (by simp <;> omega) _) | (refine Below.drew ?_) | (refine bel_drewN ?_ _))))).mono ?_
      rw [HV.out, HH.out, show cdT true false = 2 from rfl]
      rintro e w1 ⟨rfl, hb⟩
      have HB : Hid (Below w.heap.size w w1) := Lib.hid (bel_end (by repeat (first | exact Below.refl _ _ | (refine Below.alloc ?_ (by simp <;> omega) _) | (refine Below.setCell ?_ (by simp <;> omega) _) | (refine Below.drew ?_) | (refine bel_drewN ?_ _))) hb)
      clear hb
      go_wp2
      go_ret2
      exact ⟨rt2 HX.out.symm rfl, HB.out⟩
  case false =>
    have HP := Lib.hid hp
    have HV := Lib.hid hv
    have HX := Lib.hid (fsV_f (x := x) hv)
    clear hp hv
    go_enter Try.func25, Try.ntmps25
    go_wp2_with fail
    refine (eok_any _ _ _ _ _ zs ys _ (HP.out.on (by repeat (first | exact Below.refl _ _ | (refine Below.alloc ?_ (by simp <;> omega) _) | (refine Below.setCell ?_ (by simp <;> omega) _) | (refine Below.drew ?_) | (refine bel_drewN ?_ _))))).mono ?_
    rw [HV.out, show cdT false (hkB zs x) = 1 from rfl]
    rintro e w1 ⟨rfl, hb⟩
    have HB : Hid (Below w.heap.size w w1) := Lib.hid (bel_end (by repeat (first | exact Below.refl _ _ | (refine Below.alloc ?_ (by simp <;> omega) _) | (refine Below.setCell ?_ (by simp <;> omega) _) | (refine Below.drew ?_) | (refine bel_drewN ?_ _))) hb)
    clear hb
    go_wp2
    go_ret2
    exact ⟨rt2 HX.out.symm rfl, HB.out⟩

set_option maxRecDepth 100000 in
set_option maxHeartbeats 2000000 in
theorem sfs_any (w : World) (a b : Option Addr) (c d : Nat) (zs ys : List Int) (x : Int) (hp : Prof w w.heap.size a b zs ys) :
    Calls Try.prog 26 #[.agg #[.slice a zs.length c, .slice b ys.length d], .int .i64 x] w fun e w' => e = .returned (.tuple #[.int .i64 (fsV zs ys x), .int .i64 (cdT (prfB zs ys) (hkB zs x))]) ∧ Below w.heap.size w w' := by
  have ly := hp.ly
  have lz := hp.lz
  cases hv : prfB zs ys
  case false =>
    have HP := Lib.hid hp
    have HV := Lib.hid hv
    have HX := Lib.hid (fsV_f (x := x) hv)
    clear hp hv
    go_enter Try.func26, Try.ntmps26
    go_wp2_with fail
    refine (skc_any _ _ _ _ _ zs ys _ _ (by omega) (by omega) (HP.out.on (by repeat (first | exact Below.refl _ _ | (refine Below.alloc ?_ (by simp <;> omega) _) | (refine Below.setCell ?_ (by simp <;> omega) _) | (refine Below.drew ?_) | (refine bel_drewN ?_ _))))).mono ?_
    rw [inB_hk, HV.out, show cdT false (hkB zs x) = 1 from rfl]
    rintro e w1 ⟨rfl, hb⟩
    have HB : Hid (Below w.heap.size w w1) := Lib.hid (bel_end (by repeat (first | exact Below.refl _ _ | (refine Below.alloc ?_ (by simp <;> omega) _) | (refine Below.setCell ?_ (by simp <;> omega) _) | (refine Below.drew ?_) | (refine bel_drewN ?_ _))) hb)
    clear hb
    go_wp2
    go_ret2
    exact ⟨rt2 HX.out.symm rfl, HB.out⟩
  cases hh : hkB zs x
  case false =>
    have HP := Lib.hid hp
    have HV := Lib.hid hv
    have HH := Lib.hid hh
    have HX := Lib.hid (fsV_g (ys := ys) hh)
    clear hp hv hh
    go_enter Try.func26, Try.ntmps26
    go_wp2_with fail
    refine (skc_any _ _ _ _ _ zs ys _ _ (by omega) (by omega) (HP.out.on (by repeat (first | exact Below.refl _ _ | (refine Below.alloc ?_ (by simp <;> omega) _) | (refine Below.setCell ?_ (by simp <;> omega) _) | (refine Below.drew ?_) | (refine bel_drewN ?_ _))))).mono ?_
    rw [inB_hk, HV.out, HH.out, show cdT true false = 2 from rfl]
    rintro e w1 ⟨rfl, hb⟩
    have HB : Hid (Below w.heap.size w w1) := Lib.hid (bel_end (by repeat (first | exact Below.refl _ _ | (refine Below.alloc ?_ (by simp <;> omega) _) | (refine Below.setCell ?_ (by simp <;> omega) _) | (refine Below.drew ?_) | (refine bel_drewN ?_ _))) hb)
    clear hb
    go_wp2
    go_ret2
    exact ⟨rt2 HX.out.symm rfl, HB.out⟩
  obtain ⟨kn, rfl⟩ : ∃ k : Nat, x = (k : Int) := ⟨x.toNat, by have := (hkB_t hh).1; omega⟩
  rw [fsV_t hv hh]
  have HO := Lib.hid (Okp.of hv)
  have hkn : kn < zs.length := by have := (hkB_t hh).2; omega
  have hkn2 : kn < ys.length := by rw [HO.out.len]; exact hkn
  have hpos : 0 < ys.getD 0 0 := by have := HO.out.slo 0 (by omega); omega
  obtain ⟨b1, o1, rfl, hB1, h1⟩ := hp.sy (by omega)
  have HP := Lib.hid hp
  have HV := Lib.hid hv
  have HH := Lib.hid hh
  have H1 := Lib.hid h1
  have H0 := Lib.hid hpos
  clear hp hv h1 hh hpos
  go_enter Try.func26, Try.ntmps26
  go_wp2_with fail
  obtain ⟨W, hW⟩ : ∃ W, W = w.alloc (.cells #[.slice a zs.length c, .slice (some ⟨b1, o1, none⟩) ys.length d] 26) := ⟨_, rfl⟩
  have bP : Bk W w.heap.size #[.slice a zs.length c, .slice (some ⟨b1, o1, none⟩) ys.length d] 26 := by rw [hW]; exact Bk.new' rfl
  have HB : Hid (Below w.heap.size w W) := Lib.hid (by rw [hW]; exact (by repeat (first | exact Below.refl _ _ | (refine Below.alloc ?_ (by simp <;> omega) _) | (refine Below.setCell ?_ (by simp <;> omega) _) | (refine Below.drew ?_) | (refine bel_drewN ?_ _))))
  rw [← hW]
  clear hW
  refine (skc_any _ _ _ _ _ zs ys _ _ (by omega) (by omega) (HP.out.on HB.out)).mono ?_
  rw [inB_hk, HV.out, HH.out, show cdT true true = 0 from rfl]
  rintro e w1 ⟨rfl, hb⟩
  replace bP := bP.on hb
  replace HB := Lib.hid (bel_end HB.out hb)
  clear hb
  have c1 := bP.cell 1 rfl
  go_wp2_with fail
  go_loopw [7, 8] (fun s i wr => ∃ k : Nat, k ≤ kn + 1 ∧ i = .int .i64 k ∧ s = .int .i64 (mxS ys k) ∧ ∃ m, wr = w1.drewN m) (fun _ i _ => kn + 1 - (intOf i).toNat)
  case atStart => exact ⟨0, by omega, rfl, rfl, 0, rfl⟩
  case round =>
    obtain ⟨k, hk, rfl, rfl, nd, rfl⟩ := hrel
    by_cases hlt : k ≤ kn
    · have hs := mxS_succ H0.out k
      have g1 := kc1 (H1.out k (by omega)) HB.out
      obtain ⟨s, hs'⟩ : ∃ s, mxS ys k = s := ⟨_, rfl⟩
      obtain ⟨y, hy⟩ : ∃ q, ys.getD k 0 = q := ⟨_, rfl⟩
      rw [hs', hy] at hs
      rw [hy] at g1
      rw [hs']
      have HS := Lib.hid hs
      clear hs hs' hy
      have i1 : (k : Int) < (ys.length : Int) := by omega
      have i2 : (k : Int) ≤ (kn : Int) := by omega
      by_cases h : s < y
      all_goals
        go_wp2
        go_roundw
        case rel => exact ⟨k + 1, by omega, by go_num, by rw [HS.out]; first | rw [if_pos h] | rw [if_neg (by omega)], _, by first | rfl | exact (World.drewN_drewN _ _ _)⟩
        case measure => simp [intOf]; omega
    · obtain rfl : k = kn + 1 := by omega
      have i2 : ¬ ((kn + 1 : Nat) : Int) ≤ (kn : Int) := by omega
      go_wp2
      go_ret2
      exact ⟨rt2 (by unfold mxS; rw [if_neg (by omega)]; try rw [List.range_succ]) rfl, bel_drewN HB.out _⟩
end Go.Proofs.Ytkiadgmolkpgfaa
