/- The text of a profile: contracts of the program's text, which a loop over the knots writes into a row of its own. -/
import Derived.Test.YtcaekheghjnipabDoorPHelp
import Derived.Test.YtcaekheghjnipabDoorIText
import Derived.Maps.AppendAt
import Derived.RangeFuncBox
namespace Go.Proofs.YtcaekheghjnipabDoor
open Go.ChangeShapes Go.WideShapes Go.ChangeAt Go.RowKit Go.Shelf Num
set_option linter.unusedVariables false
attribute [local go_sem] Oper.semAt_some
/-- a knot's part of the text -/
def ktL (zs ys : List Int) (k : Nat) : List UInt8 := (if 0 < k then [44] else []) ++ (Lib.itoa (zs.getD k 0) ++ ([58] ++ Lib.itoa (ys.getD k 0)))
def pTL (zs ys : List Int) (pre : List Nat) : List UInt8 := pre.flatMap (ktL zs ys)
theorem pTL_snoc (zs ys : List Int) (pre : List Nat) (x : Nat) : pTL zs ys (pre ++ [x]) = pTL zs ys pre ++ ktL zs ys x := by simp [pTL]
theorem ktL_len {zs ys : List Int} (h : Okp zs ys) (k : Nat) : (ktL zs ys k).length ≤ 42 ∧ 1 ≤ (ktL zs ys k).length := by
  have z0 := h.lo k
  have z1 := h.hi k
  have y0 := h.sge k
  have y1 := h.shi k
  have l1 := itoa_len (x := zs.getD k 0) (by omega)
  have l2 := itoa_len (x := ys.getD k 0) (by omega)
  unfold ktL
  simp only [List.length_append, List.length_cons, List.length_nil]
  split <;> simp only [List.length_cons, List.length_nil] <;> omega
theorem pTL_len {zs ys : List Int} (h : Okp zs ys) : ∀ pre : List Nat, (pTL zs ys pre).length ≤ 42 * pre.length ∧ (0 < pre.length → 0 < (pTL zs ys pre).length)
  | [] => ⟨by simp [pTL], by simp⟩
  | k :: pre => by
    obtain ⟨h1, h2⟩ := pTL_len h pre
    have := ktL_len h k
    simp only [pTL, List.flatMap_cons, List.length_append, List.length_cons] at h1 h2 ⊢
    omega
/-- the text of a profile, empty beside one that is not valid -/
def pfT (zs ys : List Int) : ByteArray := if prfB zs ys then ⟨(pTL zs ys (List.range zs.length)).toArray⟩ else ⟨#[]⟩
theorem pfT_t {zs ys : List Int} (h : prfB zs ys = true) : pfT zs ys = ⟨(pTL zs ys (List.range zs.length)).toArray⟩ := by unfold pfT; rw [if_pos h]
theorem pfT_f {zs ys : List Int} (h : prfB zs ys = false) : pfT zs ys = ⟨#[]⟩ := by unfold pfT; rw [if_neg (by rw [h]; decide)]
theorem bk_not_row {W : World} {B : Nat} {cs : Array Value} {t e : TypeId} (h : Bk W B cs t) (hte : t ≠ e) {base size k : Nat} {v : Value} {xs : List Value} (hr : W.ownsRow base e size v k xs) : some B ≠ v.ownBlock := by
  rcases hr.2 with ⟨rfl, _⟩ | ⟨g, cap, cur, rfl, _, hgb, _⟩
  · simp [Value.ownBlock]
  · intro e'
    obtain rfl : B = g := by simpa [Value.ownBlock] using e'
    have := (show W.heap[B]? = _ from h).symm.trans hgb
    simp at this
    exact hte this.2
/-- the text's variable and what else a round reads -/
structure TS (n₀ Bt Bp Bx : Nat) (P X : Array Value) (l : List UInt8) (sv : Value) (W : World) : Prop where
  box : Boxed W Bt 30 sv
  row : W.ownsRow n₀ 5 1 sv l.length (Lib.byteCells l)
  prf : Bk W Bp P 24
  knt : Bk W Bx X 55
theorem ne_t1 : (30 : TypeId) ≠ 5 := by decide
theorem ne_t2 : (24 : TypeId) ≠ 5 := by decide
theorem ne_t3 : (55 : TypeId) ≠ 5 := by decide
/-- what a round keeps -/
structure Stp (n₀ Bp : Nat) (W W' : World) : Prop where
  oth : KeepsOthers W W'
  kp : KpB n₀ Bp W W'
theorem Stp.trans {n₀ Bp : Nat} {A B C : World} (h : Stp n₀ Bp A B) (k : Stp n₀ Bp B C) : Stp n₀ Bp A C := ⟨h.oth.trans k.oth, kpB_t h.kp k.kp⟩
theorem bc_app (l m : List UInt8) : Lib.byteCells (l ++ m) = Lib.byteCells l ++ Lib.byteCells m := by simp [Lib.byteCells]
/-- one letter more -/
theorem TS.put {n₀ Bt Bp Bx : Nat} {P X : Array Value} {l m : List UInt8} {sv v' : Value} {W w1 : World} {tmp : Obj} {cs : List Value} (h : TS n₀ Bt Bp Bx P X l sv W) (hn : n₀ ≤ W.heap.size) (hB : n₀ ≤ Bt) (hp : Bp ≠ Bt) (hx : Bx ≠ Bt) (hm : Lib.byteCells m = cs)
    (hown' : w1.ownsRow n₀ 5 1 v' (l.length + m.length) (Lib.byteCells l ++ cs)) (hgrow : (W.alloc tmp).grownBy w1 sv.ownBlock) :
    Boxed w1 Bt 30 sv ∧ Bk w1 Bx X 55 ∧ TS n₀ Bt Bp Bx P X (l ++ m) v' (w1.setCell ⟨Bt, 0, none⟩ v') ∧ Stp n₀ Bp W (w1.setCell ⟨Bt, 0, none⟩ v') := by
  obtain ⟨a1, a2, a3, a4, a5⟩ := h.box.appended ne_t1 h.row hn hB hown' hgrow
  have k1 : Bk w1 Bp P 24 := (h.prf.alloc tmp).kept hgrow (bk_not_row h.prf ne_t2 h.row)
  have k2 : Bk w1 Bx X 55 := (h.knt.alloc tmp).kept hgrow (bk_not_row h.knt ne_t3 h.row)
  refine ⟨a1, k2, ⟨a2, by rw [List.length_append, bc_app, hm]; exact a3, k1.other hp _ _, k2.other hx _ _⟩, ⟨a4, a5, ?_⟩⟩
  exact ((k1.other hp 0 v').trans (show W.heap[Bp]? = _ from h.prf).symm)
/-- a number more -/
theorem TS.num {n₀ Bt Bp Bx : Nat} {P X : Array Value} {l m : List UInt8} {sv v' : Value} {W w1 : World} (h : TS n₀ Bt Bp Bx P X l sv W) (hB : n₀ ≤ Bt) (hp : Bp ≠ Bt) (hx : Bx ≠ Bt)
    (hown' : w1.ownsRow n₀ 5 1 v' (l.length + m.length) (Lib.byteCells l ++ Lib.byteCells m)) (hb : Below n₀ W w1) (hk : Lib.OthersKept 5 none W w1) :
    Boxed w1 Bt 30 sv ∧ Bk w1 Bx X 55 ∧ TS n₀ Bt Bp Bx P X (l ++ m) v' (w1.setCell ⟨Bt, 0, none⟩ v') ∧ Stp n₀ Bp W (w1.setCell ⟨Bt, 0, none⟩ v') := by
  have k0 : Boxed w1 Bt 30 sv := hk Bt _ h.box (by simp) (fun c fz e => by injection e with _ e2; exact ne_t1 e2)
  have k1 : Bk w1 Bp P 24 := hk Bp _ h.prf (by simp) (fun c fz e => by injection e with _ e2; exact ne_t2 e2)
  have k2 : Bk w1 Bx X 55 := hk Bx _ h.knt (by simp) (fun c fz e => by injection e with _ e2; exact ne_t3 e2)
  refine ⟨k0, k2, ⟨k0.set v', ?_, k1.other hp _ _, k2.other hx _ _⟩, ⟨?_, hb.setCell (p := ⟨Bt, 0, none⟩) hB v', ?_⟩⟩
  · rw [List.length_append, bc_app]
    exact hown'.kept (grownBy_setCell' w1 Bt v') (.inr (k0.not_row ne_t1 hown').symm)
  · exact KeepsOthers.trans ⟨hb.size, fun k o hko ho => hk k o hko (by simp) (fun c fz e => by subst e; cases ho)⟩ (KeepsOthers.setCell _ _ _)
  · exact ((k1.other hp 0 v').trans (show W.heap[Bp]? = _ from h.prf).symm)
theorem aio_any (B n : Nat) (i : Int) (h0 : -9223372036854775808 ≤ i) (h1 : i ≤ 9223372036854775807) (sv : Value) (xs : List Value) (w : World) (hown : w.ownsRow B 5 1 sv n xs) (hBw : B ≤ w.heap.size) (hlim : n + 21 ≤ 140737488355328)
    (htab : Lib.TabBelow Tryd.prog B w "internal/strconv.uint64pow10" .u64 Lib.pow10Tab) :
    Calls Tryd.prog 32 #[sv, .int .i64 i, .int .i64 10] w fun e w' => ∃ v', e = .returned v' ∧ w'.ownsRow B 5 1 v' (n + (Lib.itoa i).length) (xs ++ Lib.byteCells (Lib.itoa i)) ∧ Below B w w' ∧ Lib.OthersKept 5 none w w' :=
  (show Calls Tryd.prog 32 #[sv, .int .i64 i, .int .i64 10] w _ from Any.strconv_AppendInt_10 Tryd.laysM176 B n i h0 h1 sv xs w hown hBw hlim htab).mono fun e w' h => h

theorem c1n {w : World} {x : Value} {t : TypeId} {b : Nat} (h : b = w.heap.size) : ∀ j u, [x][j]? = some u → (w.alloc (.cells #[x] t)).cell? ((⟨b, 0, none⟩ : Addr).add j) = some u := by subst h; exact cell_one_new w x t
theorem Stp.refl (n₀ Bp : Nat) (W : World) : Stp n₀ Bp W W := ⟨KeepsOthers.refl _, KpB.refl _ _ _⟩
set_option maxRecDepth 100000 in
set_option maxHeartbeats 4000000 in
theorem itp_ok (w : World) (a b : Option Addr) (c d : Nat) (zs ys : List Int) (hp : Prof w w.heap.size a b zs ys) (hv : prfB zs ys = true) (ht : Pow10 w) :
    Calls Tryd.prog 12 #[.agg #[.slice a zs.length c, .slice b ys.length d]] w (Told w ⟨(pTL zs ys (List.range zs.length)).toArray⟩) := by
  have lz := hp.lz
  have HO := Lib.hid (Okp.of hv)
  have HP := Lib.hid hp
  have HV := Lib.hid hv
  have HT := Lib.hid ht
  have n2 := HO.out.n2
  have HI := Lib.hid info_u8
  clear hp hv ht
  refine (callsIn_wide (n := 6)).1 ?_
  refine callsIn_of_wp_marks Tryd.func12 rfl trivial ?_ rfl
  simp only [Tryd.ntmps12, List.size_toArray, List.length_cons, List.length_nil, Nat.reduceAdd, Nat.reduceSub, Array.replicate_succ, Array.replicate_zero, List.push_toArray, List.append_toArray, List.nil_append, List.cons_append]
  gi_wp2_with fail
  obtain ⟨W, hW⟩ : ∃ W, W = w.alloc (.cells #[.slice a zs.length c, .slice b ys.length d] 24) := ⟨_, rfl⟩
  have bP : Bk W w.heap.size #[.slice a zs.length c, .slice b ys.length d] 24 := by rw [hW]; exact Bk.new' rfl
  have HB : Hid (Below w.heap.size w W) := Lib.hid (by rw [hW]; exact (by repeat (first | exact Below.refl _ _ | (refine Below.alloc ?_ (by simp <;> omega) _) | (refine Below.setCell ?_ (by simp <;> omega) _) | (refine Below.drew ?_) | (refine bel_drewN ?_ _))))
  rw [← hW]
  clear hW
  refine ⟨trivial, (callsIn_wide.2 (ipr_any _ _ _ _ _ zs ys (HP.out.on HB.out))).mono ?_⟩
  rw [HV.out]
  rintro e w1 ⟨rfl, hb⟩
  replace bP := bP.on hb
  replace HB := Lib.hid (bel_end HB.out hb)
  clear hb
  have c0 := bP.cell 0 rfl
  have c1 := bP.cell 1 rfl
  have p0 := bP.lt
  gi_wp2_with fail
  obtain ⟨w2, hW⟩ : ∃ W, W = w1.alloc (.cells #[.slice none 0 0] 30) := ⟨_, rfl⟩
  have hb : Below w1.heap.size w1 w2 := by rw [hW]; exact (by repeat (first | exact Below.refl _ _ | (refine Below.alloc ?_ (by simp <;> omega) _) | (refine Below.setCell ?_ (by simp <;> omega) _) | (refine Below.drew ?_) | (refine bel_drewN ?_ _)))
  have bT : Boxed w2 w1.heap.size 30 (.slice none 0 0) := by rw [hW]; exact Boxed.new _ _ _
  have hs2 : w2.heap.size = w1.heap.size + 1 := by rw [hW]; simp
  replace bP := bP.on hb
  replace HB := Lib.hid (bel_end HB.out hb)
  rw [← hW]
  clear hW hb
  refine ⟨trivial, (callsIn_wide.2 (kns_any _ _ _ _ _ _ _)).mono ?_⟩
  rintro e w3 ⟨rfl, rfl⟩
  obtain ⟨W0, hW⟩ : ∃ W0, W0 = w2.alloc (.cells #[.slice a zs.length c, .slice b ys.length d] 24) := ⟨_, rfl⟩
  have hb : Below w2.heap.size w2 W0 := by rw [hW]; exact (by repeat (first | exact Below.refl _ _ | (refine Below.alloc ?_ (by simp <;> omega) _) | (refine Below.setCell ?_ (by simp <;> omega) _) | (refine Below.drew ?_) | (refine bel_drewN ?_ _)))
  have bQ : Bk W0 w2.heap.size #[.slice a zs.length c, .slice b ys.length d] 24 := by rw [hW]; exact Bk.new' rfl
  replace bT : Boxed W0 w1.heap.size 30 (.slice none 0 0) := by rw [hW]; exact bT.alloc _
  replace HB := Lib.hid (bel_end HB.out hb)
  have hsz : W0.heap.size = w2.heap.size + 1 := by rw [hW]; simp
  have hB0 := HB.out
  gi_wp2_with fail
  rw [← hW]
  clear hW hb c0 c1
  rw [hs2] at bQ hsz
  refine wpIn_rangeFunc_ownH rfl (by omega) (gf := 51) (lb := #[.pointer (some ⟨w1.heap.size + 1, 0, none⟩)]) rfl trivial (enters_of Tryd.func51 (by kernel_rfl) rfl)
    (kns_stops 5 (by omega) (w1.heap.size + 1) w.heap.size a b c d zs ys HO.out.len W0 (by omega) (by omega) (bQ.cell 0 rfl) (bQ.cell 1 rfl) (HP.out.below hB0)) kpB_t (kpB_b (by omega) (by omega)) (Below.refl _ _) (fun _ => rfl)
    (fun pre W => ((∃ sv, Boxed W w1.heap.size 30 sv ∧ W.ownsRow w.heap.size 5 1 sv (pTL zs ys pre).length (Lib.byteCells (pTL zs ys pre)) ∧ True) ∧ Bk W (w1.heap.size + 1) #[.slice a zs.length c, .slice b ys.length d] 24) ∧ Below w.heap.size w W)
    (fun _ _ _ => False)
    (OwnFrom.and (OwnFrom.and (Own.from (holdsRow_own w.heap.size w1.heap.size 30 5 1 (fun pre => (pTL zs ys pre).length) (fun pre => Lib.byteCells (pTL zs ys pre)) (fun _ _ => True)) _) (Own.from (Bk.own _ _ _) _)) (ownFrom_below (Nat.le_refl _) (by omega)))
    (fun _ _ _ _ _ hs _ _ => hs)
    ⟨⟨⟨_, bT, World.ownsRow_nil _ _ _ _, trivial⟩, bQ⟩, hB0⟩
    (fun x a' W => ∃ Bx, w1.heap.size + 1 < Bx ∧ Bk W Bx #[.int .i64 (zs.getD x 0), .int .i64 (ys.getD x 0)] 55 ∧ a' = { tmps := #[.agg #[.slice a zs.length c, .slice b ys.length d], .pointer (some ⟨w.heap.size, 0, none⟩), .string ⟨#[]⟩, .pointer (some ⟨w1.heap.size, 0, none⟩), .int .i64 (x : Int), .pointer (some ⟨Bx, 0, none⟩), .agg #[.slice a zs.length c, .slice b ys.length d], .bool true, .bool false, .agg #[.slice a zs.length c, .slice b ys.length d], .func (.func 51) #[] #[.pointer (some ⟨w1.heap.size + 1, 0, none⟩)], .int .i64 (x : Int), .agg #[.int .i64 (zs.getD x 0), .int .i64 (ys.getD x 0)], undef, undef, undef, undef, undef, undef, undef, undef, undef, undef, undef, undef, undef, undef, undef, undef, undef, undef], defers := [] })
    (fun x a' _ X Y row hs hg hr => by obtain ⟨Bx, h1, h2, h3⟩ := hs; exact ⟨Bx, h1, Bk.own Bx (fun (_ : Unit) => #[.int .i64 (zs.getD x 0), .int .i64 (ys.getD x 0)]) _ () X Y row h2 hg (fun r e => (hr r e).2), h3⟩)
    ?assign ?body ?done ?stop
  case assign =>
    rintro l pre x W K ⟨⟨⟨sv, bT, hr, -⟩, bP'⟩, hB⟩ hK
    have hs := hB.size
    have hlt := bP'.lt
    unfold knE
    obtain ⟨z, hz⟩ : ∃ z, zs.getD x 0 = z := ⟨_, rfl⟩
    obtain ⟨y, hy⟩ : ∃ z, ys.getD x 0 = z := ⟨_, rfl⟩
    rw [hz, hy] at hK ⊢
    clear hz hy
    gi_wp2
    exact hK _ _ ((KeepsOthers.alloc _ _).from _) (KpB.of ((Below.refl _ _).alloc (Nat.le_refl _) _) hB.size bP'.lt) ⟨⟨⟨sv, bT.alloc _, hr.alloc _, trivial⟩, bP'.alloc _⟩, hB.alloc hB.size _⟩ ⟨W.heap.size, bP'.lt, Bk.new W _ _, rfl⟩
  case body =>
    rintro l pre x a' W hl - ⟨⟨⟨sv, bT, hrow, -⟩, bP'⟩, hB⟩ ⟨Bx, hBx, bX, rfl⟩ hlt
    have hL := (pTL_len HO.out pre).1
    have hsn := pTL_snoc zs ys pre x
    have z0 := HO.out.lo x
    have z1 := HO.out.hi x
    have y0 := HO.out.sge x
    have y1 := HO.out.shi x
    unfold ktL at hsn
    obtain ⟨z, hz⟩ : ∃ z, zs.getD x 0 = z := ⟨_, rfl⟩
    obtain ⟨y, hy⟩ : ∃ z, ys.getD x 0 = z := ⟨_, rfl⟩
    obtain ⟨l0, hl0⟩ : ∃ l, pTL zs ys pre = l := ⟨_, rfl⟩
    rw [hz] at bX z0 z1 hsn
    rw [hy] at bX y0 y1 hsn
    rw [hl0] at hrow hL hsn
    rw [hz, hy]
    clear hz hy hl0
    obtain ⟨i0, hi, hz0, hz1, hz2⟩ := info_parts HI.out
    have T0 : Hid (TS w.heap.size w1.heap.size (w1.heap.size + 1) Bx #[.slice a zs.length c, .slice b ys.length d] #[.int .i64 z, .int .i64 y] l0 sv W) := Lib.hid ⟨bT, hrow, bP', bX⟩
    have hsW := hB.size
    have HB := Lib.hid hB
    have HSN := Lib.hid hsn
    have la := itoa_len (x := z) (by omega)
    have n1 : ¬ w1.heap.size + 1 = w1.heap.size := by omega
    have n3 : ¬ Bx = w1.heap.size := by omega
    have n4 : ¬ w1.heap.size = Bx := by omega
    have hw1 : w.heap.size ≤ w1.heap.size := by omega
    have cX := bX.cell 0 rfl
    have cT := bT.cell
    clear hrow bP' hsn hB
    by_cases hx : 0 < x
    case pos =>
      have hx' : (0 : Int) < (x : Int) := by omega
      rw [if_pos hx] at HSN
      gi_wp2_with (gi_at_builtin; refine wpListIn_append_own _ rfl _ _ 30 rfl w.heap.size 5 i0 (.int .u8 0) 1 1 Tryd.underlying30 hi hz0 hz1 hz2 rfl (by decide) sv l0.length (Lib.byteCells l0) rfl (T0.out.row.alloc _) ⟨W.heap.size, 0, none⟩ 1 1 [.int .u8 44] rfl rfl (c1n (by simp)) (by simp [Value.oneCell']) (by unfold maxLen; (try simp only [List.length_append]); omega) (by (try simp only [List.length_append]); omega) (by simp; omega) ?_; intro v1 wa hown hgrow _; obtain ⟨g1, cp1, rfl⟩ := ownsRow_succ hown; have Q := Lib.hid (T0.out.put (m := [44]) hsW hw1 n1 n3 rfl hown hgrow); have q1 := Q.out.1.cell; have q2 := Q.out.1.frozen; have q3 := Q.out.2.1.cell 0 rfl; clear hown hgrow)
      obtain ⟨W2, hW2⟩ : ∃ W2, W2 = wa.setCell ⟨w1.heap.size, 0, none⟩ (.slice (some ⟨g1, 0, none⟩) (l0.length + 1) cp1) := ⟨_, rfl⟩
      have Q3 := Lib.hid Q.out.2.2.1
      have Q4 := Lib.hid Q.out.2.2.2
      rw [← hW2] at Q3 Q4
      rw [← hW2]
      clear hW2 q1 q2 q3 Q
      obtain ⟨l2, hl2⟩ : ∃ l2, l2 = l0 ++ [44] := ⟨_, rfl⟩
      have HS : Hid (pTL zs ys (pre ++ [x]) = l2 ++ (Lib.itoa z ++ ([58] ++ Lib.itoa y))) := Lib.hid (by rw [HSN.out, hl2]; simp)
      have hl : l2.length ≤ 42 * pre.length + 1 := by rw [hl2]; simp; omega
      rw [← hl2] at Q3
      clear hl2 HSN
      have hs2 := Q4.out.oth.size
      clear cX cT
      refine ⟨trivial, (CallsIn.inRound l (callsIn_wide.2 (aio_any w.heap.size _ z (by omega) (by omega) _ _ W2 Q3.out.row (by omega) (by omega) (HT.out.tab (HB.out.trans Q4.out.kp.1) (Nat.le_refl _))))).mono ?_⟩
      rintro e w5 ⟨v5, rfl, hown5, hb5, hk5⟩
      obtain ⟨g5, cp5, rfl, -, -⟩ := hown5.form (by omega)
      have hs5 := hb5.size
      have Q5 := Lib.hid (Q3.out.num (m := Lib.itoa z) hw1 n1 n3 hown5 hb5 hk5)
      have q1 := Q5.out.1.cell
      have q2 := Q5.out.1.frozen
      clear hown5 hb5 hk5
      gi_wp2_with (gi_at_builtin; refine wpListIn_append_own _ rfl _ _ 30 rfl w.heap.size 5 i0 (.int .u8 0) 1 1 Tryd.underlying30 hi hz0 hz1 hz2 rfl (by decide) (.slice (some ⟨g5, 0, none⟩) (l2.length + (Lib.itoa z).length) cp5) (l2 ++ Lib.itoa z).length (Lib.byteCells (l2 ++ Lib.itoa z)) rfl (Q5.out.2.2.1.row.alloc _) ⟨w5.heap.size, 0, none⟩ 1 1 [.int .u8 58] rfl rfl (c1n (by simp)) (by simp [Value.oneCell']) (by unfold maxLen; (try simp only [List.length_append]); omega) (by (try simp only [List.length_append]); omega) (by simp; omega) ?_; intro v7 wb hown hgrow _; obtain ⟨g7, cp7, rfl⟩ := ownsRow_succ hown; have Q7 := Lib.hid (Q5.out.2.2.1.put (m := [58]) (by simp; omega) hw1 n1 n3 rfl hown hgrow); have r1 := Q7.out.1.cell; have r2 := Q7.out.1.frozen; have r3 := Q7.out.2.1.cell 1 rfl; clear hown hgrow)
      have Q9 := Q7.out.2.2.1
      have Q10 := Q7.out.2.2.2
      rw [List.length_append] at Q9 Q10
      obtain ⟨W8, hW8⟩ : ∃ W8, W8 = wb.setCell ⟨w1.heap.size, 0, none⟩ (.slice (some ⟨g7, 0, none⟩) (l2.length + (Lib.itoa z).length + 1) cp7) := ⟨_, rfl⟩
      rw [← hW8] at Q9 Q10
      rw [← hW8]
      have Q11 := Lib.hid Q9
      have Q12 := Lib.hid (Q4.out.trans (Q5.out.2.2.2.trans Q10))
      have hs9 := Q12.out.oth.size
      clear hW8 Q9 Q10 Q7 Q5 q1 q2 r1 r2 r3
      obtain ⟨N8, hN8⟩ : ∃ N, (l2 ++ Lib.itoa z ++ [58]).length = N := ⟨_, rfl⟩
      have hN8b : N8 ≤ 42 * pre.length + 22 := by rw [← hN8]; simp only [List.length_append, List.length_cons, List.length_nil]; omega
      have ly := itoa_len (x := y) (by omega)
      have H8 := Lib.hid hN8
      clear hN8
      refine ⟨trivial, (CallsIn.inRound l (callsIn_wide.2 (aio_any w.heap.size N8 y (by omega) (by omega) _ (Lib.byteCells (l2 ++ Lib.itoa z ++ [58])) W8 (by rw [← H8.out]; exact Q11.out.row) (by omega) (by omega) (HT.out.tab (HB.out.trans Q12.out.kp.1) (Nat.le_refl _))))).mono ?_⟩
      rintro e w9 ⟨v9, rfl, hown9, hb9, hk9⟩
      obtain ⟨g9, cp9, rfl, -, -⟩ := hown9.form (by omega)
      have Q13 := Lib.hid (Q11.out.num (m := Lib.itoa y) hw1 n1 n3 (by rw [H8.out]; exact hown9) hb9 hk9)
      have q1 := Q13.out.1.cell
      have q2 := Q13.out.1.frozen
      clear hown9 hb9 hk9
      gi_wp2
      have Q14 := Q13.out.2.2.1
      have Q15 := Q12.out.trans Q13.out.2.2.2
      have e9 : pTL zs ys (pre ++ [x]) = l2 ++ Lib.itoa z ++ [58] ++ Lib.itoa y := by rw [HS.out]; simp
      exact ⟨Q15.oth.from _, Q15.kp, ⟨⟨_, Q14.box, by rw [e9]; exact Q14.row, trivial⟩, Q14.prf⟩, HB.out.trans Q15.kp.1⟩
    case neg =>
      obtain rfl : x = 0 := by omega
      rw [if_neg hx] at HSN
      gi_wp2_with fail
      obtain ⟨W2, hW2⟩ : ∃ W2, W2 = W := ⟨_, rfl⟩
      have Q3 := T0
      have Q4 := Lib.hid (Stp.refl w.heap.size (w1.heap.size + 1) W)
      obtain ⟨l2, hl2⟩ : ∃ l2, l2 = l0 := ⟨_, rfl⟩
      have HS : Hid (pTL zs ys (pre ++ [0]) = l2 ++ (Lib.itoa z ++ ([58] ++ Lib.itoa y))) := Lib.hid (by rw [HSN.out, hl2]; simp)
      have hl : l2.length ≤ 42 * pre.length + 1 := by rw [hl2]; omega
      rw [← hl2] at Q3
      clear hl2 HSN
      have hs2 := Q4.out.oth.size
      clear cX cT
      refine ⟨trivial, (CallsIn.inRound l (callsIn_wide.2 (aio_any w.heap.size _ z (by omega) (by omega) _ _ _ Q3.out.row (by omega) (by omega) (HT.out.tab (HB.out.trans Q4.out.kp.1) (Nat.le_refl _))))).mono ?_⟩
      rintro e w5 ⟨v5, rfl, hown5, hb5, hk5⟩
      obtain ⟨g5, cp5, rfl, -, -⟩ := hown5.form (by omega)
      have hs5 := hb5.size
      have Q5 := Lib.hid (Q3.out.num (m := Lib.itoa z) hw1 n1 n3 hown5 hb5 hk5)
      have q1 := Q5.out.1.cell
      have q2 := Q5.out.1.frozen
      clear hown5 hb5 hk5
      gi_wp2_with (gi_at_builtin; refine wpListIn_append_own _ rfl _ _ 30 rfl w.heap.size 5 i0 (.int .u8 0) 1 1 Tryd.underlying30 hi hz0 hz1 hz2 rfl (by decide) (.slice (some ⟨g5, 0, none⟩) (l2.length + (Lib.itoa z).length) cp5) (l2 ++ Lib.itoa z).length (Lib.byteCells (l2 ++ Lib.itoa z)) rfl (Q5.out.2.2.1.row.alloc _) ⟨w5.heap.size, 0, none⟩ 1 1 [.int .u8 58] rfl rfl (c1n (by simp)) (by simp [Value.oneCell']) (by unfold maxLen; (try simp only [List.length_append]); omega) (by (try simp only [List.length_append]); omega) (by simp; omega) ?_; intro v7 wb hown hgrow _; obtain ⟨g7, cp7, rfl⟩ := ownsRow_succ hown; have Q7 := Lib.hid (Q5.out.2.2.1.put (m := [58]) (by simp; omega) hw1 n1 n3 rfl hown hgrow); have r1 := Q7.out.1.cell; have r2 := Q7.out.1.frozen; have r3 := Q7.out.2.1.cell 1 rfl; clear hown hgrow)
      have Q9 := Q7.out.2.2.1
      have Q10 := Q7.out.2.2.2
      rw [List.length_append] at Q9 Q10
      obtain ⟨W8, hW8⟩ : ∃ W8, W8 = wb.setCell ⟨w1.heap.size, 0, none⟩ (.slice (some ⟨g7, 0, none⟩) (l2.length + (Lib.itoa z).length + 1) cp7) := ⟨_, rfl⟩
      rw [← hW8] at Q9 Q10
      rw [← hW8]
      have Q11 := Lib.hid Q9
      have Q12 := Lib.hid (Q4.out.trans (Q5.out.2.2.2.trans Q10))
      have hs9 := Q12.out.oth.size
      clear hW8 Q9 Q10 Q7 Q5 q1 q2 r1 r2 r3
      obtain ⟨N8, hN8⟩ : ∃ N, (l2 ++ Lib.itoa z ++ [58]).length = N := ⟨_, rfl⟩
      have hN8b : N8 ≤ 42 * pre.length + 22 := by rw [← hN8]; simp only [List.length_append, List.length_cons, List.length_nil]; omega
      have ly := itoa_len (x := y) (by omega)
      have H8 := Lib.hid hN8
      clear hN8
      refine ⟨trivial, (CallsIn.inRound l (callsIn_wide.2 (aio_any w.heap.size N8 y (by omega) (by omega) _ (Lib.byteCells (l2 ++ Lib.itoa z ++ [58])) W8 (by rw [← H8.out]; exact Q11.out.row) (by omega) (by omega) (HT.out.tab (HB.out.trans Q12.out.kp.1) (Nat.le_refl _))))).mono ?_⟩
      rintro e w9 ⟨v9, rfl, hown9, hb9, hk9⟩
      obtain ⟨g9, cp9, rfl, -, -⟩ := hown9.form (by omega)
      have Q13 := Lib.hid (Q11.out.num (m := Lib.itoa y) hw1 n1 n3 (by rw [H8.out]; exact hown9) hb9 hk9)
      have q1 := Q13.out.1.cell
      have q2 := Q13.out.1.frozen
      clear hown9 hb9 hk9
      gi_wp2
      have Q14 := Q13.out.2.2.1
      have Q15 := Q12.out.trans Q13.out.2.2.2
      have e9 : pTL zs ys (pre ++ [0]) = l2 ++ Lib.itoa z ++ [58] ++ Lib.itoa y := by rw [HS.out]; simp
      exact ⟨Q15.oth.from _, Q15.kp, ⟨⟨_, Q14.box, by rw [e9]; exact Q14.row, trivial⟩, Q14.prf⟩, HB.out.trans Q15.kp.1⟩
  case done =>
    rintro D xs W hD rfl ⟨⟨⟨sv, bT, hrow, -⟩, bP'⟩, hB⟩ hK
    have hpos := (pTL_len HO.out (List.range zs.length)).2 (by simp; omega)
    obtain ⟨g, cap, rfl, hg1, hg2⟩ := hrow.form hpos
    have hcv := own_conv _ hrow
    have cT := bT.cell
    gi_wp2
    refine ⟨by simp, .inl ⟨_, _, rfl, run_takeDeferred hK, ?_⟩⟩
    exact ⟨_, results_tmp rfl _ _ _, rfl, hB.trans (belowK_b (w := w) (Nat.le_refl _) W D _ _ (by omega) hK rfl rfl)⟩
  case stop =>
    rintro D c pre W _ _ h _
    exact h.elim
end Go.Proofs.YtcaekheghjnipabDoor
