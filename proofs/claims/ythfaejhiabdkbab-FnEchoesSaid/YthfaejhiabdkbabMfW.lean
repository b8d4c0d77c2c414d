/- The walk of the law FnEchoes over drawn data: it returns true and writes nothing that was there. -/
import Derived.Test.YthfaejhiabdkbabPuX
import Derived.Test.YthfaejhiabdkbabPuE
import Derived.Test.YthfaejhiabdkbabMfU
import Derived.Test.YthfaejhiabdkbabMfC
import Derived.Test.YthfaejhiabdkbabMfD
import Derived.Test.YthfaejhiabdkbabMfK
import Derived.Test.YthfaejhiabdkbabDice
import Derived.Test.YthfaejhiabdkbabLys
namespace Go.Proofs.Ythfaejhiabdkbab
open Go.ChangeShapes Go.WideShapes Go.ChangeAt Go.RowKit Go.Shelf Num
set_option linter.unusedVariables false
set_option linter.unusedSimpArgs false
/-- the laws' comparison of a list with itself -/
theorem lke_any (w : World) (a b : Option Addr) (c d : Nat) (xs : List Int) (hl : xs.length ≤ 1048576) (hx : Ints .i64 w w.heap.size a xs) (hy : Ints .i64 w w.heap.size b xs) :
    Calls Try.prog 23 #[.slice a xs.length c, .slice b xs.length d] w fun e w' => e = .returned (.bool true) ∧ Below w.heap.size w w' :=
  (lki_any w w.heap.size a b c d xs hl hx hy).mono (by rintro e w' ⟨rfl, n, rfl⟩; exact ⟨rfl, bel_drewN (Below.refl _ _) _⟩)
/-- the arguments of a search that a law draws -/
def FeD (w : World) (e : Ending) (w' : World) : Prop := ∃ (a0 : Option Addr) (c0 n0 : Nat) (a1 : Option Addr) (c1 n1 : Nat) (ss ps : List Int) (th mo : Int), e = .returned (.tuple #[.slice a0 n0 c0, .slice a1 n1 c1, .int .i64 th, .int .i64 mo]) ∧ (ss.length = n0 ∧ ps.length = n1) ∧ (n0 ≤ 401 ∧ n1 ≤ 401) ∧ (n0 ≤ c0 ∧ n1 ≤ c1) ∧ Ints .i64 w' w'.heap.size a0 ss ∧ Ints .i64 w' w'.heap.size a1 ps ∧ Below w.heap.size w w'
set_option maxHeartbeats 2000000 in
theorem dfe_any (w : World) (a : Option Addr) (cap : Nat) (zs : List Int) (h : Code8 w w.heap.size a zs) :
    Calls Try.prog 19 #[.slice a zs.length cap] w (FeD w) := by
  have H := Lib.hid h
  clear h
  go_enter Try.func19, Try.ntmps19
  go_wp2_with fail
  refine (from_any _ _ _ zs H.out).mono ?_
  rintro e w1 ⟨s, rfl, hs, hsrc, hb⟩
  have HS := Lib.hid hsrc
  have HB := Lib.hid hb
  have hsz := hb.size
  clear hsrc hb
  go_wp2_with fail
  refine (dsn_any _ _ HS.out).mono ?_
  rintro e w2 ⟨a0, c0, n0, a1, c1, n1, ss, ps, rfl, hl, hn, hc, h0, h1, hsr, hg⟩
  have HL := Lib.hid hl
  have HNN := Lib.hid hn
  have HCC := Lib.hid hc
  have H0 := Lib.hid h0
  have H1 := Lib.hid h1
  have HSr := Lib.hid hsr
  have HG := Lib.hid hg
  clear hl hn hc h0 h1 hsr hg
  go_wp2_with fail
  refine (nxt_any _ _ _ HSr.out).mono ?_
  rintro e w3 ⟨x, rfl, x0, h1_, -, hsr, hg⟩
  have h_x := h1_ (by omega)
  clear h1_
  replace HSr := Lib.hid hsr
  replace H0 := Lib.hid (H0.out.draw hg)
  replace H1 := Lib.hid (H1.out.draw hg)
  replace HG := Lib.hid (grown_trans HG.out hg)
  clear hsr hg
  go_wp2_with fail
  refine (nxt_any _ _ _ HSr.out).mono ?_
  rintro e w4 ⟨y, rfl, y0, h1_, -, hsr, hg⟩
  have h_y := h1_ (by omega)
  clear h1_
  replace HSr := Lib.hid hsr
  replace H0 := Lib.hid (H0.out.draw hg)
  replace H1 := Lib.hid (H1.out.draw hg)
  replace HG := Lib.hid (grown_trans HG.out hg)
  clear hsr hg
  go_wp2_with fail
  refine (nxt_any _ _ _ HSr.out).mono ?_
  rintro e w5 ⟨q, rfl, q0, h1_, -, hsr, hg⟩
  have h_q := h1_ (by omega)
  clear h1_
  replace HSr := Lib.hid hsr
  replace H0 := Lib.hid (H0.out.draw hg)
  replace H1 := Lib.hid (H1.out.draw hg)
  replace HG := Lib.hid (grown_trans HG.out hg)
  clear hsr hg
  by_cases q0_ : q = 0
  case pos =>
    subst q0_
    go_wp2_with fail
    refine (pick_new _ s 2 2 [0, 1000000000001] _ HSr.out rfl (by omega) (by omega) ?hc).mono ?_
    case hc => intro j hj; match j, hj with
      | 0, _ => rfl
      | 1, _ => rfl
    rintro e w6 ⟨j, hj, rfl, hsr, hg⟩
    replace H0 := Lib.hid ((H0.out.al _).draw hg)
    replace H1 := Lib.hid ((H1.out.al _).draw hg)
    replace HG := Lib.hid (grown_trans (grown_alloc HG.out _) hg)
    clear hsr hg
    obtain ⟨z, hz⟩ : ∃ z : Int, [(0 : Int), 1000000000001].getD j 0 = z := ⟨_, rfl⟩
    rw [hz]
    clear hz hj
    have HR := Lib.hid (HB.out.trans (below_of_grown HG.out hs HB.out.size))
    have I0 := Lib.hid H0.out.ints
    have I1 := Lib.hid H1.out.ints
    go_wp2
    exact bodyPost_ret (v := .tuple #[.slice a0 n0 c0, .slice a1 n1 c1, .int .i64 z, .int .i64 y]) (by simp [results, Try.results19, go_sem]) rfl ⟨a0, c0, n0, a1, c1, n1, ss, ps, _, _, rfl, HL.out, HNN.out, HCC.out, I0.out, I1.out, HR.out⟩
  case neg =>
    have hq0 : (q == 0) = false := by simpa using q0_
    by_cases q1_ : q = 1
    case pos =>
      subst q1_
      clear q0_
      go_wp2_with fail
      refine (pick_new _ s 3 3 [-1, 10, 11] _ HSr.out rfl (by omega) (by omega) ?hc).mono ?_
      case hc => intro j hj; match j, hj with
        | 0, _ => rfl
        | 1, _ => rfl
        | 2, _ => rfl
      rintro e w6 ⟨j, hj, rfl, hsr, hg⟩
      replace H0 := Lib.hid ((H0.out.al _).draw hg)
      replace H1 := Lib.hid ((H1.out.al _).draw hg)
      replace HG := Lib.hid (grown_trans (grown_alloc HG.out _) hg)
      clear hsr hg
      obtain ⟨z, hz⟩ : ∃ z : Int, [(-1 : Int), 10, 11].getD j 0 = z := ⟨_, rfl⟩
      rw [hz]
      clear hz hj
      have HR := Lib.hid (HB.out.trans (below_of_grown HG.out hs HB.out.size))
      have I0 := Lib.hid H0.out.ints
      have I1 := Lib.hid H1.out.ints
      go_wp2
      exact bodyPost_ret (v := .tuple #[.slice a0 n0 c0, .slice a1 n1 c1, .int .i64 (1 + x), .int .i64 z]) (by simp [results, Try.results19, go_sem]) rfl ⟨a0, c0, n0, a1, c1, n1, ss, ps, _, _, rfl, HL.out, HNN.out, HCC.out, I0.out, I1.out, HR.out⟩
    case neg =>
      have hq1 : (q == 1) = false := by simpa using q1_
      clear q0_ q1_
      have HR := Lib.hid (HB.out.trans (below_of_grown HG.out hs HB.out.size))
      have I0 := Lib.hid H0.out.ints
      have I1 := Lib.hid H1.out.ints
      go_wp2
      exact bodyPost_ret (v := .tuple #[.slice a0 n0 c0, .slice a1 n1 c1, .int .i64 (1 + x), .int .i64 y]) (by simp [results, Try.results19, go_sem]) rfl ⟨a0, c0, n0, a1, c1, n1, ss, ps, _, _, rfl, HL.out, HNN.out, HCC.out, I0.out, I1.out, HR.out⟩
theorem feC_cases (ss ps : List Int) (th mo : Int) : feC ss ps th mo = 1 ∨ feC ss ps th mo = 5 ∨ mtC ss ps = 0 := by
  rcases mtC_cases ss ps with h | h | h
  · exact Or.inr (Or.inr h)
  · left; rw [feC_err (by rw [h]; decide), h]
  · right; left; rw [feC_err (by rw [h]; decide), h]
theorem feD_bd (ss ps : List Int) (th mo : Int) : (feD ss ps th mo).length = (feG ss ps th mo).length ∧ ((feD ss ps th mo).length : Int) ≤ (if 0 < mo then mo else 0) := by
  by_cases h : feC ss ps th mo = 0
  · obtain ⟨e1, e2⟩ := feD_ok h
    rw [e1, e2]
    obtain ⟨h1, h2⟩ := fGo_len ps th mo.toNat ss [] [] rfl
    simp only [List.length_nil] at h2
    refine ⟨h1, ?_⟩
    split <;> omega
  · obtain ⟨e1, e2⟩ := feD_no h
    rw [e1, e2]
    refine ⟨rfl, ?_⟩
    simp only [List.length_nil]
    split <;> omega
theorem feD_len2 (ss ps : List Int) (th mo : Int) : (feD ss ps th mo).length ≤ 10 ∧ (feG ss ps th mo).length ≤ 10 := by
  by_cases h : feC ss ps th mo = 0
  · have hb := feD_bd ss ps th mo
    have hm : mo ≤ 10 := by
      unfold feC at h
      split at h
      · split at h
        · rename_i hh
          unfold hasB at hh
          simp only [Bool.and_eq_true, decide_eq_true_eq] at hh
          omega
        · omega
      · rename_i h0
        exact absurd h h0
    have h2 := hb.2
    split at h2 <;> omega
  · obtain ⟨e1, e2⟩ := feD_no h
    rw [e1, e2]
    exact ⟨by simp, by simp⟩
theorem ints_bk {W : World} {g : Nat} {x : Int} {t : TypeId} (h : Bk W g #[.int .i64 x] t) : Ints .i64 W W.heap.size (some ⟨g, 0, none⟩) [x] := fun _ => ⟨g, 0, rfl, h.lt, fun j hj => by
  have : j < 1 := hj
  obtain rfl : j = 0 := by omega
  exact h.cell 0 rfl⟩
theorem anyLack_one (lo hi x : Int) : anyLack lo hi [x] = !hasB lo hi x := by unfold anyLack; simp
theorem ec_one {ps : List Int} {at_ len : Nat} {g : Int} (hp : sigB ps = true) (h : at_ + ps.length ≤ len) (hl : len ≤ at_ + ps.length + 29) (ha : at_ ≤ 29) (g1 : 1 ≤ g) (g2 : g ≤ 9) :
    (ecC ps [(at_ : Int)] [g] (len : Int) = 0 ∧ ecL ps [(at_ : Int)] [g] (len : Int) = oneE len at_ g ps ∧ sigB (oneE len at_ g ps) = true) ∨ ecC ps [(at_ : Int)] [g] (len : Int) = 3 ∨ (ecC ps [(at_ : Int)] [g] (len : Int) = 2 ∧ 300 < ps.length) := by
  have hT : ecT (len : Int).toNat ps [(at_ : Int)] [g] [(at_ : Int)].length = oneE len at_ g ps := by
    show addE (List.replicate (len : Int).toNat 0) (([(at_ : Int)].getD 0 0)).toNat ([g].getD 0 0) ps ps.length = _
    rw [Int.toNat_natCast]
    rfl
  by_cases h4 : len ≤ 400
  · have hok : ecOK ps [(at_ : Int)] [g] (len : Int) = true := by
      unfold ecOK
      rw [anyLack_one, anyLack_one]
      unfold hasB
      rw [decide_eq_true (show (0 : Int) ≤ (len : Int) by omega), decide_eq_true (show (len : Int) ≤ 400 by omega), decide_eq_true (show -1000 ≤ g by omega), decide_eq_true (show g ≤ 1000 by omega), decide_eq_true (show (0 : Int) ≤ (at_ : Int) by omega), decide_eq_true (show (at_ : Int) ≤ (len : Int) - (ps.length : Int) by omega)]
      rfl
    have hC : ecC ps [(at_ : Int)] [g] (len : Int) = if sigB (oneE len at_ g ps) then 0 else 3 := by unfold ecC; rw [hp, hok, hT]; rfl
    cases hs : sigB (oneE len at_ g ps)
    · right; left; rw [hC, hs]; rfl
    · left
      rw [hs] at hC
      have hC0 : ecC ps [(at_ : Int)] [g] (len : Int) = 0 := hC
      refine ⟨hC0, ?_, rfl⟩
      unfold ecL
      rw [if_pos hC0, hT]
  · right; right
    have hok : ecOK ps [(at_ : Int)] [g] (len : Int) = false := by
      unfold ecOK hasB
      rw [decide_eq_false (show ¬ (len : Int) ≤ 400 by omega)]
      simp
    exact ⟨by unfold ecC; rw [hp, hok]; rfl, by omega⟩
theorem dice_lt {W : World} {s : Nat} (h : Dice W s) : s < W.heap.size := by
  obtain ⟨a, cap, zs, k, q, hb0, -⟩ := h
  exact (Array.getElem?_eq_some_iff.1 hb0).1
theorem dice_on {W W' : World} {s : Nat} (h : Dice W s) (hb : Below W.heap.size W W') : Dice W' s := by
  have hs := dice_lt h
  obtain ⟨a, cap, zs, k, q, hb0, hc, rest⟩ := h
  exact ⟨a, cap, zs, k, q, (hb.block s hs).trans hb0, hc.below (hb.mono (by omega)) (Nat.le_refl _), rest⟩
theorem IntL.belowB {w w' : World} {L B : Nat} {a : Option Addr} {zs : List Int} (h : IntL w L a zs) (hb : Below B w w') (hL : L ≤ B) : IntL w' L a zs := ⟨h.at_.below (hb.mono hL), Nat.le_trans h.le hb.size⟩

set_option maxRecDepth 100000 in
set_option maxHeartbeats 8000000 in
theorem lfes (a0 : Option Addr) (len0 cap0 : Nat) (z0 : List Int) (w : World) (w0 : IsRow .u8 w a0 len0 cap0 z0) :
    Calls Try.prog 6 #[.slice a0 len0 cap0] w fun e w' => e = .returned (.bool true) ∧ Below w.heap.size w w' := by
  obtain ⟨hlen, hcode⟩ := Code8.of_row w0
  obtain ⟨zs, hzs⟩ : ∃ zs, z0.take len0 = zs := ⟨_, rfl⟩
  rw [hzs] at hlen hcode
  subst hlen
  clear hzs w0
  have HC := Lib.hid hcode
  clear hcode
  have HB := Lib.hid (Below.refl w.heap.size w)
  by_cases hbig : 4096 < zs.length
  · have hd : decide ((4096 : Int) < (zs.length : Int)) = true := by simp; omega
    go_enter Try.func6, Try.ntmps6
    go_wp2_with (go_at_call 9; refine (big_any _ _ _ _).mono ?_; rw [hd]; rintro e w' ⟨rfl, rfl⟩)
    go_ret
    exact ⟨rfl, Below.refl _ _⟩
  · have hd : decide ((4096 : Int) < (zs.length : Int)) = false := by simp; omega
    go_enter Try.func6, Try.ntmps6
    go_wp2_with (go_at_call 9; refine (big_any _ _ _ _).mono ?_; rw [hd]; rintro e w' ⟨rfl, rfl⟩)
    clear hd
    refine (dfe_any _ _ _ zs HC.out).mono ?_
    rintro e w1 ⟨sa, sc, sn, pa, pc, pn, ss, ps, th, mo, rfl, ⟨rfl, rfl⟩, ⟨n0, n1⟩, ⟨k0, k1⟩, hp, hd, hb⟩
    replace HB := Lib.hid (HB.out.trans (hb.mono HB.out.size))
    have q1 := hb.size
    have HS := Lib.hid (IntL.of hp)
    have HP := Lib.hid (IntL.of hd)
    clear hp hd hb
    have l12 : (feD ss ps th mo).length ≤ 10 ∧ (feG ss ps th mo).length ≤ 10 := feD_len2 ss ps th mo
    have HLE : Hid ((feD ss ps th mo).length = (feG ss ps th mo).length ∧ ((feD ss ps th mo).length : Int) ≤ (if 0 < mo then mo else 0)) := Lib.hid (feD_bd ss ps th mo)
    have HFC : Hid (feC ss ps th mo = 1 ∨ feC ss ps th mo = 5 ∨ mtC ss ps = 0) := Lib.hid (feC_cases ss ps th mo)
    obtain ⟨LD, hLD⟩ : ∃ x, feD ss ps th mo = x := ⟨_, rfl⟩
    obtain ⟨LG, hLG⟩ : ∃ x, feG ss ps th mo = x := ⟨_, rfl⟩
    obtain ⟨qx, hqx⟩ : ∃ x, feC ss ps th mo = x := ⟨_, rfl⟩
    rw [hLD, hLG] at l12 HLE
    rw [hqx] at HFC
    obtain ⟨l1, l2⟩ := l12
    have S1 : Hid (∀ (W : World) (a0 a1 : Option Addr) (c0 c1 : Nat), ss.length ≤ c0 → ps.length ≤ c1 → Ints .i64 W W.heap.size a0 ss → Ints .i64 W W.heap.size a1 ps → Calls Try.prog 13 #[.slice a0 ss.length c0, .slice a1 ps.length c1, .int .i64 th, .int .i64 mo] W fun e w' => ∃ (b0 : Option Addr) (d0 : Nat) (b1 : Option Addr) (d1 : Nat), e = .returned (.tuple #[.slice b0 LD.length d0, .slice b1 LG.length d1, .int .i64 qx]) ∧ OwnQ w' W.heap.size w'.heap.size b0 d0 b1 d1 LD LG ∧ Below W.heap.size W w') := Lib.hid (fun W a0 a1 c0 c1 hc0 hc1 h0 h1 => by have := sfe_any W a0 a1 c0 c1 ss ps th mo (by omega) (by omega) h0 h1; rwa [hLD, hLG, hqx] at this)
    have S2 : Hid (∀ (W : World) (a0 a1 : Option Addr) (c0 c1 : Nat), ss.length ≤ c0 → ps.length ≤ c1 → Ints .i64 W W.heap.size a0 ss → Ints .i64 W W.heap.size a1 ps → Calls Try.prog 15 #[.slice a0 ss.length c0, .slice a1 ps.length c1, .int .i64 th, .int .i64 mo] W fun e w' => ∃ (b0 : Option Addr) (d0 : Nat) (b1 : Option Addr) (d1 : Nat), e = .returned (.tuple #[.slice b0 LD.length d0, .slice b1 LG.length d1, .int .i64 qx]) ∧ OwnQ w' W.heap.size w'.heap.size b0 d0 b1 d1 LD LG ∧ Below W.heap.size W w') := Lib.hid (fun W a0 a1 c0 c1 hc0 hc1 h0 h1 => by have := ife_any W a0 a1 c0 c1 ss ps th mo (by omega) (by omega) hc0 hc1 h0 h1; rwa [hLD, hLG, hqx] at this)
    clear hLD hLG hqx
    go_wp2_with fail
    refine (S2.out _ _ _ _ _ k0 k1 HS.out.ints HP.out.ints).mono ?_
    rintro e w2 ⟨Qa, Qc, Qb, Qd, rfl, ho, hb⟩
    replace HS := Lib.hid (HS.out.on hb)
    replace HP := Lib.hid (HP.out.on hb)
    replace HB := Lib.hid (HB.out.trans (hb.mono HB.out.size))
    have q2 := hb.size
    have Q := Lib.hid ho
    clear ho hb
    go_wp2_with fail
    refine (S1.out _ _ _ _ _ k0 k1 HS.out.ints HP.out.ints).mono ?_
    rintro e w3 ⟨Ra, Rc, Rb, Rd, rfl, ho, hb⟩
    replace HS := Lib.hid (HS.out.on hb)
    replace HP := Lib.hid (HP.out.on hb)
    replace Q := Lib.hid (Q.out.on hb)
    replace HB := Lib.hid (HB.out.trans (hb.mono HB.out.size))
    have q3 := hb.size
    have R := Lib.hid ho
    clear ho hb
    clear S1 S2
    go_wp2_with fail
    refine (ddl_any _ _ _ zs (HC.out.below HB.out (Nat.le_refl _) |>.more HB.out.size)).mono ?_
    rintro e w4 ⟨ya, yc, yn, za, zc, zn, ys, zz, rfl, ⟨rfl, rfl⟩, ⟨m0, m1⟩, ⟨j0, j1⟩, hp, hd, hb⟩
    replace HS := Lib.hid (HS.out.on hb)
    replace HP := Lib.hid (HP.out.on hb)
    replace Q := Lib.hid (Q.out.on hb)
    replace R := Lib.hid (R.out.on hb)
    replace HB := Lib.hid (HB.out.trans (hb.mono HB.out.size))
    have q4 := hb.size
    have HY := Lib.hid (IntL.of hp)
    have HZ := Lib.hid (IntL.of hd)
    clear hp hd hb
    obtain ⟨dv, hdv⟩ : ∃ x, dlV ys zz = x := ⟨_, rfl⟩
    obtain ⟨dq, hdq⟩ : ∃ x, mtC ys zz = x := ⟨_, rfl⟩
    have S3 : Hid (∀ (W : World) (a b : Option Addr) (c d : Nat), ys.length ≤ c → Ints .i64 W W.heap.size a ys → Ints .i64 W W.heap.size b zz → Calls Try.prog 22 #[.slice a ys.length c, .slice b zz.length d] W fun e w' => e = .returned (.tuple #[.int .i64 dv, .int .i64 dq]) ∧ Below W.heap.size W w') := Lib.hid (fun W a b c d hc h0 h1 => by have := sdl_any W a b c d ys zz (by omega) (by omega) h0 h1; rwa [hdv, hdq] at this)
    have S4 : Hid (∀ (W : World) (a b : Option Addr) (c d : Nat), ys.length ≤ c → Ints .i64 W W.heap.size a ys → Ints .i64 W W.heap.size b zz → Calls Try.prog 21 #[.slice a ys.length c, .slice b zz.length d] W fun e w' => e = .returned (.tuple #[.int .i64 dv, .int .i64 dq]) ∧ Below W.heap.size W w') := Lib.hid (fun W a b c d hc h0 h1 => by have := idl_any W a b c d ys zz (by omega) (by omega) hc h0 h1; rwa [hdv, hdq] at this)
    clear hdv hdq
    go_wp2_with fail
    refine (S4.out _ _ _ _ _ j0 HY.out.ints HZ.out.ints).mono ?_
    rintro e w5 ⟨rfl, hb⟩
    replace HS := Lib.hid (HS.out.on hb)
    replace HP := Lib.hid (HP.out.on hb)
    replace Q := Lib.hid (Q.out.on hb)
    replace R := Lib.hid (R.out.on hb)
    replace HY := Lib.hid (HY.out.on hb)
    replace HZ := Lib.hid (HZ.out.on hb)
    replace HB := Lib.hid (HB.out.trans (hb.mono HB.out.size))
    have q5 := hb.size
    clear hb
    go_wp2_with fail
    refine (S3.out _ _ _ _ _ j0 HY.out.ints HZ.out.ints).mono ?_
    rintro e w6 ⟨rfl, hb⟩
    replace HS := Lib.hid (HS.out.on hb)
    replace HP := Lib.hid (HP.out.on hb)
    replace Q := Lib.hid (Q.out.on hb)
    replace R := Lib.hid (R.out.on hb)
    replace HY := Lib.hid (HY.out.on hb)
    replace HZ := Lib.hid (HZ.out.on hb)
    replace HB := Lib.hid (HB.out.trans (hb.mono HB.out.size))
    have q6 := hb.size
    clear hb
    clear S3 S4
    clear HY HZ
    go_wp2_with fail
    refine (lke_any _ _ _ _ _ LD (by omega) Q.out.fst.ints R.out.fst.ints).mono ?_
    rintro e w7 ⟨rfl, hb⟩
    replace HS := Lib.hid (HS.out.on hb)
    replace HP := Lib.hid (HP.out.on hb)
    replace Q := Lib.hid (Q.out.on hb)
    replace R := Lib.hid (R.out.on hb)
    replace HB := Lib.hid (HB.out.trans (hb.mono HB.out.size))
    have q7 := hb.size
    clear hb
    go_wp2_with fail
    refine (lke_any _ _ _ _ _ LG (by omega) Q.out.snd.ints R.out.snd.ints).mono ?_
    rintro e w8 ⟨rfl, hb⟩
    replace HS := Lib.hid (HS.out.on hb)
    replace HP := Lib.hid (HP.out.on hb)
    replace Q := Lib.hid (Q.out.on hb)
    replace R := Lib.hid (R.out.on hb)
    replace HB := Lib.hid (HB.out.trans (hb.mono HB.out.size))
    have q8 := hb.size
    clear hb
    clear Q R
    obtain ⟨M, hM⟩ : ∃ M : Int, (if 0 < mo then mo else 0) = M := ⟨_, rfl⟩
    rw [hM] at HLE
    have hle1 := HLE.out.1
    have hle2 := HLE.out.2
    have hlb : ((LD.length : Int) != (LG.length : Int)) = false := by rw [hle1]; simp
    clear hle1
    go_upto_region 11 with fail
    clear hle2 hlb hM HLE
    by_cases hq1 : qx = 1
    · subst hq1
      go_wp2
      go_ret
      exact ⟨rfl, HB.out⟩
    by_cases hq5 : qx = 5
    · subst hq5
      go_wp2
      go_ret
      exact ⟨rfl, HB.out⟩
    have HMT : Hid (mtC ss ps = 0) := Lib.hid (by rcases HFC.out with h | h | h; exact absurd h hq1; exact absurd h hq5; exact h)
    obtain ⟨-, hsp, hp0, -⟩ := mtC_0 HMT.out
    have hp4 := (sigB_t hsp).1
    have HSP := Lib.hid hsp
    have hb1 : (qx == 1) = false := by simpa using hq1
    have hb5 : (qx == 5) = false := by simpa using hq5
    clear hq1 hq5 HFC HMT hsp
    have qL := HP.out.le
    go_wp2_with fail
    refine (roll_any _ _ _ zs _ (HC.out.below HB.out (Nat.le_refl _) |>.more HB.out.size)).mono ?_
    rintro e w5 ⟨s, rfl, hs0, hdice, hb⟩
    have HD := Lib.hid hdice
    have HBD := Lib.hid hb
    clear hdice hb hb1 hb5
    go_wp2_with fail
    refine (bel_any _ s 9 (by decide) HD.out).mono ?_
    rintro e w6 ⟨v, rfl, v0, v1, hd, hg⟩
    replace HBD := Lib.hid (HBD.out.trans (below_grP hg hs0 HBD.out.size))
    replace HD := Lib.hid hd
    clear hd hg
    obtain ⟨gn, hgn, g1, g2⟩ : ∃ gn : Int, 1 + v = gn ∧ 1 ≤ gn ∧ gn ≤ 9 := ⟨1 + v, rfl, by omega, by omega⟩
    have hgw : IntKind.wrap .i64 (1 + v) = gn := by rw [← hgn]; exact IntWalk.i64_in _ (by omega)
    have hcC : clC ps gn 0 = 0 := by unfold clC hasB; rw [HSP.out, decide_eq_true (by omega), decide_eq_true (by omega)]; rfl
    have hcR : clR ps gn 0 = clB ps gn 0 := by unfold clR; rw [if_pos hcC]
    have KI := icl_any w6 pa pc ps gn 0 (by omega) k1 (HP.out.belowB HBD.out (by omega)).ints
    rw [hcC, hcR] at KI
    have HKI := Lib.hid KI
    clear KI hcC hcR hgn
    go_wp2_with fail
    refine HKI.out.mono ?_
    rintro e w7 ⟨rfl, hb⟩
    replace HBD := Lib.hid (HBD.out.trans (hb.mono HBD.out.size))
    replace HD := Lib.hid (dice_on HD.out hb)
    clear hb HKI hgw
    obtain ⟨ok, hok⟩ : ∃ b, clB ps gn 0 = b := ⟨_, rfl⟩
    rw [hok]
    have HOK := Lib.hid hok
    clear hok
    go_wp2_with fail
    refine (bel_any _ s 30 (by decide) HD.out).mono ?_
    rintro e w8 ⟨u, rfl, u0, u1, hd, hg⟩
    replace HBD := Lib.hid (HBD.out.trans (below_grP hg hs0 HBD.out.size))
    replace HD := Lib.hid hd
    clear hd hg
    obtain ⟨at_, rfl⟩ : ∃ at_ : Nat, u = (at_ : Int) := ⟨u.toNat, by omega⟩
    obtain ⟨W9, hW9⟩ : ∃ X, X = (w8.alloc (.cells #[.int .i64 (at_ : Int)] 2)).alloc (.cells #[.int .i64 gn] 2) := ⟨_, rfl⟩
    obtain ⟨ga, hga⟩ : ∃ g, w8.heap.size = g := ⟨_, rfl⟩
    have bA : Bk W9 ga #[.int .i64 (at_ : Int)] 2 := by rw [hW9, ← hga]; exact (Bk.new' rfl).alloc _
    have bG : Bk W9 (ga + 1) #[.int .i64 gn] 2 := by rw [hW9, ← hga]; exact Bk.new' (by simp)
    have hb : Below w8.heap.size w8 W9 := by rw [hW9]; exact (by repeat (first | exact Below.refl _ _ | (refine Below.alloc ?_ (by simp <;> omega) _) | (refine Below.setCell ?_ (by simp <;> omega) _) | (refine Below.drew ?_) | (refine bel_drewN ?_ _)))
    have hsl : s < ga := by rw [← hga]; exact dice_lt HD.out
    replace HBD := Lib.hid (HBD.out.trans (hb.mono HBD.out.size))
    replace HD := Lib.hid (dice_on HD.out hb)
    clear hb
    go_wp2_with (go_at_call 25; rw [← hW9]; refine (bel_any _ s 30 (by decide) HD.out).mono ?_; rintro e w10 ⟨v2, rfl, v20, v21, hd, hg⟩; replace HBD := Lib.hid (HBD.out.trans (below_grP hg hs0 HBD.out.size)); replace HD := Lib.hid hd; replace bA := bA.kept hg (by simp; omega); replace bG := bG.kept hg (by simp; omega); clear hd hg)
    obtain ⟨V, rfl⟩ : ∃ V : Nat, v2 = (V : Int) := ⟨v2.toNat, by omega⟩
    obtain ⟨N, hN⟩ : ∃ N : Nat, at_ + ps.length + V = N := ⟨_, rfl⟩
    have eN : (at_ : Int) + (ps.length : Int) + (V : Int) = (N : Int) := by omega
    rw [eN]
    have HEC := Lib.hid (ec_one (ps := ps) (at_ := at_) (len := N) (g := gn) HSP.out (by omega) (by omega) (by omega) g1 g2)
    clear eN
    have KX := iec_any w10 pa (some ⟨ga, 0, none⟩) (some ⟨ga + 1, 0, none⟩) pc 1 1 ps [(at_ : Int)] [gn] (N : Int) (by omega) (by simp) (by simp) (HP.out.belowB HBD.out (by omega)).ints (ints_bk bA) (ints_bk bG)
    refine KX.mono ?_
    rintro e w11 ⟨xa, xc, rfl, ho, hb⟩
    have HX := Lib.hid ho
    replace HBD := Lib.hid (HBD.out.trans (hb.mono HBD.out.size))
    clear ho hb KX bA bG HD
    have HBE := Lib.hid (HB.out.trans (HBD.out.mono HB.out.size))
    obtain ⟨LE, hLE⟩ : ∃ x, ecL ps [(at_ : Int)] [gn] (N : Int) = x := ⟨_, rfl⟩
    obtain ⟨qe, hqe⟩ : ∃ x, ecC ps [(at_ : Int)] [gn] (N : Int) = x := ⟨_, rfl⟩
    rw [hLE] at HX HEC
    rw [hqe] at HEC
    rw [hLE, hqe]
    clear hLE hqe
    rcases HEC.out with ⟨h0, hL, hs⟩ | h3 | ⟨h2, h300⟩
    · subst h0
      cases hok : ok
      · go_wp2
        go_ret
        exact ⟨rfl, HBE.out⟩
      · rw [hok] at HOK
        have HFE := Lib.hid (fe_one HSP.out hp0 (show at_ + ps.length ≤ N by omega) g1 g2 HOK.out hs)
        have l4 := (sigB_t hs).1
        rw [← hL] at HFE l4
        have KF : Hid (Calls Try.prog 15 #[.slice xa LE.length xc, .slice pa ps.length pc, .int .i64 1, .int .i64 5] w11 fun e w' => ∃ (b0 : Option Addr) (d0 : Nat) (b1 : Option Addr) (d1 : Nat), e = .returned (.tuple #[.slice b0 1 d0, .slice b1 1 d1, .int .i64 0]) ∧ OwnQ w' w11.heap.size w'.heap.size b0 d0 b1 d1 [(at_ : Int)] [gn] ∧ Below w11.heap.size w11 w') := Lib.hid (by have := ife_any w11 xa pa xc pc LE ps 1 5 (by omega) (by omega) (ownA_cap HX.out) k1 HX.out.ints (HP.out.belowB HBD.out (by omega)).ints; rw [HFE.out.1, HFE.out.2.1, HFE.out.2.2] at this; exact this)
        clear hL hs HEC HFE
        go_wp2_with fail
        refine KF.out.mono ?_
        rintro e w12 ⟨fa, fc, fb, fd, rfl, ho, hb⟩
        have HQ := Lib.hid ho
        replace HBE := Lib.hid (HBE.out.trans (hb.mono HBE.out.size))
        clear ho hb KF
        obtain ⟨W13, hW13⟩ : ∃ X, X = w12.alloc (.cells #[.int .i64 (at_ : Int)] 2) := ⟨_, rfl⟩
        have hI1 : Ints .i64 W13 W13.heap.size (some ⟨w12.heap.size, 0, none⟩) [(at_ : Int)] := by rw [hW13]; exact ints_one w12 _
        have hb : Below w12.heap.size w12 W13 := by rw [hW13]; exact (by repeat (first | exact Below.refl _ _ | (refine Below.alloc ?_ (by simp <;> omega) _) | (refine Below.setCell ?_ (by simp <;> omega) _) | (refine Below.drew ?_) | (refine bel_drewN ?_ _)))
        replace HQ := Lib.hid (HQ.out.on hb)
        replace HBE := Lib.hid (HBE.out.trans (hb.mono HBE.out.size))
        clear hb
        go_wp2_with (first | (go_at_call 23; rw [← hW13]; refine (lke_any W13 _ _ _ _ [(at_ : Int)] (by simp) HQ.out.fst.ints hI1).mono ?_; rintro e w14 ⟨rfl, hb⟩; replace HQ := Lib.hid (HQ.out.on hb); replace HBE := Lib.hid (HBE.out.trans (hb.mono HBE.out.size)); clear hb hI1; have HI2 := Lib.hid (ints_one w14 gn); have HQ2 := Lib.hid (HQ.out.on ((Below.refl _ w14).alloc (Nat.le_refl _) (.cells #[.int .i64 gn] 2))); have HBE2 := Lib.hid (HBE.out.trans (((Below.refl _ w14).alloc (Nat.le_refl _) (.cells #[.int .i64 gn] 2)).mono HBE.out.size))) | (go_at_call 23; refine (lke_any (w14.alloc (.cells #[.int .i64 gn] 2)) _ _ _ _ [gn] (by simp) HQ2.out.snd.ints HI2.out).mono ?_; rintro e w15 ⟨rfl, hb⟩; have HBF := Lib.hid (HBE2.out.trans (hb.mono HBE2.out.size)); clear hb))
        go_ret
        exact ⟨rfl, HBF.out⟩
    · subst h3
      go_wp2
      go_ret
      exact ⟨rfl, HBE.out⟩
    · subst h2
      have h3i : (300 : Int) < (ps.length : Int) := by omega
      go_wp2
      go_ret
      exact ⟨by first | rfl | (simp; omega), HBE.out⟩
end Go.Proofs.Ythfaejhiabdkbab
