/- The program's greedy pairing: the loop. -/
import Derived.Test.YtlahgdhofakinaaPrX
import Derived.Laws.StructEq
namespace Go.Proofs.Ytlahgdhofakinaa
open Go.ChangeShapes Go.WideShapes Go.ChangeAt Go.RowKit Go.Shelf Num
set_option linter.unusedVariables false
set_option linter.unusedSimpArgs false
/-- how many columns of a block are free, read off the world -/
def cwG (w : World) (g j : Nat) : Nat := match w.cell? ⟨g, j, none⟩ with
  | some (.int _ z) => if z = -1 then 1 else 0
  | _ => 0
def ngW (g : Nat) (w : World) : Nat := cwG w g 0 + cwG w g 1 + cwG w g 2 + cwG w g 3 + cwG w g 4 + cwG w g 5
def nqG (q : List Int) (j : Nat) : Nat := if pI q j = -1 then 1 else 0
def ngQ (q : List Int) : Nat := nqG q 0 + nqG q 1 + nqG q 2 + nqG q 3 + nqG q 4 + nqG q 5
theorem ngW_eq {w : World} {g : Nat} {q : List Int} {t : TypeId} (h : Bk w g (arC q) t) : ngW g w = ngQ q := by
  have e : ∀ j, j < 6 → cwG w g j = nqG q j := fun j hj => by
    unfold cwG nqG
    rw [h.cell j (arC_at q j hj)]
  unfold ngW ngQ
  rw [e 0 (by omega), e 1 (by omega), e 2 (by omega), e 3 (by omega), e 4 (by omega), e 5 (by omega)]
theorem nqG_set {q : List Int} (hq : q.length = 6) {c : Int} (hc : 0 ≤ c) {r j : Nat} (hr : r < 6) (h : pI q r = -1) : nqG (q.set r c) j + (if j = r then 1 else 0) = nqG q j := by
  unfold nqG
  rw [pI_set (by omega)]
  by_cases e : j = r
  · subst e
    rw [if_pos rfl, if_pos rfl, if_neg (by omega), h, if_pos rfl]
  · rw [if_neg e, if_neg e]; rfl
theorem ngQ_set {q : List Int} (hq : q.length = 6) {c : Int} (hc : 0 ≤ c) {r : Nat} (hr : r < 6) (h : pI q r = -1) : ngQ (q.set r c) < ngQ q := by
  have h0 := nqG_set hq hc (j := 0) hr h
  have h1 := nqG_set hq hc (j := 1) hr h
  have h2 := nqG_set hq hc (j := 2) hr h
  have h3 := nqG_set hq hc (j := 3) hr h
  have h4 := nqG_set hq hc (j := 4) hr h
  have h5 := nqG_set hq hc (j := 5) hr h
  unfold ngQ
  have : r = 0 ∨ r = 1 ∨ r = 2 ∨ r = 3 ∨ r = 4 ∨ r = 5 := by omega
  rcases this with e | e | e | e | e | e <;> subst e <;> simp at h0 h1 h2 h3 h4 h5 <;> omega
theorem mvG_same {q : List Int} {st : Option (Nat × Nat)} (hq : q.length = 6) (h : ∀ r c, st = some (r, c) → r < 6 ∧ pI q r = -1) : mvG q st = q ↔ st = none := by
  match st, h with
  | none, _ => exact ⟨fun _ => rfl, fun _ => rfl⟩
  | some (r, c), h =>
    obtain ⟨h1, h2⟩ := h r c rfl
    constructor
    · intro e
      have e1 : pI (q.set r (c : Int)) r = pI q r := by rw [show q.set r (c : Int) = q from e]
      rw [pI_set (by omega), if_pos rfl, h2] at e1
      omega
    · intro e; cases e
set_option maxRecDepth 100000 in
/-- arrays of six are equal just if the lists are -/
theorem run_six (w : World) (p q : List Int) : (Op.equalIn 10000 90 (.agg (arC p)) (.agg (arC q))).run Try.prog w = .ok (decide (pI p 0 = pI q 0 ∧ pI p 1 = pI q 1 ∧ pI p 2 = pI q 2 ∧ pI p 3 = pI q 3 ∧ pI p 4 = pI q 4 ∧ pI p 5 = pI q 5)) w := by
  have hz : (sizeOf 2).run Try.prog w = .ok 1 w := by kernel_rfl
  rw [show (10000 : Nat) = 9998 + 1 + 1 from rfl]
  unfold Op.equalIn
  simp only [Sem.run_bind, run_underlying Try.underlying90, Result.andThen_ok, hz]
  rw [Std.Legacy.Range.forIn_eq_forIn_range']
  simp only [Std.Legacy.Range.size, List.range', List.forIn_cons, List.forIn_nil]
  unfold arC
  go_simp
  by_cases h0 : pI p 0 = pI q 0
  · by_cases h1 : pI p 1 = pI q 1
    · by_cases h2 : pI p 2 = pI q 2
      · by_cases h3 : pI p 3 = pI q 3
        · by_cases h4 : pI p 4 = pI q 4
          · by_cases h5 : pI p 5 = pI q 5
            · simp [h0, h1, h2, h3, h4, h5]
            · simp [h0, h1, h2, h3, h4, h5]
          · simp [h0, h1, h2, h3, h4]
        · simp [h0, h1, h2, h3]
      · simp [h0, h1, h2]
    · simp [h0, h1]
  · simp [h0]
theorem eq_six {p q : List Int} (hp : p.length = 6) (hq : q.length = 6) : decide (pI p 0 = pI q 0 ∧ pI p 1 = pI q 1 ∧ pI p 2 = pI q 2 ∧ pI p 3 = pI q 3 ∧ pI p 4 = pI q 4 ∧ pI p 5 = pI q 5) = decide (p = q) := by
  rw [decide_eq_decide]
  constructor
  · rintro ⟨h0, h1, h2, h3, h4, h5⟩
    exact pI_ext (by omega) (fun j hj => lt6 (P := fun j => pI p j = pI q j) h0 h1 h2 h3 h4 h5 j (by omega))
  · intro e; subst e; exact ⟨rfl, rfl, rfl, rfl, rfl, rfl⟩
theorem eql_six {p q : List Int} (hp : p.length = 6) (hq : q.length = 6) (W : World) : (binOp .eql 90 (.agg (arC p)) (.agg (arC q))).run Try.prog W = .ok (.bool (decide (p = q))) W := by
  rw [run_eql_struct, run_six, eq_six hp hq]; rfl
set_option maxRecDepth 100000 in
set_option maxHeartbeats 8000000 in
theorem igr_any (w : World) (a : Option Addr) (cap n : Nat) (zss : List (List Int)) (hn : zss.length = n) (hl : n ≤ 9223372036854775807) (hr : ∀ j, j < zss.length → (gR zss j).length ≤ 9223372036854775807) (hx : RwL w w.heap.size a zss) (miss : Int) :
    Calls Try.prog 39 #[.slice a n cap, .int .i64 miss] w fun e w' => ∃ (g : Option Addr) (c : Nat), e = .returned (.tuple #[.slice g (grW zss miss).length c, .int .i64 (coC zss miss)]) ∧ OwnA w' w.heap.size w'.heap.size g c (grW zss miss) ∧ Below w.heap.size w w' := by
  have KC := Lib.hid (cer_any w a cap n zss hn hl hr hx miss)
  have HX := Lib.hid hx
  have N1 := Lib.hid hn
  clear hx hn hl hr
  obtain ⟨k, hk⟩ : ∃ k, coC zss miss = k := ⟨_, rfl⟩
  have HK := Lib.hid hk
  by_cases h0 : k = 0
  rotate_left
  · have hd : (k != 0) = true := by simpa using h0
    have HN := Lib.hid (show ¬ coC zss miss = 0 by rw [hk]; exact h0)
    rw [hk] at KC ⊢
    clear hk
    have HV : Hid (grW zss miss = []) := Lib.hid (by unfold grW; rw [if_neg HN.out])
    go_enter Try.func39, Try.ntmps39
    go_wp2_with (go_at_call 76; (with_reducible refine Calls.mono KC.out ?_); rintro e w' ⟨rfl, hb⟩; have HB := Lib.hid hb; clear hb)
    go_ret2
    exact ⟨none, 0, by rw [HV.out]; rfl, by rw [HV.out]; exact ownA_nil _ _ HB.out.size, HB.out⟩
  subst h0
  obtain ⟨ha, m0, m1⟩ := coC_0 hk
  have HA := Lib.hid ha
  have h6 : n ≤ 6 := by have := ha.1; have := N1.out; omega
  rw [hk] at KC ⊢
  have HV : Hid (grW zss miss = grV zss miss) := Lib.hid (by unfold grW; rw [if_pos HK.out])
  have KU : Hid (∀ W : World, Calls Try.prog 85 #[] W _) := Lib.hid (fun W => upa_any W)
  unfold arV arC at KU
  have HP0 : Hid (pd6 (List.replicate n (-1)) = un6) := Lib.hid (by
    apply pI_ext
    · rw [pd6_len (by simpa using h6)]; rfl
    · intro j hj
      rw [pd6_len (by simpa using h6)] at hj
      rw [pI_un6 j hj]
      by_cases hl : j < n
      · rw [pd6_lt (by simpa using hl)]
        unfold pI
        rw [List.getD_eq_getElem?_getD, List.getElem?_replicate, if_pos hl]; rfl
      · rw [pd6_ge (by simpa using Nat.le_of_not_lt hl) hj])
  have HGL : Hid ((grV zss miss).length = n) := Lib.hid (by rw [(prB_t (grV_facts zss miss).1).1, N1.out])
  clear hk ha
  go_enter Try.func39, Try.ntmps39
  go_upto_region 5 with (first | (go_at_call 76; (with_reducible refine Calls.mono KC.out ?_); rintro e w1 ⟨rfl, hb⟩; have HB1 := Lib.hid hb; clear hb) | (go_at_call 85; (with_reducible refine Calls.mono (KU.out _) ?_); rintro e w2 ⟨rfl, hb⟩; have HB2 := Lib.hid (bel_end HB1.out hb); clear hb))
  generalize hW : World.alloc _ _ = W
  obtain ⟨g, hg⟩ : ∃ g, w2.heap.size = g := ⟨_, rfl⟩
  have b0 : Bk W g (arC (pd6 (List.replicate n (-1)))) 90 := by rw [HP0.out, ← hW, ← hg]; exact Bk.new' rfl
  have HB3 : Hid (Below w.heap.size w W) := Lib.hid (by rw [← hW]; exact HB2.out.alloc HB2.out.size _)
  have hwg : w.heap.size ≤ g := by rw [← hg]; exact HB2.out.size
  rw [hg]
  have B0 := Lib.hid b0
  clear hW hg KC KU HB1 HB2 b0
  go_loopw [8] (fun _ wr => ∃ (out : List Int) (f : Nat), out.length = n ∧ PrE zss out ∧ ngC out < f ∧ grF zss miss f out = grV zss miss ∧ Bk wr g (arC (pd6 out)) 90 ∧ Below w.heap.size w wr) (fun _ wr => ngW g wr)
  case atStart => exact ⟨List.replicate n (-1), n + 1, by simp, PrE_rep _ _, by
    unfold ngC
    have := List.length_filter_le (fun z : Int => decide (z < 0)) (List.replicate n (-1))
    rw [List.length_replicate] at this
    omega, by unfold grV; rw [N1.out], B0.out, HB3.out⟩
  case round =>
    obtain ⟨out, f, hol, hop, hng, hgf, hb0, hbl⟩ := hrel
    have HOL := Lib.hid hol
    have HOP := Lib.hid hop
    have HNG := Lib.hid hng
    have HGF := Lib.hid hgf
    have HB := Lib.hid hbl
    have BO := Lib.hid hb0
    have KS := Lib.hid (wls_any wr a cap n zss miss out N1.out HA.out m0 m1 hol hop ((HX.out.below hbl).more hbl.size))
    unfold arV arC at KS
    have hfs := fnI_seen zss miss out n
    have hqr : ∀ r c, fnI zss miss out n = some (r, c) → r < 6 ∧ pI (pd6 out) r = -1 := fun r c e => by
      rw [e] at hfs
      obtain ⟨⟨h1, h2⟩, h3, -⟩ := hfs
      rw [pd6_lt (by omega)]
      have := (hop r (by omega)).1
      have := h3.1
      exact ⟨by omega, by omega⟩
    have HQR := Lib.hid hqr
    have hq6 : (pd6 out).length = 6 := pd6_len (by omega)
    have HMV := Lib.hid (mvG_same hq6 hqr)
    have HFS := Lib.hid hfs
    have HQL := Lib.hid hq6
    clear hol hop hng hgf hbl hb0 hfs hqr hq6
    have b1 := BO.out
    unfold arC at b1
    obtain ⟨q, hq⟩ : ∃ q, pd6 out = q := ⟨_, rfl⟩
    have HPD := Lib.hid hq
    rw [hq] at b1 KS HMV HQR HQL BO
    obtain ⟨st, hst⟩ : ∃ st, fnI zss miss out n = st := ⟨_, rfl⟩
    have HST := Lib.hid hst
    rw [hst] at KS HMV HQR HFS
    obtain ⟨t, ht⟩ : ∃ t, mvG q st = t := ⟨_, rfl⟩
    have HT := Lib.hid ht
    have HTL : Hid (t.length = 6) := Lib.hid (by
      rw [← ht]
      match st with
      | none => exact HQL.out
      | some (r, c) => exact (List.length_set ..).trans HQL.out)
    rw [ht] at KS HMV
    clear hq hst ht
    have b1_0 := b1.cell 0 rfl
    have b1_1 := b1.cell 1 rfl
    have b1_2 := b1.cell 2 rfl
    have b1_3 := b1.cell 3 rfl
    have b1_4 := b1.cell 4 rfl
    have b1_5 := b1.cell 5 rfl
    have b1_l := b1.lt
    clear b1
    go_upto_region 6 with (go_at_call 89; (with_reducible refine Calls.mono KS.out ?_); rintro e w3 ⟨rfl, hb⟩; have HB4 := Lib.hid hb; clear hb)
    clear b1_0 b1_1 b1_2 b1_3 b1_4 b1_5 b1_l KS
    generalize hW : World.alloc _ _ = W5
    obtain ⟨g8, hg8⟩ : ∃ g8, w3.heap.size = g8 := ⟨_, rfl⟩
    have b8 : Bk W5 g8 #[.int .i64 (pI t 0), .int .i64 (pI t 1), .int .i64 (pI t 2), .int .i64 (pI t 3), .int .i64 (pI t 4), .int .i64 (pI t 5)] 90 := by rw [← hW, ← hg8]; exact Bk.new' rfl
    have hb5 : Below wr.heap.size wr W5 := by rw [← hW]; exact HB4.out.alloc HB4.out.size _
    have BO5 := Lib.hid (BO.out.on hb5)
    have HB5 := Lib.hid (bel_end HB.out hb5)
    have hgg : g < g8 := by rw [← hg8]; exact Nat.lt_of_lt_of_le BO.out.lt HB4.out.size
    rw [hg8]
    have B8 := Lib.hid b8
    clear hW hg8 hb5
    have b1 := BO5.out
    unfold arC at b1
    have b8_0 := b8.cell 0 rfl
    have b8_1 := b8.cell 1 rfl
    have b8_2 := b8.cell 2 rfl
    have b8_3 := b8.cell 3 rfl
    have b8_4 := b8.cell 4 rfl
    have b8_5 := b8.cell 5 rfl
    have b8_l := b8.lt
    have b1_0 := b1.cell 0 rfl
    have b1_1 := b1.cell 1 rfl
    have b1_2 := b1.cell 2 rfl
    have b1_3 := b1.cell 3 rfl
    have b1_4 := b1.cell 4 rfl
    have b1_5 := b1.cell 5 rfl
    have b1_f0 := b1.frozen 0
    have b1_f1 := b1.frozen 1
    have b1_f2 := b1.frozen 2
    have b1_f3 := b1.frozen 3
    have b1_f4 := b1.frozen 4
    have b1_f5 := b1.frozen 5
    have b1_l := b1.lt
    clear b1 b8
    by_cases hne : st = none
    · have HTQ : Hid (t = q) := Lib.hid (HMV.out.2 hne)
      have he := fun W : World => eql_six HTL.out HQL.out W
      rw [decide_eq_true HTQ.out] at he
      unfold arC at he
      have KL := Lib.hid (fun W : World => cls_any W q n HQL.out h6)
      unfold arV arC at KL
      have HTK : Hid (q.take n = grV zss miss) := Lib.hid (by
        have h1 : grF zss miss f out = out := grF_end (by rw [N1.out, HST.out]; exact hne) f
        rw [← HGF.out, h1, ← HPD.out, ← HOL.out]; exact pd6_take)
      go_wp2_with (go_at_call 82; (with_reducible refine Calls.mono (KL.out _) ?_); rintro e w' ⟨a', c', rfl, hlen, ho, hb⟩; have HO := Lib.hid ho; have HB6 := Lib.hid (bel_end HB5.out hb); clear ho hlen hb)
      go_ret2
      exact ⟨a', c', by rw [HV.out, HGL.out]; rfl, by rw [HV.out, ← HTK.out]; exact HO.out.less HB5.out.size, HB6.out⟩
    · have HTQ : Hid (¬ t = q) := Lib.hid (fun e => hne (HMV.out.1 e))
      have he := fun W : World => eql_six HTL.out HQL.out W
      rw [decide_eq_false HTQ.out] at he
      unfold arC at he
      have hgn : g ≠ g8 := by omega
      obtain ⟨r, c, rfl⟩ : ∃ r c, st = some (r, c) := by
        match st, hne with
        | none, h => exact absurd rfl h
        | some (r, c), _ => exact ⟨r, c, rfl⟩
      obtain ⟨hr6, hqr⟩ := HQR.out r c rfl
      obtain ⟨⟨h1, h2⟩, h3, -⟩ := HFS.out
      have HNQ : Hid (ngQ t < ngQ q) := Lib.hid (by rw [← HT.out]; exact ngQ_set HQL.out (by omega) hr6 hqr)
      have HPT : Hid (pd6 (out.set r (c : Int)) = t) := Lib.hid (by rw [pd6_set (by rw [HOL.out]; exact h6) (by rw [HOL.out]; exact h1), HPD.out]; exact HT.out)
      have HN2 := Lib.hid (ngC_set (out := out) (r := r) (c := (c : Int)) (by rw [HOL.out]; exact h1) h3.1 (by omega))
      have HP2 := Lib.hid (PrE_set HOP.out (by rw [HOL.out]; exact h1) h2 h3)
      clear h1 h2 h3 hqr hr6 hne
      go_wp2_with fail
      generalize hW : World.setCell _ _ _ = W9
      have bB9 : Bk W9 g (arC t) 90 := by rw [← hW]; exact (Bk.set (Bk.set (Bk.set (Bk.set (Bk.set (Bk.set BO5.out 0 _ rfl) 1 _ rfl) 2 _ rfl) 3 _ rfl) 4 _ rfl) 5 _ rfl)
      have HB9 : Hid (Below w.heap.size w W9) := Lib.hid (by rw [← hW]; repeat (first | exact HB5.out | (refine Below.setCell ?_ hwg _)))
      clear hW he b1_0 b1_1 b1_2 b1_3 b1_4 b1_5 b1_f0 b1_f1 b1_f2 b1_f3 b1_f4 b1_f5 b1_l b8_0 b8_1 b8_2 b8_3 b8_4 b8_5 b8_l
      have BB9 := Lib.hid bB9
      clear bB9
      go_roundw
      case rel => exact ⟨out.set r (c : Int), f - 1, by rw [List.length_set]; exact HOL.out, HP2.out, by have := HN2.out; have := HNG.out; omega, by
        rw [← HGF.out]
        obtain ⟨f', rfl⟩ : ∃ f', f = f' + 1 := ⟨f - 1, by have := HNG.out; omega⟩
        exact (grF_step (by rw [N1.out]; exact HST.out)).symm, by rw [HPT.out]; exact BB9.out, HB9.out⟩
      case measure => rw [ngW_eq BB9.out, ngW_eq BO.out]; exact HNQ.out
end Go.Proofs.Ytlahgdhofakinaa
