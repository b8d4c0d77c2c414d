/- The contract of the program's search for the best code: a closure that calls itself. -/
import Derived.Test.YtpnebnjpeiieaaaPuN
import Derived.Test.YtpnebnjpeiieaaaPuT
import Derived.Test.YtpnebnjpeiieaaaPuP
import Derived.Deep.RegionWith
namespace Go.Proofs.Ytpnebnjpeiieaaa
open Go.ChangeShapes Go.WideShapes Go.ChangeAt Go.RowKit Go.Shelf Num
set_option linter.unusedVariables false
set_option linter.unusedSimpArgs false
/-- what the search lies over: the number of bits, the list of bits, the search itself, the least sidelobe, the best list -/
structure BS (w : World) (n G bn bb bs bl be M : Nat) (B : List Int) (st : List Int × Int) (W : World) : Prop where
  bel : Below w.heap.size w W
  kn : Bk W bn #[.int .i64 (n : Int)] 2
  kb : Bk W bb #[.slice (some ⟨G, 0, none⟩) n n] 24
  ks : Bk W bs #[.func (.func 58) #[] #[.pointer (some ⟨bn, 0, none⟩), .pointer (some ⟨bb, 0, none⟩), .pointer (some ⟨bs, 0, none⟩), .pointer (some ⟨bl, 0, none⟩), .pointer (some ⟨be, 0, none⟩)]] 61
  kl : Bk W bl #[.int .i64 st.2] 2
  ke : ∃ (a : Option Addr) (c : Nat), Bk W be #[.slice a st.1.length c] 24 ∧ OwnA W M W.heap.size a c st.1
  row : W.ownsRow w.heap.size 2 1 (.slice (some ⟨G, 0, none⟩) n n) n (B.map iv4)
  len : B.length = n
  up : M ≤ W.heap.size
structure BSo (w : World) (G bn bb bs bl be M : Nat) : Prop where
  o1 : w.heap.size ≤ bn
  o2 : bn < be
  o3 : be < bl
  o4 : bl < G
  o5 : G < bb
  o6 : bb < bs
  o7 : bs < M
theorem BS.on {w W W' : World} {n G bn bb bs bl be M : Nat} {B : List Int} {st : List Int × Int} (h : BS w n G bn bb bs bl be M B st W) (hb : Below W.heap.size W W') : BS w n G bn bb bs bl be M B st W' := by
  obtain ⟨a, c, h1, h2⟩ := h.ke
  exact ⟨bel_end h.bel hb, h.kn.on hb, h.kb.on hb, h.ks.on hb, h.kl.on hb, ⟨a, c, h1.on hb, by have h3 := h2.on hb; exact ⟨h3.own, fun g e => Nat.lt_of_lt_of_le (h3.lt g e) h3.up, Nat.le_refl _⟩⟩, own_bel h.row hb, h.len, Nat.le_trans h.up hb.size⟩
theorem ownA_far {W : World} {M : Nat} {a : Option Addr} {c : Nat} {L : List Int} (h : OwnA W M W.heap.size a c L) {g : Nat} (hg : g < M) (j : Nat) (v : Value) : OwnA (W.setCell ⟨g, j, none⟩ v) M (W.setCell ⟨g, j, none⟩ v).heap.size a c L :=
  ⟨own_at h.own (fun x e => Below.heap_setCell W ⟨g, j, none⟩ v x (by have := (h.own.lt x e).1; show x ≠ g; omega)), fun x e => by simpa using h.lt x e, Nat.le_refl _⟩
theorem BS.set {w W : World} {n G bn bb bs bl be M : Nat} {B : List Int} {st : List Int × Int} (h : BS w n G bn bb bs bl be M B st W) (o : BSo w G bn bb bs bl be M) (j : Nat) (x : Int) : BS w n G bn bb bs bl be M (B.set j x) st (W.setCell ⟨G, j, none⟩ (.int .i64 x)) := by
  obtain ⟨a, c, h1, h2⟩ := h.ke
  have o1 := o.o1
  have o2 := o.o2
  have o3 := o.o3
  have o4 := o.o4
  have o5 := o.o5
  have o6 := o.o6
  have o7 := o.o7
  exact ⟨h.bel.setCell (by show w.heap.size ≤ G; omega) _, h.kn.other (by omega) _ _, h.kb.other (by omega) _ _, h.ks.other (by omega) _ _, h.kl.other (by omega) _ _, ⟨a, c, h1.other (by omega) _ _, ownA_far h2 (by omega) _ _⟩, own_set h.row j x, by rw [List.length_set]; exact h.len, by simpa using h.up⟩
theorem BS.ints {w W : World} {n G bn bb bs bl be M : Nat} {B : List Int} {st : List Int × Int} (h : BS w n G bn bb bs bl be M B st W) : Ints .i64 W W.heap.size (some ⟨G, 0, none⟩) B := own_ints (B := w.heap.size) (c := n) (by rw [h.len]; exact h.row)
theorem BS.best {w W : World} {n G bn bb bs bl be M : Nat} {B L : List Int} {st : List Int × Int} {a : Option Addr} {c : Nat} {v : Int} (h : BS w n G bn bb bs bl be M B st W) (o : BSo w G bn bb bs bl be M) (hL : OwnA W M W.heap.size a c L) : BS w n G bn bb bs bl be M B (L, v) ((W.setCell ⟨be, 0, none⟩ (.slice a L.length c)).setCell ⟨bl, 0, none⟩ (.int .i64 v)) := by
  obtain ⟨a', c', h1, h2⟩ := h.ke
  have o1 := o.o1
  have o2 := o.o2
  have o3 := o.o3
  have o4 := o.o4
  have o5 := o.o5
  have o6 := o.o6
  have o7 := o.o7
  have e1 : Bk (W.setCell ⟨be, 0, none⟩ (.slice a L.length c)) be #[.slice a L.length c] 24 := h1.set 0 _ rfl
  have hr : W.ownsRow w.heap.size 2 1 (.slice (some ⟨G, 0, none⟩) n n) n (B.map iv4) := h.row
  refine ⟨(h.bel.setCell (by show w.heap.size ≤ be; omega) _).setCell (by show w.heap.size ≤ bl; omega) _, (h.kn.other (by omega) _ _).other (by omega) _ _, (h.kb.other (by omega) _ _).other (by omega) _ _, (h.ks.other (by omega) _ _).other (by omega) _ _, (h.kl.other (by omega) _ _).set 0 _ rfl, ⟨a, c, e1.other (by omega) _ _, ownA_far (ownA_far hL (by omega) _ _) (by omega) _ _⟩, ?_, h.len, by simpa using h.up⟩
  have r1 := own_at (w' := W.setCell ⟨be, 0, none⟩ (.slice a L.length c)) hr (fun x e => Below.heap_setCell W ⟨be, 0, none⟩ _ x (by simp only [Value.ownBlock, Option.map_some, Option.some.injEq] at e; show x ≠ be; omega))
  exact own_at r1 (fun x e => Below.heap_setCell _ ⟨bl, 0, none⟩ _ x (by simp only [Value.ownBlock, Option.map_some, Option.some.injEq] at e; show x ≠ bl; omega))
theorem sdB_pul {bs : List Int} (n : Nat) (h : bs.length = n) : (pulK bs 1 1 bs.length).length = n := by rw [pulK_len _ _ (Nat.le_refl _), Nat.mul_one, h]
theorem stP_lt {st : List Int × Int} {bs : List Int} (h : sdB bs < st.2) : stP st bs = (bs, sdB bs) := by unfold stP; rw [if_pos h]
theorem stP_ge {st : List Int × Int} {bs : List Int} (h : ¬ sdB bs < st.2) : stP st bs = st := by unfold stP; rw [if_neg h]
/-- the state of the search behind k of the two bits of a place -/
def srK (r : Nat) (p : List Int) (st : List Int × Int) : Nat → List Int × Int
  | 0 => st
  | k + 1 => srch r (p ++ [(k : Int)]) (srK r p st k)
theorem srK_2 (r : Nat) (p : List Int) (st : List Int × Int) : srK r p st 2 = srch (r + 1) p st := rfl
theorem srK_succ (r : Nat) (p : List Int) (st : List Int × Int) (k : Nat) : srK r p st (k + 1) = srch r (p ++ [(k : Int)]) (srK r p st k) := rfl
theorem take_set {B p : List Int} {pl : Nat} {x : Int} (h : B.take pl = p) (hl : pl < B.length) : (B.set pl x).take (pl + 1) = p ++ [x] := by
  rw [take_snocP (by rw [List.length_set]; exact hl), List.take_set_of_le (Nat.le_refl _), h, getD_setP, if_pos ⟨rfl, hl⟩]
theorem take_less {B p : List Int} {pl : Nat} {x : Int} (h : B.take (pl + 1) = p ++ [x]) (hp : p.length = pl) : B.take pl = p := by
  have := congrArg (List.take pl) h
  rw [List.take_take, Nat.min_eq_left (by omega)] at this
  rw [this, List.take_append_of_le_length (by omega), List.take_of_length_le (by omega)]

set_option maxRecDepth 100000 in
set_option maxHeartbeats 4000000 in
theorem sr0_any (w : World) (n G bn bb bs bl be M : Nat) (hn : n ≤ 10) (o : BSo w G bn bb bs bl be M) (p B : List Int) (st : List Int × Int) (W : World) (hp : p.length = n) (hbit : bitP p) (hB : B.take n = p) (h : BS w n G bn bb bs bl be M B st W) :
    Calls Try.prog 58 #[.int .i64 (n : Int), .pointer (some ⟨bn, 0, none⟩), .pointer (some ⟨bb, 0, none⟩), .pointer (some ⟨bs, 0, none⟩), .pointer (some ⟨bl, 0, none⟩), .pointer (some ⟨be, 0, none⟩)] W fun e W' => e = .returned (.tuple #[]) ∧ BS w n G bn bb bs bl be M B (stP st p) W' := by
  have hBp : B = p := by rw [← hB, List.take_of_length_le (by rw [h.len]; exact Nat.le_refl _)]
  subst hBp
  have H := Lib.hid h
  have HO := Lib.hid o
  have HBT := Lib.hid hbit
  have HN := Lib.hid hp
  clear hB h o hbit hp
  have cn := H.out.kn.cell 0 rfl
  have cb := H.out.kb.cell 0 rfl
  go_enter Try.func58, Try.ntmps58
  go_wp2_with fail
  have K1 : Calls Try.prog 53 #[.slice (some ⟨G, 0, none⟩) n n, .int .i64 1, .int .i64 1] W fun e w' => ∃ (g c' : Nat), e = .returned (.slice (some ⟨g, 0, none⟩) n c') ∧ OwnA w' W.heap.size w'.heap.size (some ⟨g, 0, none⟩) c' (pulK B 1 1 B.length) ∧ Below W.heap.size W w' := by
    have := ipo_any W (some ⟨G, 0, none⟩) n B 1 1 (by rw [HN.out]; omega) (by rw [HN.out]; omega) (by omega) (by omega) (by omega) HBT.out H.out.ints
    rw [HN.out, Nat.mul_one] at this
    rw [HN.out]
    exact this
  refine K1.mono ?_
  rintro e w1 ⟨g, c', rfl, ho, hb⟩
  have HL := Lib.hid (sdB_pul n HN.out)
  have K2 : Calls Try.prog 45 #[.slice (some ⟨g, 0, none⟩) n c'] w1 fun e w' => e = .returned (.int .i64 (sdB B)) ∧ w1 = w' := by
    have := isd_any w1 _ (some ⟨g, 0, none⟩) c' (pulK B 1 1 B.length) (by rw [HL.out]; omega) (own_caps ho.own) (fun i => by have := pul1_sml B i; omega) ho.ints
    rwa [HL.out] at this
  have HK2 := Lib.hid K2
  replace H := Lib.hid (H.out.on hb)
  clear K1 K2 ho hb cn cb
  have cb := H.out.kb.cell 0 rfl
  have cl := H.out.kl.cell 0 rfl
  have fl := H.out.kl.frozen 0
  obtain ⟨a', c2, hbe, hbo⟩ := H.out.ke
  have ce := hbe.cell 0 rfl
  have fe := hbe.frozen 0
  have hne : ¬ be = bl := by have := HO.out.o3; omega
  have hne2 : ¬ bl = be := by have := HO.out.o3; omega
  clear hbe hbo
  by_cases hlt : sdB B < st.2
  · have HS := Lib.hid (stP_lt hlt)
    obtain ⟨S, hS⟩ : ∃ S, sdB B = S := ⟨_, rfl⟩
    rw [hS] at HK2 HS hlt
    obtain ⟨t, ht⟩ : ∃ t, st.2 = t := ⟨_, rfl⟩
    rw [ht] at hlt cl
    clear hS ht
    go_wp2_with fail
    refine HK2.out.mono ?_
    rintro e w' ⟨rfl, rfl⟩
    go_wp2_with fail
    have K3 := cln_any w1 (some ⟨G, 0, none⟩) n n B HN.out (by omega) H.out.ints
    refine K3.mono ?_
    rintro e w2 ⟨a3, c3, rfl, -, ho, hb⟩
    have HO3 := Lib.hid (ho.less H.out.up)
    replace H := Lib.hid (H.out.on hb)
    clear K3 ho hb cb cl fl ce fe
    have cl := H.out.kl.cell 0 rfl
    have fl := H.out.kl.frozen 0
    obtain ⟨a', c2, hbe, hbo⟩ := H.out.ke
    have ce := hbe.cell 0 rfl
    have fe := hbe.frozen 0
    clear hbe hbo
    have HF := Lib.hid (H.out.best (v := S) HO.out HO3.out)
    rw [HN.out] at HF
    go_wp2
    go_end0
    exact ⟨rfl, by rw [HS.out]; exact HF.out⟩
  · have HS := Lib.hid (stP_ge hlt)
    obtain ⟨S, hS⟩ : ∃ S, sdB B = S := ⟨_, rfl⟩
    rw [hS] at HK2 hlt
    obtain ⟨t, ht⟩ : ∃ t, st.2 = t := ⟨_, rfl⟩
    rw [ht] at hlt cl
    clear hS ht
    go_wp2_with fail
    refine HK2.out.mono ?_
    rintro e w' ⟨rfl, rfl⟩
    go_wp2
    go_end0
    exact ⟨rfl, by rw [HS.out]; exact H.out⟩

set_option maxRecDepth 100000 in
set_option maxHeartbeats 4000000 in
theorem srh_any (w : World) (n G bn bb bs bl be M : Nat) (hn : n ≤ 10) (o : BSo w G bn bb bs bl be M) : ∀ (r pl : Nat) (p B : List Int) (st : List Int × Int) (W : World), p.length = pl → pl + r = n → bitP p → B.take pl = p → BS w n G bn bb bs bl be M B st W →
    Calls Try.prog 58 #[.int .i64 (pl : Int), .pointer (some ⟨bn, 0, none⟩), .pointer (some ⟨bb, 0, none⟩), .pointer (some ⟨bs, 0, none⟩), .pointer (some ⟨bl, 0, none⟩), .pointer (some ⟨be, 0, none⟩)] W fun e W' => e = .returned (.tuple #[]) ∧ ∃ B' : List Int, B'.take pl = p ∧ BS w n G bn bb bs bl be M B' (srch r p st) W' := by
  intro r
  induction r with
  | zero =>
    intro pl p B st W hp hr hbit hB h
    obtain rfl : pl = n := by omega
    exact (sr0_any w pl G bn bb bs bl be M hn o p B st W hp hbit hB h).mono (by rintro e W' ⟨rfl, h⟩; exact ⟨rfl, B, hB, h⟩)
  | succ r ih =>
    intro pl p B st W hp hr hbit hB h
    have IH := Lib.hid ih
    have H0 := Lib.hid h
    have HO := Lib.hid o
    have HBT := Lib.hid hbit
    have HT := Lib.hid hB
    have HP := Lib.hid hp
    clear hB h o hbit hp ih
    have cn := H0.out.kn.cell 0 rfl
    have hlt : (pl : Int) < (n : Int) := by omega
    go_enter Try.func58, Try.ntmps58
    go_wp2_with fail
    clear cn hlt
    go_loopw [12] (fun x wr => ∃ (k : Nat) (B' : List Int), k ≤ 2 ∧ x = .int .i64 (k : Int) ∧ B'.take pl = p ∧ BS w n G bn bb bs bl be M B' (srK r p st k) wr) (fun x _ => 2 - (intOf x).toNat)
    case atStart => exact ⟨0, B, by omega, rfl, HT.out, H0.out⟩
    case round =>
      obtain ⟨k, B', hk, rfl, ht, h⟩ := hrel
      have H := Lib.hid h
      have HT' := Lib.hid ht
      clear h ht H0 HT
      by_cases hk2 : k < 2
      · have cb := H.out.kb.cell 0 rfl
        have c1 := own_at1 H.out.row (j := pl) (by omega) H.out.len
        have f1 := H.out.row.frozenAt pl
        obtain ⟨u, hu⟩ : ∃ u, B'.getD pl 0 = u := ⟨_, rfl⟩
        rw [hu] at c1
        clear hu
        go_upto_region 5 with fail
        obtain ⟨W2, hW⟩ : ∃ X, X = wr.setCell ⟨G, pl, none⟩ (.int .i64 (k : Int)) := ⟨_, rfl⟩
        rw [← hW]
        have h2 : BS w n G bn bb bs bl be M (B'.set pl (k : Int)) (srK r p st k) W2 := by rw [hW]; exact H.out.set HO.out pl (k : Int)
        have KI := IH.out (pl + 1) (p ++ [(k : Int)]) (B'.set pl (k : Int)) (srK r p st k) W2 (by rw [List.length_append, HP.out]; rfl) (by omega) (bitP_snoc HBT.out (by omega)) (take_set HT'.out (by rw [H.out.len]; omega)) h2
        rw [show ((pl + 1 : Nat) : Int) = (pl : Int) + 1 from rfl] at KI
        have HK := Lib.hid KI
        have cs := h2.ks.cell 0 rfl
        clear hW h2 KI cb c1 f1 H
        go_wp2_with fail
        refine HK.out.mono ?_
        rintro e w3 ⟨rfl, B3, ht, h3⟩
        have H3 := Lib.hid h3
        have HT3 := Lib.hid ht
        clear h3 ht HK cs
        go_wp2_with fail
        go_roundw
        case rel => exact ⟨k + 1, B3, by omega, by go_num, take_less HT3.out HP.out, by rw [srK_succ]; exact H3.out⟩
        case measure => simp [intOf]; omega
      · obtain rfl : k = 2 := by omega
        go_wp2
        first
        | (go_end0; exact ⟨rfl, B', HT'.out, by rw [← srK_2]; exact H.out⟩)
        | (refine bodyPost_ret (v := .tuple #[]) (by simp [results, Try.results58, go_sem]) rfl ?_; exact ⟨rfl, B', HT'.out, by rw [← srK_2]; exact H.out⟩)
end Go.Proofs.Ytpnebnjpeiieaaa
