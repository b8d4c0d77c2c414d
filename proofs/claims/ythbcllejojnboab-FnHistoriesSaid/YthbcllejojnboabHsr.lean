/- Contracts of reading letters of events. -/
import Derived.Test.YthbcllejojnboabHst
import Derived.Test.YthbcllejojnboabLys
namespace Go.Proofs.Ythbcllejojnboab
open Go.ChangeShapes Go.WideShapes Go.ChangeAt Go.RowKit Go.Shelf Num
set_option linter.unusedVariables false
set_option linter.unusedSimpArgs false
/-- a letter's place, or -1 -/
def hix (b : UInt8) : Int := Lib.indexByte [99, 116, 115, 98] b
/-- its event, or 0 -/
def hnm (b : UInt8) : Int := hix b + 1
theorem hnm_cases (b : UInt8) : (b.toNat = 99 ∧ hnm b = 1) ∨ (b.toNat = 116 ∧ hnm b = 2) ∨ (b.toNat = 115 ∧ hnm b = 3) ∨ (b.toNat = 98 ∧ hnm b = 4) ∨ (b.toNat ≠ 99 ∧ b.toNat ≠ 116 ∧ b.toNat ≠ 115 ∧ b.toNat ≠ 98 ∧ hnm b = 0) := by
  by_cases h1 : b = 99
  · subst h1; exact Or.inl ⟨rfl, by decide⟩
  by_cases h2 : b = 116
  · subst h2; exact Or.inr (Or.inl ⟨rfl, by decide⟩)
  by_cases h3 : b = 115
  · subst h3; exact Or.inr (Or.inr (Or.inl ⟨rfl, by decide⟩))
  by_cases h4 : b = 98
  · subst h4; exact Or.inr (Or.inr (Or.inr (Or.inl ⟨rfl, by decide⟩)))
  · refine Or.inr (Or.inr (Or.inr (Or.inr ⟨fun e => h1 (UInt8.toNat_inj.1 e), fun e => h2 (UInt8.toNat_inj.1 e), fun e => h3 (UInt8.toNat_inj.1 e), fun e => h4 (UInt8.toNat_inj.1 e), ?_⟩)))
    have e1 : ((99 : UInt8) == b) = false := by simpa using fun e : (99 : UInt8) = b => h1 e.symm
    have e2 : ((116 : UInt8) == b) = false := by simpa using fun e : (116 : UInt8) = b => h2 e.symm
    have e3 : ((115 : UInt8) == b) = false := by simpa using fun e : (115 : UInt8) = b => h3 e.symm
    have e4 : ((98 : UInt8) == b) = false := by simpa using fun e : (98 : UInt8) = b => h4 e.symm
    unfold hnm hix
    simp [Lib.indexByte, e1, e2, e3, e4]
theorem hnm_in (b : UInt8) : 0 ≤ hnm b ∧ hnm b ≤ 4 := by rcases hnm_cases b with h | h | h | h | h <;> omega
/-- the events, if all are letters and there are not too many -/
def hrOk (s : ByteArray) : Bool := decide (s.size ≤ 100) && s.data.toList.all (fun b => decide (0 < hnm b))
def hrL (s : ByteArray) : List Int := if hrOk s = true then s.data.toList.map hnm else []
theorem hlen (s : ByteArray) : s.data.toList.length = s.size := rfl
theorem hgetD {s : ByteArray} {k : Nat} (hk : k < s.size) : s.data.toList[k]? = some s[k] := Lib.data_getElem? s k hk
theorem hr_big {s : ByteArray} (h : ¬ s.size ≤ 100) : hrOk s = false := by unfold hrOk; rw [decide_eq_false h]; rfl
theorem hr_no {s : ByteArray} {k : Nat} (hk : k < s.size) (h : hnm s[k] = 0) : hrOk s = false := by
  have : s.data.toList.all (fun b => decide (0 < hnm b)) = false := by
    refine List.all_eq_false.2 ⟨s[k], List.mem_of_getElem? (hgetD hk), ?_⟩
    rw [h]; decide
  unfold hrOk; rw [this, Bool.and_false]
theorem hr_ok {s : ByteArray} (hl : s.size ≤ 100) (h : ∀ (j : Nat) (hj : j < s.size), 0 < hnm s[j]) : hrOk s = true := by
  have : s.data.toList.all (fun b => decide (0 < hnm b)) = true := by
    refine List.all_eq_true.2 fun x hx => ?_
    obtain ⟨j, hj⟩ := List.getElem?_of_mem hx
    have hjs : j < s.size := by
      rw [← hlen]
      exact (List.getElem?_eq_some_iff.1 hj).1
    rw [hgetD hjs] at hj
    injection hj with hj
    subst hj
    exact decide_eq_true (h j hjs)
  unfold hrOk; rw [decide_eq_true hl, this]; rfl
theorem hrL_ok {s : ByteArray} (h : hrOk s = true) : hrL s = s.data.toList.map hnm := by unfold hrL; rw [if_pos h]
theorem hrL_no {s : ByteArray} (h : hrOk s = false) : hrL s = [] := by unfold hrL; rw [h]; rfl
theorem hrL_len (s : ByteArray) : (hrL s).length ≤ 100 := by
  cases h : hrOk s
  · rw [hrL_no h]; simp
  · rw [hrL_ok h, List.length_map, hlen]
    unfold hrOk at h
    simp at h
    exact h.1
/-- the events of the first letters -/
def hpre (s : ByteArray) (k : Nat) : List Int := (s.data.toList.take k).map hnm
theorem hpre_len {s : ByteArray} {k : Nat} (h : k ≤ s.size) : (hpre s k).length = k := by unfold hpre; rw [List.length_map, List.length_take, hlen]; omega
theorem hpre_succ {s : ByteArray} {k : Nat} (hk : k < s.size) : hpre s (k + 1) = hpre s k ++ [hnm s[k]] := by unfold hpre; rw [List.take_add_one, hgetD hk, List.map_append]; rfl
theorem hpre_all (s : ByteArray) : hpre s s.size = s.data.toList.map hnm := by unfold hpre; rw [← hlen, List.take_length]
theorem RowG.ownAh {w1 W : World} {g c N lo : Nat} {L : List Int} (h : RowG w1 2 1 g c N (L.map iv4) W) (hl : L.length = N) (hlo : lo ≤ w1.heap.size) : OwnA W lo W.heap.size (some ⟨g, 0, none⟩) c L := by
  subst hl
  exact ⟨World.ownsRow.mono h.own hlo, fun g e => (h.own.lt g e).2, Nat.le_refl _⟩
theorem ownA_none (W : World) (lo : Nat) (h : lo ≤ W.heap.size) : OwnA W lo W.heap.size none 0 [] := (RowIn.nil W).ownA h

set_option maxRecDepth 100000 in
set_option maxHeartbeats 4000000 in
theorem irh_any (w : World) (s : ByteArray) (hs : s.size ≤ 1048576) :
    Calls Try.prog 9 #[.string s] w fun e w' => ∃ (a' : Option Addr) (c' : Nat), e = .returned (.tuple #[.slice a' (hrL s).length c', .bool (hrOk s)]) ∧ OwnA w' w.heap.size w'.heap.size a' c' (hrL s) ∧ Below w.heap.size w w' := by
  by_cases hbig : s.size ≤ 100
  case neg =>
    have H := Lib.hid (hr_big hbig)
    have H2 := Lib.hid (hrL_no H.out)
    have hb2 : (100 : Int) < (s.size : Int) := by omega
    go_enter Try.func9, Try.ntmps9
    go_wp2
    go_ret2
    exact ⟨none, 0, by rw [H2.out, H.out]; rfl, by rw [H2.out]; exact ownA_none _ _ (Nat.le_refl _), Below.refl _ _⟩
  case pos =>
    have hb2 : ¬ (100 : Int) < (s.size : Int) := by omega
    have KI : Hid (∀ (b : UInt8) (W : World), Calls Try.prog 22 #[.string ⟨#[99, 116, 115, 98]⟩, .int .u8 (b.toNat : Int)] W fun e w' => e = .returned (.int .i64 (hix b)) ∧ W = w') := Lib.hid (fun b W => (show Calls Try.prog 22 #[.string ⟨#[99, 116, 115, 98]⟩, .int .u8 (b.toNat : Int)] W _ from Any.strings_IndexByte Try.lays137 ⟨#[99, 116, 115, 98]⟩ (b.toNat : Int) W).mono (by rintro e w' ⟨rfl, rfl⟩; exact ⟨by unfold hix; simp, rfl⟩))
    obtain ⟨j0, hj0, hy0, hy1, hy2⟩ := info_parts info_i64h
    have hmk := run_make_h (t := 24) (e := 2) Try.underlying24 info_i64h s.size (by omega) (by omega)
    go_enter Try.func9, Try.ntmps9
    go_upto_region 4 with fail
    generalize hW : World.alloc _ _ = W3
    obtain ⟨gR, hg⟩ : ∃ g, g = w.heap.size := ⟨_, rfl⟩
    have hR0 : Bk W3 gR (madeCells #[.int .i64 0] s.size) 2 := by rw [← hW]; exact Bk.new' hg
    have hb : Below w.heap.size w W3 := by rw [← hW]; exact (Below.refl _ _).alloc (Nat.le_refl _) _
    try rw [← hg]
    have HR0 := Lib.hid (RowG.made (w1 := w) (m := 1) (c := s.size) (Z := #[.int .i64 0]) (by rw [Nat.mul_one]; exact hR0) (by omega) (by unfold maxLen; omega) hb)
    clear hW hb hg hR0 hmk
    go_wp2_with fail
    go_loopw [4, 15] (fun v x wr => ∃ (k ge ce : Nat), v = .slice (some ⟨ge, 0, none⟩) k ce ∧ x = .int .i64 (k : Int) ∧ k ≤ s.size ∧ RowG w 2 1 ge ce k ((hpre s k).map iv4) wr ∧ ∀ (j : Nat) (hj : j < s.size), j < k → 0 < hnm s[j]) (fun _ x _ => s.size - (intOf x).toNat)
    case atStart => exact ⟨0, gR, s.size, rfl, rfl, by omega, HR0.out, fun j hj hj2 => by omega⟩
    case round =>
      obtain ⟨k, ge, ce, rfl, rfl, hk, hR, hal⟩ := hrel
      have HR := Lib.hid hR
      have HAL := Lib.hid hal
      clear hR HR0 hal
      by_cases hkN : k < s.size
      case neg =>
        have EK : k = s.size := by omega
        have H := Lib.hid (hr_ok hbig (fun j hj => HAL.out j hj (by omega)))
        have H2 := Lib.hid (hrL_ok H.out)
        subst EK
        have hkk : ¬ (s.size : Int) < (s.size : Int) := by omega
        have HRA := HR.out
        rw [hpre_all] at HRA
        have HA := Lib.hid (HRA.ownAh (by rw [List.length_map, hlen]) (Nat.le_refl _))
        have HBL := Lib.hid HR.out.bel
        clear hkN hk HAL HRA HR
        go_wp2
        go_ret2
        exact ⟨some ⟨ge, 0, none⟩, ce, by rw [H2.out, H.out, List.length_map, hlen]; rfl, by rw [H2.out]; exact HA.out, HBL.out⟩
      case pos =>
        have ik : (k : Int) < (s.size : Int) := by omega
        go_wp2_with fail
        (with_reducible refine Calls.mono (KI.out _ _) ?_)
        rintro e w2 ⟨rfl, rfl⟩
        have hin := hnm_in s[k]
        have hd : hix s[k] = hnm s[k] - 1 := by unfold hnm; omega
        have HP := Lib.hid (hpre_succ hkN)
        by_cases h0 : hnm s[k] = 0
        · have H := Lib.hid (hr_no hkN h0)
          have H2 := Lib.hid (hrL_no H.out)
          have HBL := Lib.hid HR.out.bel
          rw [hd, h0]
          clear h0 hd hin HP
          go_wp2
          go_ret2
          exact ⟨none, 0, by rw [H2.out, H.out]; rfl, by rw [H2.out]; exact ownA_none _ _ HBL.out.size, HBL.out⟩
        · have HV : Hid (∀ (j : Nat) (hj : j < s.size), j < k + 1 → 0 < hnm s[j]) := Lib.hid (fun j hj hjk => by
            by_cases h : j = k
            · subst h; omega
            · exact HAL.out j hj (by omega))
          obtain ⟨x, hx⟩ : ∃ x, hnm s[k] = x := ⟨_, rfl⟩
          rw [hx] at hin h0 HP hd
          obtain ⟨y, hy⟩ : ∃ y, hix s[k] = y := ⟨_, rfl⟩
          rw [hy] at hd ⊢
          have hy1' : ¬ y < 0 := by omega
          obtain rfl : x = 1 + y := by omega
          clear hx hy HAL h0 hd
          go_wp2_with (at_builtin; refine wpList_append_lies _ rfl _ _ 24 rfl w.heap.size 2 j0 (.int .i64 0) 1 8 Try.underlying24 hj0 hy0 hy1 hy2 rfl (by decide) (.slice (some ⟨ge, 0, none⟩) k ce) k ((hpre s k).map iv4) rfl (HR.out.own.alloc _) ⟨wr.heap.size, 0, none⟩ 1 1 [.int .i64 (1 + y)] rfl rfl (World.news_of_block (cs := #[.int .i64 (1 + y)]) (t := 2) (fr := (0, 0)) (heap_alloc_new wr _)) (by simp [Value.oneCell']) (by decide) (by unfold maxLen; omega) (by omega) (by simp; exact Nat.le_succ_of_le HR.out.bel.size) (wr.heap.size + 1) (by simp) ?_; intro g2 cp2 w9 hown hgrow hat hlt9; have HR9 := Lib.hid ((HR.out.on ((Below.refl _ _).alloc (Nat.le_refl _) _)).snoc hown hgrow); clear hown hgrow hat hlt9)
          go_roundw
          case rel => exact ⟨k + 1, g2, cp2, rfl, by go_num, by omega, by rw [HP.out, List.map_append]; exact HR9.out, HV.out⟩
          case measure => simp [intOf]; omega
/-- what has been found among the first letters -/
def fq (b : UInt8) (q : Int) : Int := if hnm b < q then hnm b else 0
theorem fq_1 (b : UInt8) : fq b 1 = 0 := by have := hnm_in b; unfold fq; split <;> omega
theorem fq_5 (b : UInt8) : fq b 5 = hnm b := by have := hnm_in b; unfold fq; split <;> omega
theorem fq_t {b : UInt8} {q : Int} (h : hnm b = q) : fq b (q + 1) = q := by unfold fq; rw [h, if_pos (by omega)]
theorem fq_f {b : UInt8} {q : Int} (h : hnm b ≠ q) : fq b (q + 1) = fq b q := by unfold fq; by_cases h1 : hnm b < q; · rw [if_pos h1, if_pos (by omega)]
                                                                                 · rw [if_neg h1, if_neg (by omega)]
set_option maxRecDepth 100000 in
set_option maxHeartbeats 8000000 in
theorem srh_any (w : World) (s : ByteArray) (hs : s.size ≤ 1048576) :
    Calls Try.prog 11 #[.string s] w fun e w' => ∃ (a' : Option Addr) (c' : Nat), e = .returned (.tuple #[.slice a' (hrL s).length c', .bool (hrOk s)]) ∧ OwnA w' w.heap.size w'.heap.size a' c' (hrL s) ∧ Below w.heap.size w w' := by
  obtain ⟨j0, hj0, hy0, hy1, hy2⟩ := info_parts info_i64h
  go_enter Try.func11, Try.ntmps11
  go_wp2_with fail
  generalize hW : World.alloc _ _ = W3
  obtain ⟨gR, hg⟩ : ∃ g, g = w.heap.size := ⟨_, rfl⟩
  have hR0 : Bk W3 gR #[] 2 := by rw [← hW]; exact Bk.new' hg
  have hb : Below w.heap.size w W3 := by rw [← hW]; exact (Below.refl _ _).alloc (Nat.le_refl _) _
  try rw [← hg]
  have HR0 := Lib.hid (RowG.lit (w1 := w) (m := 1) hR0 (by omega) hb)
  clear hW hb hg hR0
  go_loopw [4, 5] (fun v x wr => ∃ (k ge ce : Nat), v = .slice (some ⟨ge, 0, none⟩) k ce ∧ x = .int .i64 (k : Int) ∧ k ≤ s.size ∧ RowG w 2 1 ge ce k ((hpre s k).map iv4) wr ∧ ∀ (j : Nat) (hj : j < s.size), j < k → 0 < hnm s[j]) (fun _ x _ => s.size - (intOf x).toNat)
  case atStart => exact ⟨0, gR, 0, rfl, rfl, by omega, HR0.out, fun j hj hj2 => by omega⟩
  case round =>
    obtain ⟨k, ge, ce, rfl, rfl, hk, hR, hal⟩ := hrel
    have HR := Lib.hid hR
    have HAL := Lib.hid hal
    clear hR HR0 hal
    by_cases hkN : k < s.size
    case neg =>
      have EK : k = s.size := by omega
      subst EK
      have hkk : ¬ (s.size : Int) < (s.size : Int) := by omega
      by_cases hbig : s.size ≤ 100
      · have H := Lib.hid (hr_ok hbig (fun j hj => HAL.out j hj (by omega)))
        have H2 := Lib.hid (hrL_ok H.out)
        have HRA := HR.out
        rw [hpre_all] at HRA
        have HA := Lib.hid (HRA.ownAh (by rw [List.length_map, hlen]) (Nat.le_refl _))
        have HBL := Lib.hid HR.out.bel
        have hb2 : ¬ (100 : Int) < (s.size : Int) := by omega
        clear hkN hk HAL HRA HR
        go_wp2
        go_ret2
        exact ⟨some ⟨ge, 0, none⟩, ce, by rw [H2.out, H.out, List.length_map, hlen]; rfl, by rw [H2.out]; exact HA.out, HBL.out⟩
      · have H := Lib.hid (hr_big hbig)
        have H2 := Lib.hid (hrL_no H.out)
        have hb2 : (100 : Int) < (s.size : Int) := by omega
        have HBL := Lib.hid HR.out.bel
        clear hkN hk HAL HR
        go_wp2
        go_ret2
        exact ⟨none, 0, by rw [H2.out, H.out]; rfl, by rw [H2.out]; exact ownA_none _ _ HBL.out.size, HBL.out⟩
    case pos =>
      have ik : (k : Int) < (s.size : Int) := by omega
      have HP := Lib.hid (hpre_succ hkN)
      have hcs := hnm_cases s[k]
      have HC := Lib.hid hcs
      obtain ⟨wo, hwo⟩ : ∃ wo : World, wo = wr := ⟨_, rfl⟩
      subst hwo
      clear hcs
      go_wp2
      go_loopw [6, 7] (fun f x wi => ∃ q : Int, (q = 1 ∨ q = 2 ∨ q = 3 ∨ q = 4 ∨ q = 5) ∧ x = .int .i64 q ∧ f = .int .i64 (fq s[k] q) ∧ ∃ n, wi = wo.drewN n) (fun _ x _ => 5 - (intOf x).toNat)
      case atStart => exact ⟨1, Or.inl rfl, rfl, by rw [fq_1], 0, rfl⟩
      case round =>
        obtain ⟨q, hq, rfl, rfl, nd, rfl⟩ := hrel
        obtain ⟨f, hf⟩ : ∃ f, fq s[k] q = f := ⟨_, rfl⟩
        rw [hf]
        have HF := Lib.hid hf
        clear hf
        rcases hq with rfl | rfl | rfl | rfl | rfl
        · by_cases hc : s[k].toNat = 99
          · have hcb : ((s[k].toNat : Int) == (((⟨#[99, 116, 115, 98]⟩ : ByteArray)[0]'(by decide)).toNat : Int)) = true := by
              rw [show (((⟨#[99, 116, 115, 98]⟩ : ByteArray)[0]'(by decide)).toNat : Int) = 99 from rfl]; simp; omega
            have HN : Hid (hnm s[k] = 1) := Lib.hid (by rcases HC.out with h | h | h | h | h <;> omega)
            clear hc
            go_wp2
            go_quiet (fail)
            go_wp2
            go_roundw
            case rel => exact ⟨2, by simp, by first | rfl | go_num, by rw [show (2 : Int) = 1 + 1 from rfl, fq_t HN.out], _, rfl⟩
            case measure => simp [intOf]
          · have hcb : ((s[k].toNat : Int) == (((⟨#[99, 116, 115, 98]⟩ : ByteArray)[0]'(by decide)).toNat : Int)) = false := by
              rw [show (((⟨#[99, 116, 115, 98]⟩ : ByteArray)[0]'(by decide)).toNat : Int) = 99 from rfl]; simp; omega
            have HN : Hid (hnm s[k] ≠ 1) := Lib.hid (by rcases HC.out with h | h | h | h | h <;> omega)
            clear hc
            go_wp2
            go_quiet (fail)
            go_wp2
            go_roundw
            case rel => exact ⟨2, by simp, by first | rfl | go_num, by rw [show (2 : Int) = 1 + 1 from rfl, fq_f HN.out, HF.out], _, rfl⟩
            case measure => simp [intOf]
        · by_cases hc : s[k].toNat = 116
          · have hcb : ((s[k].toNat : Int) == (((⟨#[99, 116, 115, 98]⟩ : ByteArray)[1]'(by decide)).toNat : Int)) = true := by
              rw [show (((⟨#[99, 116, 115, 98]⟩ : ByteArray)[1]'(by decide)).toNat : Int) = 116 from rfl]; simp; omega
            have HN : Hid (hnm s[k] = 2) := Lib.hid (by rcases HC.out with h | h | h | h | h <;> omega)
            clear hc
            go_wp2
            go_quiet (fail)
            go_wp2
            go_roundw
            case rel => exact ⟨3, by simp, by first | rfl | go_num, by rw [show (3 : Int) = 2 + 1 from rfl, fq_t HN.out], _, rfl⟩
            case measure => simp [intOf]
          · have hcb : ((s[k].toNat : Int) == (((⟨#[99, 116, 115, 98]⟩ : ByteArray)[1]'(by decide)).toNat : Int)) = false := by
              rw [show (((⟨#[99, 116, 115, 98]⟩ : ByteArray)[1]'(by decide)).toNat : Int) = 116 from rfl]; simp; omega
            have HN : Hid (hnm s[k] ≠ 2) := Lib.hid (by rcases HC.out with h | h | h | h | h <;> omega)
            clear hc
            go_wp2
            go_quiet (fail)
            go_wp2
            go_roundw
            case rel => exact ⟨3, by simp, by first | rfl | go_num, by rw [show (3 : Int) = 2 + 1 from rfl, fq_f HN.out, HF.out], _, rfl⟩
            case measure => simp [intOf]
        · by_cases hc : s[k].toNat = 115
          · have hcb : ((s[k].toNat : Int) == (((⟨#[99, 116, 115, 98]⟩ : ByteArray)[2]'(by decide)).toNat : Int)) = true := by
              rw [show (((⟨#[99, 116, 115, 98]⟩ : ByteArray)[2]'(by decide)).toNat : Int) = 115 from rfl]; simp; omega
            have HN : Hid (hnm s[k] = 3) := Lib.hid (by rcases HC.out with h | h | h | h | h <;> omega)
            clear hc
            go_wp2
            go_quiet (fail)
            go_wp2
            go_roundw
            case rel => exact ⟨4, by simp, by first | rfl | go_num, by rw [show (4 : Int) = 3 + 1 from rfl, fq_t HN.out], _, rfl⟩
            case measure => simp [intOf]
          · have hcb : ((s[k].toNat : Int) == (((⟨#[99, 116, 115, 98]⟩ : ByteArray)[2]'(by decide)).toNat : Int)) = false := by
              rw [show (((⟨#[99, 116, 115, 98]⟩ : ByteArray)[2]'(by decide)).toNat : Int) = 115 from rfl]; simp; omega
            have HN : Hid (hnm s[k] ≠ 3) := Lib.hid (by rcases HC.out with h | h | h | h | h <;> omega)
            clear hc
            go_wp2
            go_quiet (fail)
            go_wp2
            go_roundw
            case rel => exact ⟨4, by simp, by first | rfl | go_num, by rw [show (4 : Int) = 3 + 1 from rfl, fq_f HN.out, HF.out], _, rfl⟩
            case measure => simp [intOf]
        · by_cases hc : s[k].toNat = 98
          · have hcb : ((s[k].toNat : Int) == (((⟨#[99, 116, 115, 98]⟩ : ByteArray)[3]'(by decide)).toNat : Int)) = true := by
              rw [show (((⟨#[99, 116, 115, 98]⟩ : ByteArray)[3]'(by decide)).toNat : Int) = 98 from rfl]; simp; omega
            have HN : Hid (hnm s[k] = 4) := Lib.hid (by rcases HC.out with h | h | h | h | h <;> omega)
            clear hc
            go_wp2
            go_quiet (fail)
            go_wp2
            go_roundw
            case rel => exact ⟨5, by simp, by first | rfl | go_num, by rw [show (5 : Int) = 4 + 1 from rfl, fq_t HN.out], _, rfl⟩
            case measure => simp [intOf]
          · have hcb : ((s[k].toNat : Int) == (((⟨#[99, 116, 115, 98]⟩ : ByteArray)[3]'(by decide)).toNat : Int)) = false := by
              rw [show (((⟨#[99, 116, 115, 98]⟩ : ByteArray)[3]'(by decide)).toNat : Int) = 98 from rfl]; simp; omega
            have HN : Hid (hnm s[k] ≠ 4) := Lib.hid (by rcases HC.out with h | h | h | h | h <;> omega)
            clear hc
            go_wp2
            go_quiet (fail)
            go_wp2
            go_roundw
            case rel => exact ⟨5, by simp, by first | rfl | go_num, by rw [show (5 : Int) = 4 + 1 from rfl, fq_f HN.out, HF.out], _, rfl⟩
            case measure => simp [intOf]
        · have hF5 : hnm s[k] = f := by rw [← HF.out, fq_5]
          have hin := hnm_in s[k]
          by_cases h0 : hnm s[k] = 0
          · have H := Lib.hid (hr_no hkN h0)
            have H2 := Lib.hid (hrL_no H.out)
            have HBL : Hid (Below w.heap.size w (wo.drewN nd)) := Lib.hid (bel_drewN HR.out.bel _)
            have f0 : f = 0 := by omega
            subst f0
            clear h0 hin hF5 HF
            go_wp2
            go_ret2
            exact ⟨none, 0, by rw [H2.out, H.out]; rfl, by rw [H2.out]; exact ownA_none _ _ HBL.out.size, HBL.out⟩
          · have HV : Hid (∀ (j : Nat) (hj : j < s.size), j < k + 1 → 0 < hnm s[j]) := Lib.hid (fun j hj hjk => by
              by_cases h : j = k
              · subst h; omega
              · exact HAL.out j hj (by omega))
            have hf0 : ¬ f = 0 := by omega
            rw [hF5] at HP
            have HR2 := Lib.hid (HR.out.on (bel_drewN (Below.refl _ _) nd))
            obtain ⟨W, hW⟩ : ∃ W, W = wo.drewN nd := ⟨_, rfl⟩
            rw [← hW] at HR2 ⊢
            clear hW h0 hin hF5 HF HR HAL
            go_wp2_with (at_builtin; refine wpList_append_lies _ rfl _ _ 24 rfl w.heap.size 2 j0 (.int .i64 0) 1 8 Try.underlying24 hj0 hy0 hy1 hy2 rfl (by decide) (.slice (some ⟨ge, 0, none⟩) k ce) k ((hpre s k).map iv4) rfl (HR2.out.own.alloc _) ⟨W.heap.size, 0, none⟩ 1 1 [.int .i64 f] rfl rfl (World.news_of_block (cs := #[.int .i64 f]) (t := 2) (fr := (0, 0)) (heap_alloc_new W _)) (by simp [Value.oneCell']) (by decide) (by unfold maxLen; omega) (by omega) (by simp; exact Nat.le_succ_of_le HR2.out.bel.size) (W.heap.size + 1) (by simp) ?_; intro g2 cp2 w9 hown hgrow hat hlt9; have HR9 := Lib.hid ((HR2.out.on ((Below.refl _ _).alloc (Nat.le_refl _) _)).snoc hown hgrow); clear hown hgrow hat hlt9)
            go_roundw
            case rel => exact ⟨k + 1, g2, cp2, rfl, by go_num, by omega, by rw [HP.out, List.map_append]; exact HR9.out, HV.out⟩
            case measure => simp [intOf]; omega
end Go.Proofs.Ythbcllejojnboab
