/- Contracts of matches, the program's and the model's. -/
import Derived.Test.YthfaejhiabdkbabMfA
namespace Go.Proofs.Ythfaejhiabdkbab
open Go.ChangeShapes Go.WideShapes Go.ChangeAt Go.RowKit Go.Shelf Num
set_option linter.unusedVariables false
set_option linter.unusedSimpArgs false
/-- a list of matches, of one's own -/
def MtL (w : World) (L : List Int) (e : Ending) (w' : World) : Prop := ∃ (g c' : Nat), e = .returned (.slice (some ⟨g, 0, none⟩) L.length c') ∧ OwnA w' w.heap.size w'.heap.size (some ⟨g, 0, none⟩) c' L ∧ Below w.heap.size w w'
set_option maxRecDepth 100000 in
set_option maxHeartbeats 2000000 in
theorem mto_any (w : World) (a b : Option Addr) (c d : Nat) (ss ps : List Int) (h : mtC ss ps = 0) (hc : ss.length ≤ c) (hz : Ints .i64 w w.heap.size a ss) (hy : Ints .i64 w w.heap.size b ps) :
    Calls Try.prog 57 #[.slice a ss.length c, .slice b ps.length d] w (MtL w (mtL ss ps)) := by
  obtain ⟨s1, s2, p0, pl⟩ := mtC_0 h
  obtain ⟨g4, gs⟩ := sigB_t s1
  obtain ⟨q4, gp⟩ := sigB_t s2
  have K : Hid (∀ (wr : World) (k : Nat), k < ss.length - ps.length + 1 → Ints .i64 wr w.heap.size a ss → Ints .i64 wr w.heap.size b ps → Calls Try.prog 72 #[.slice b ps.length d, .slice (a.map (·.add k)) (ss.length - k) (c - k)] wr fun e w' => e = .returned (.int .i64 (mtA ss ps k)) ∧ wr = w') := Lib.hid (fun wr k hk hz hy => by
    have := sop_any wr w.heap.size ps.length (ss.length - k) b (frA a c k) d (c - k) ps (ss.drop k) rfl (by simp) (by omega) (by omega) (by omega) gp (smlL_drop gs k) hy (Ints.from_ hz hc)
    unfold frA at this
    rwa [if_neg (by omega)] at this)
  have HZ := Lib.hid hz
  have HY := Lib.hid hy
  have HL : Hid (mtL ss ps = (List.range (ss.length - ps.length + 1)).map (mtA ss ps)) := Lib.hid rfl
  clear gs gp hz hy h s1 s2
  obtain ⟨n, hn⟩ : ∃ n, ss.length = n := ⟨_, rfl⟩
  obtain ⟨m, hm⟩ : ∃ m, ps.length = m := ⟨_, rfl⟩
  rw [hn, hm] at K HL pl
  rw [hn] at g4 hc ⊢
  rw [hm] at q4 p0 ⊢
  clear hn hm
  obtain ⟨N, hN⟩ : ∃ N, n - m + 1 = N := ⟨_, rfl⟩
  rw [hN] at K HL
  have hN4 : N ≤ 400 := by omega
  have hNn : N ≤ n := by omega
  have hNi : (n : Int) - (m : Int) + 1 = (N : Int) := by omega
  have e1 : IntKind.wrap .i64 ((n : Int) - (m : Int)) = (n : Int) - (m : Int) := IntWalk.i64_in _ (by omega)
  have e2 : IntKind.wrap .i64 ((n : Int) - (m : Int) + 1) = (N : Int) := by rw [hNi]; exact IntWalk.i64_in _ (by omega)
  have hmk : ∀ w, (Instr.makeSlice 30 (.int .i64 (N : Int)) (.int .i64 (N : Int))).run Try.prog w = .ok (.slice (some ⟨w.heap.size, 0, none⟩) N N) (w.alloc (.cells (madeCells #[.int .i64 0] N) 2)) := fun w => run_make_row' (P := Try.prog) 30 2 (.int .i64 0) 8 Try.underlying30 info_i64 rfl .i64 .i64 N (by omega) (by omega) w
  clear hNi hN
  go_enter Try.func57, Try.ntmps57
  go_upto_region 2 with fail
  clear hmk e1 e2
  have HR0 := Lib.hid (rowG_zeros w N (by unfold maxLen; omega))
  obtain ⟨G, hG⟩ : ∃ G, w.heap.size = G := ⟨_, rfl⟩
  have HGs := Lib.hid hG
  rw [hG] at HR0 ⊢
  clear hG
  go_wp2_with fail
  go_loopw [16] (fun i wr => ∃ k : Nat, k ≤ N ∧ i = .int .i64 k ∧ RowG w 2 1 G N N ((parP (mtA ss ps) N k).map iv4) wr) (fun i _ => N - (intOf i).toNat)
  case atStart => exact ⟨0, by omega, rfl, by rw [parP_0]; exact HR0.out⟩
  case round =>
    obtain ⟨k, hk, rfl, hR⟩ := hrel
    rename_i wr
    have HR := Lib.hid hR
    clear hR HR0
    by_cases hlt : k < N
    · have KK := Lib.hid (K.out wr k hlt (HZ.out.below HR.out.bel) (HY.out.below HR.out.bel))
      have hkc : ¬ c = k := by omega
      have hkn : ¬ n = k := by omega
      have ho := HR.out.at1 (j := k) hlt (parP_len _ _ _)
      have hf := HR.out.own.frozenAt k
      obtain ⟨u, hu⟩ : ∃ u, (parP (mtA ss ps) N k).getD k 0 = u := ⟨_, rfl⟩
      rw [hu] at ho
      clear hu
      go_wp2_with fail
      refine KK.out.mono ?_
      rintro e w' ⟨rfl, rfl⟩
      go_wp2_with fail
      go_roundw
      case rel => exact ⟨k + 1, by omega, by go_num, by rw [← parP_set]; exact HR.out.set k _⟩
      case measure => simp [intOf]; omega
    · obtain rfl : k = N := by omega
      rw [parP_end] at HR
      go_wp2
      go_ret
      exact ⟨G, k, by rw [HL.out, List.length_map, List.length_range]; rfl, by rw [HL.out]; exact ownA_row HR.out (by simp) (Nat.le_refl _), HR.out.bel⟩
set_option maxRecDepth 100000 in
set_option maxHeartbeats 2000000 in
theorem ltm_any (w : World) (a b : Option Addr) (c d : Nat) (ss ps : List Int) (h : mtC ss ps = 0) (hz : Ints .i64 w w.heap.size a ss) (hy : Ints .i64 w w.heap.size b ps) :
    Calls Try.prog 42 #[.slice a ss.length c, .slice b ps.length d] w (MtL w (mtL ss ps)) := by
  obtain ⟨i0, hi, hz0, hz1, hz2⟩ := info_parts info_i64
  obtain ⟨s1, s2, p0, pl⟩ := mtC_0 h
  obtain ⟨g4, gs⟩ := sigB_t s1
  obtain ⟨q4, gp⟩ := sigB_t s2
  have HZ := Lib.hid hz
  have HY := Lib.hid hy
  have HS := Lib.hid gs
  have HP := Lib.hid gp
  have HE : Hid (∀ k, dotT ps (ss.drop k) ps.length = mtA ss ps k) := Lib.hid (fun k => rfl)
  have HL : Hid (mtL ss ps = mtK ss ps (ss.length - ps.length + 1)) := Lib.hid rfl
  clear gs gp hz hy h s1 s2
  obtain ⟨n, hn⟩ : ∃ n, ss.length = n := ⟨_, rfl⟩
  obtain ⟨m, hm⟩ : ∃ m, ps.length = m := ⟨_, rfl⟩
  have HN := Lib.hid hn
  have HM := Lib.hid hm
  rw [hn, hm] at HL pl
  rw [hm] at HE
  rw [hn] at g4 ⊢
  rw [hm] at q4 p0 ⊢
  clear hn hm
  obtain ⟨N, hN⟩ : ∃ N, n - m + 1 = N := ⟨_, rfl⟩
  rw [hN] at HL
  have hN2 : ∀ k : Nat, (k < N ↔ k + m ≤ n) := fun k => by omega
  have HK := Lib.hid hN2
  have hN4 : N ≤ 400 := by omega
  clear hN hN2
  go_enter Try.func42, Try.ntmps42
  go_wp2_with fail
  have HR0 := Lib.hid (RowG.lit (w1 := w) (t := 2) (m := 1) (W := w.alloc (.cells #[] 2)) (Bk.new' rfl) (Nat.le_refl _) ((Below.refl _ _).alloc (Nat.le_refl _) _))
  go_loopw [5, 6] (fun v x wr => ∃ (k ge ce : Nat), k ≤ N ∧ v = .slice (some ⟨ge, 0, none⟩) k ce ∧ x = .int .i64 (k : Int) ∧ RowG w 2 1 ge ce k ((mtK ss ps k).map iv4) wr) (fun _ x _ => N - (intOf x).toNat)
  case atStart => exact ⟨0, w.heap.size, 0, by omega, rfl, rfl, HR0.out⟩
  case round =>
    obtain ⟨k, ge, ce, hk, rfl, rfl, hR⟩ := hrel
    rename_i wr
    have HR := Lib.hid hR
    clear hR HR0
    have ekm : IntKind.wrap .i64 ((k : Int) + (m : Int)) = (k : Int) + (m : Int) := IntWalk.i64_in _ (by omega)
    by_cases hlt : k < N
    · have hkm : k + m ≤ n := (HK.out k).1 hlt
      have hle : ¬ (n : Int) < (k : Int) + (m : Int) := by omega
      have hle2 : (k : Int) + (m : Int) ≤ (n : Int) := by omega
      go_wp2_with fail
      go_loopw [7, 8] (fun s x wi => ∃ j : Nat, (∃ q, wi = wr.drewN q) ∧ j ≤ m ∧ x = .int .i64 (j : Int) ∧ s = .int .i64 (dotT ps (ss.drop k) j)) (fun _ x _ => m - (intOf x).toNat)
      case atStart => exact ⟨0, ⟨0, rfl⟩, by omega, rfl, rfl⟩
      case round =>
        obtain ⟨j, ⟨q, rfl⟩, hj, rfl, rfl⟩ := hrel
        by_cases hlj : j < m
        · obtain ⟨b1, o1, ra, -, hc1⟩ := (HY.out.below HR.out.bel).at_ (j := j) (by rw [HM.out]; exact hlj)
          obtain ⟨b2, o2, rb, -, hc2⟩ := (HZ.out.below HR.out.bel).at_ (j := k + j) (by rw [HN.out]; omega)
          subst ra rb
          have hp := prod_bd (HP.out j) (HS.out (k + j))
          have hd := dotT_bd HP.out (smlL_drop HS.out k) j
          have hs := dotT_succ ps (ss.drop k) j
          rw [getD_drop] at hs
          obtain ⟨x, hx1⟩ : ∃ x, ps.getD j 0 = x := ⟨_, rfl⟩
          obtain ⟨y, hy1⟩ : ∃ y, ss.getD (k + j) 0 = y := ⟨_, rfl⟩
          obtain ⟨S, hS⟩ : ∃ S, dotT ps (ss.drop k) j = S := ⟨_, rfl⟩
          rw [hx1] at hc1 hp hs
          rw [hy1] at hc2 hp hs
          rw [hS] at hd hs ⊢
          have HSS := Lib.hid hs
          obtain ⟨p1, p2⟩ := hp
          have q1 : -400000000 ≤ S := by omega
          have q2 : S ≤ 400000000 := by omega
          have ej : IntKind.wrap .i64 ((k : Int) + (j : Int)) = (k : Int) + (j : Int) := IntWalk.i64_in _ (by omega)
          have ejn : ((k : Int) + (j : Int)).toNat = k + j := by omega
          have ejp : 0 ≤ (k : Int) + (j : Int) := by omega
          have ejl : (k : Int) + (j : Int) < (n : Int) := by omega
          have exy : IntKind.wrap .i64 (x * y) = x * y := IntWalk.i64_in _ (by omega)
          have exs : IntKind.wrap .i64 (S + x * y) = S + x * y := IntWalk.i64_in _ (by omega)
          clear hx1 hy1 hS hs hd
          go_wp2_with fail
          go_quiet (fail)
          go_wp2_with fail
          go_roundw
          case rel => exact ⟨j + 1, ⟨_, rfl⟩, by omega, by go_num, by rw [HSS.out]⟩
          case measure => simp [intOf]; omega
        · obtain rfl : j = m := by omega
          rw [HE.out k]
          have hbq : Below wr.heap.size wr (wr.drewN q) := below_drewN (Below.refl _ _) _
          replace HR := Lib.hid (HR.out.on hbq)
          clear hbq
          have hsn := mtK_succ ss ps k
          obtain ⟨C, hC⟩ : ∃ C, mtA ss ps k = C := ⟨_, rfl⟩
          rw [hC] at hsn ⊢
          have HSN : Hid ((mtK ss ps k).map iv4 ++ [.int .i64 C] = (mtK ss ps (k + 1)).map iv4) := Lib.hid (by rw [hsn, List.map_append]; rfl)
          clear hC hsn
          go_wp2_with (at_builtin; refine wpList_append_lies _ rfl _ _ 30 rfl w.heap.size 2 i0 (.int .i64 0) 1 8 Try.underlying30 hi hz0 hz1 hz2 rfl (by decide) (.slice (some ⟨ge, 0, none⟩) k ce) k ((mtK ss ps k).map iv4) rfl (HR.out.own.alloc _) ⟨(wr.drewN q).heap.size, 0, none⟩ 1 1 [.int .i64 C] rfl rfl (World.news_of_block (cs := #[.int .i64 C]) (t := 2) (fr := (0, 0)) (heap_alloc_new (wr.drewN q) _)) (by simp [Value.oneCell']) (by decide) (by unfold maxLen; omega) (by omega) (by simp; exact Nat.le_succ_of_le HR.out.bel.size) ((wr.drewN q).heap.size + 1) (by simp) ?_; intro g2 cp2 w9 hown hgrow hat hlt9; have HR9 := Lib.hid ((HR.out.on ((Below.refl _ _).alloc (Nat.le_refl _) _)).snoc hown hgrow); clear hown hgrow hat hlt9)
          rw [HSN.out] at HR9
          go_wp2_with fail
          go_roundw
          case rel => exact ⟨k + 1, g2, cp2, by omega, rfl, by go_num, HR9.out⟩
          case measure => simp [intOf]; omega
    · obtain rfl : k = N := by omega
      have hkm : ¬ k + m ≤ n := fun h => hlt ((HK.out k).2 h)
      have hle : (n : Int) < (k : Int) + (m : Int) := by omega
      have hle2 : ¬ (k : Int) + (m : Int) ≤ (n : Int) := by omega
      go_wp2
      go_ret
      exact ⟨ge, ce, by rw [HL.out, mtK_len]; rfl, by rw [HL.out]; exact ownA_row HR.out (mtK_len _ _ _) (Nat.le_refl _), HR.out.bel⟩

end Go.Proofs.Ythfaejhiabdkbab
