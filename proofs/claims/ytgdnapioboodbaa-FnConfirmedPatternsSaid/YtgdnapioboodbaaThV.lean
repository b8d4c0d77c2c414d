/- Counts through the tables: Do at a table that is computed or not, and the count itself, by the number of scans. -/
import Derived.Test.YtgdnapioboodbaaThU
namespace Go.Proofs.Ytgdnapioboodbaa
open Go.ChangeShapes Go.WideShapes Go.ChangeAt Go.RowKit Go.Shelf Num
set_option linter.unusedVariables false
set_option linter.unusedSimpArgs false

theorem grown_of_below {w w' : World} (s : Nat) (h : Below w.heap.size w w') : w.grownBy w' (some s) := ⟨h.os, h.tape, h.output, h.size, fun k hk _ => h.block k hk⟩
theorem doo_any (a : Int) (a0 : 0 ≤ a) (a1 : a ≤ 16) (n : Nat) (hn : n ≤ 12) (b o : Nat) (ho : o = 1 + n * 17)
    (ih : ∀ p, p + 1 = n → ∀ (q : Nat), q ≤ n → ∀ (W : World) (cs : Array Value), Tkd W b cs a n → Calls Try.prog 44 #[.pointer (some ⟨b, 0, none⟩), .int .i64 (p : Int), .int .i64 (q : Int)] W fun e w' => e = .returned (.int .i64 (tl a p q)) ∧ Aft W b cs a n w')
    (W : World) (g0 g1 g2 : Nat) (cs : Array Value) (bn : Bk W g0 #[.int .i64 (n : Int)] 2) (bt : Bk W g1 #[.pointer (some ⟨b, o, none⟩)] 85) (bp : Bk W g2 #[.pointer (some ⟨b, 0, none⟩)] 84) (n0 : g0 ≠ b) (n1 : g1 ≠ b) (n2 : g2 ≠ b)
    (hT : Tkd W b cs a (n + 1)) :
    Calls Try.prog 64 #[.pointer (some ⟨b, o, none⟩), .func (.func 65) #[] #[.pointer (some ⟨g0, 0, none⟩), .pointer (some ⟨g1, 0, none⟩), .pointer (some ⟨g2, 0, none⟩)]] W fun e w' => e = .returned (.tuple #[]) ∧
      ∃ cs3, Tkd w' b cs3 a (n + 1) ∧ (∀ x, 1 + (n + 1) * 17 ≤ x → cs3[x]? = cs[x]?) ∧ (∀ j : Nat, j ≤ n + 1 → cs3[o + 3 + j]? = some (.int .i64 (tl a n j))) ∧ W.grownBy w' (some b) := by
  rcases hT.tb n (by omega) with ⟨h1, h2, h3⟩ | ⟨h1, h2, h3⟩
  · rw [← ho] at h1 h2 h3
    obtain ⟨cs1, hcs1⟩ : ∃ q, cs.setIfInBounds (o + 1) (.int .i32 1) = q := ⟨_, rfl⟩
    have oth : ∀ x, o + 1 ≠ x → cs1[x]? = cs[x]? := fun x hx => by rw [← hcs1]; exact get_other _ hx
    have hI : Inn (W.setCell ⟨b, o + 1, none⟩ (.int .i32 1)) b o cs1 a n 0 cs1 (W.setCell ⟨b, o + 1, none⟩ (.int .i32 1)) :=
      ⟨⟨hT.bk.set _ _ hcs1, by rw [oth _ (by omega)]; exact hT.c0, fun m hm => (hT.tb m (by omega)).congr (fun x x1 x2 => oth _ (by omega))⟩, by rw [oth _ (by omega)]; exact h1, by rw [← hcs1]; exact get_same _ h2, fun j hj => by omega, fun j _ hj => by rw [oth _ (by omega)]; exact h3 j hj, fun x _ => rfl, grown_refl _ _⟩
    refine (on_first b o _ _ _ W (fun w' => ∃ cs2, Inn (W.setCell ⟨b, o + 1, none⟩ (.int .i32 1)) b o cs1 a n (n + 1) cs2 w') (hT.bk.cell _ h1) (hT.bk.cell _ h2) (hT.bk.frozen _) (hT.bk.frozen _) (clo_any a a0 a1 n hn b o ho ih _ g0 g1 g2 cs1 (bn.other n0 _ _) (bt.other n1 _ _) (bp.other n2 _ _) n0 n1 n2 hI) ?_).mono ?_
    · rintro w' ⟨cs2, h⟩
      exact ⟨h.tk.bk.cell _ h.dn, h.tk.bk.cell _ h.st, h.tk.bk.frozen _, h.tk.bk.frozen _⟩
    · rintro e w' ⟨rfl, w1, ⟨cs2, h⟩, rfl⟩
      exact ⟨rfl, h.done (w := W) ho hn (grown_set (grown_refl W b) _ _) (fun x hx => oth _ (by omega))⟩
  · rw [← ho] at h1 h2 h3
    refine (on_done ⟨b, o, none⟩ _ W (hT.bk.cell _ h1)).mono ?_
    rintro e w' ⟨rfl, rfl⟩
    exact ⟨rfl, cs, hT, fun _ _ => rfl, fun j hj => h3 j (by omega) hj, grown_refl _ _⟩

set_option maxRecDepth 100000 in
set_option maxHeartbeats 8000000 in
theorem cou_step (a : Int) (a0 : 0 ≤ a) (a1 : a ≤ 16) (n : Nat) (hn : n ≤ 12) (q : Nat) (hq : q ≤ n + 1) (w : World) (b : Nat) (cs : Array Value) (hT : Tkd w b cs a (n + 1))
    (ih : ∀ p, p + 1 = n → ∀ (q : Nat), q ≤ n → ∀ (W : World) (cs : Array Value), Tkd W b cs a n → Calls Try.prog 44 #[.pointer (some ⟨b, 0, none⟩), .int .i64 (p : Int), .int .i64 (q : Int)] W fun e w' => e = .returned (.int .i64 (tl a p q)) ∧ Aft W b cs a n w') :
    Calls Try.prog 44 #[.pointer (some ⟨b, 0, none⟩), .int .i64 (n : Int), .int .i64 (q : Int)] w fun e w' => e = .returned (.int .i64 (tl a n q)) ∧ Aft w b cs a (n + 1) w' := by
  have HT := Lib.hid hT
  have IH := Lib.hid ih
  have A0 := Lib.hid a0
  have A1 := Lib.hid a1
  have HN := Lib.hid hn
  have HQ := Lib.hid hq
  have bb := hT.bk
  have hlt := bb.lt
  have hn13 : (n : Int) < 13 := by omega
  have hq14 : (q : Int) < 14 := by omega
  clear hT ih a0 a1 hn hq
  obtain ⟨R, hR⟩ : ∃ x, tl a n q = x := ⟨_, rfl⟩
  have HR := Lib.hid hR
  rw [hR]
  clear hR
  go_enter Try.func44, Try.ntmps44
  go_upto_region 1 with fail
  generalize hW : World.alloc _ _ = W
  have bp : Bk W w.heap.size #[.pointer (some ⟨b, 0, none⟩)] 84 := by rw [← hW]; repeat (first | (refine Bk.new' ?_; (simp; done)) | refine Bk.alloc ?_ _)
  have bn : Bk W (w.heap.size + 1) #[.int .i64 (n : Int)] 2 := by rw [← hW]; repeat (first | (refine Bk.new' ?_; (simp; done)) | refine Bk.alloc ?_ _)
  have HB : Hid (Below w.heap.size w W) := Lib.hid (by rw [← hW]; exact (by repeat (first | exact Below.refl _ _ | (refine Below.alloc ?_ (by simp <;> omega) _) | (refine Below.setCell ?_ (by simp <;> omega) _) | (refine Below.drew ?_) | (refine bel_drewN ?_ _))))
  clear hW
  replace bb := bb.on HB.out
  have HLT := Lib.hid hlt
  clear hlt
  obtain ⟨S, hSd⟩ : ∃ S : World → Prop, ∀ w', S w' ↔ (w'.cell? ⟨w.heap.size, 0, none⟩ = some (.pointer (some ⟨b, 0, none⟩)) ∧ w'.cell? ⟨w.heap.size + 1, 0, none⟩ = some (.int .i64 (n : Int))) := ⟨_, fun _ => Iff.rfl⟩
  have HSp : Hid (∀ w' : World, Bk w' (w.heap.size) #[.pointer (some ⟨b, 0, none⟩)] 84 → Bk w' (w.heap.size + 1) #[.int .i64 (n : Int)] 2 → S w') := Lib.hid (fun w' bp bn => (hSd w').2 ⟨bp.cell 0 rfl, bn.cell 0 rfl⟩)
  have HSd := Lib.hid hSd
  clear hSd
  refine wp_region_held_drew (S := S) (by kernel_rfl) ?_ (fun hH => ?_)
  · exact (HSp.out _ bp bn : S (World.drew W))
  clear hH
  generalize hX : World.drew W = V0
  replace bp : Bk V0 (w.heap.size) #[.pointer (some ⟨b, 0, none⟩)] 84 := by rw [← hX]; exact bp
  replace bn : Bk V0 (w.heap.size + 1) #[.int .i64 (n : Int)] 2 := by rw [← hX]; exact bn
  replace bb : Bk V0 (b) (cs) 65 := by rw [← hX]; exact bb
  have hb : Below W.heap.size W V0 := by rw [← hX]; exact (Below.refl _ _).drew
  clear hX
  replace HB := Lib.hid (bel_end HB.out hb)
  clear hb
  have hS := HSp.out _ bp bn
  refine wpAnyH_take (i := 0) (oi := { dst := some 8, op := Go.Op.load 84 (Go.Operand.tmp 3), type := 84, pos := "l13_thresholds.go:158", after := #[], guard := none }) (v := ?_) rfl (by kernel_rfl) (by kernel_rfl) (by kernel_rfl) (fun _ _ _ h => h) (Or.inl ⟨by rfl, ?_⟩) hS ?_
  rotate_left
  · (intro w hSw; have hSw := (HSd.out w).1 hSw; go_split_ands; go_simp) <;> with_reducible rfl
  clear hS
  try simp only [Act.put, List.setIfInBounds_toArray, List.set_cons_zero, List.set_cons_succ]
  have hS := HSp.out _ bp bn
  refine wpAnyH_take (i := 1) (oi := { dst := some 9, op := Go.Op.load 2 (Go.Operand.tmp 4), type := 2, pos := "l13_thresholds.go:158", after := #[], guard := none }) (v := ?_) rfl (by kernel_rfl) (by kernel_rfl) (by kernel_rfl) (fun _ _ _ h => h) (Or.inl ⟨by rfl, ?_⟩) hS ?_
  rotate_left
  · (intro w hSw; have hSw := (HSd.out w).1 hSw; go_split_ands; go_simp) <;> with_reducible rfl
  clear hS
  try simp only [Act.put, List.setIfInBounds_toArray, List.set_cons_zero, List.set_cons_succ]
  have hS := HSp.out _ bp bn
  refine wpAnyH_take (i := 2) (oi := { dst := some 10, op := Go.Op.nilCheck (Go.Operand.tmp 8), type := 0, pos := "l13_thresholds.go:158", after := #[{ on := 0, ground := Go.Ground.data }], guard := none }) (v := ?_) rfl (by kernel_rfl) (by kernel_rfl) (by kernel_rfl) (fun _ _ _ h => h) (Or.inl ⟨by rfl, ?_⟩) hS ?_
  rotate_left
  · (intro w hSw; have hSw := (HSd.out w).1 hSw; go_split_ands; go_simp) <;> with_reducible rfl
  clear hS
  try simp only [Act.put, List.setIfInBounds_toArray, List.set_cons_zero, List.set_cons_succ]
  have hS := HSp.out _ bp bn
  refine wpAnyH_take (i := 3) (oi := { dst := some 11, op := Go.Op.fieldAddr 65 (Go.Operand.tmp 10) 1, type := 0, pos := "l13_thresholds.go:158", after := #[{ on := 2, ground := Go.Ground.data }], guard := none }) (v := ?_) rfl (by kernel_rfl) (by kernel_rfl) (by kernel_rfl) (fun _ _ _ h => h) (Or.inl ⟨by rfl, ?_⟩) hS ?_
  rotate_left
  · (intro w hSw; have hSw := (HSd.out w).1 hSw; go_split_ands; go_simp) <;> with_reducible rfl
  clear hS
  try simp only [Act.put, List.setIfInBounds_toArray, List.set_cons_zero, List.set_cons_succ]
  have hS := HSp.out _ bp bn
  refine wpAnyH_take (i := 4) (oi := { dst := some 12, op := Go.Op.indexAddr 63 (Go.Operand.tmp 11) (Go.Operand.tmp 9), type := 0, pos := "l13_thresholds.go:158", after := #[{ on := 3, ground := Go.Ground.data }, { on := 1, ground := Go.Ground.data }], guard := none }) (v := ?_) rfl (by kernel_rfl) (by kernel_rfl) (by kernel_rfl) (fun _ _ _ h => h) (Or.inl ⟨by rfl, ?_⟩) hS ?_
  rotate_left
  · (intro w hSw; have hSw := (HSd.out w).1 hSw; go_split_ands; go_simp) <;> with_reducible rfl
  clear hS
  try simp only [Act.put, List.setIfInBounds_toArray, List.set_cons_zero, List.set_cons_succ]
  refine wpAnyH_ready (rs := [5]) (by decide +kernel) (by simp) ?_
  refine AllReadyH.cons (o := { dst := some 7, op := Go.Op.alloc 85, type := 0, pos := "l13_thresholds.go:158", after := #[], guard := none }) rfl (fun Kn hK => ?_) AllReadyH.nil
  go_simp
  generalize hX : World.alloc V0 _ = V1
  obtain ⟨g5, hg⟩ : ∃ g, g = V0.heap.size := ⟨_, rfl⟩
  have bn5 : Bk V1 g5 #[.pointer none] 85 := by rw [← hX]; exact Bk.new' hg
  have le5 : w.heap.size ≤ g5 := by rw [hg]; exact HB.out.size
  have nebp_5 : w.heap.size ≠ g5 := by have := bp.lt; omega
  have nebn_5 : w.heap.size + 1 ≠ g5 := by have := bn.lt; omega
  have nebb_5 : b ≠ g5 := by have := bb.lt; omega
  try rw [← hg]
  have hb : Below V0.heap.size V0 V1 := by rw [← hX]; exact (Below.refl _ _).alloc (Nat.le_refl _) _
  clear hX hg
  replace bp := bp.on hb
  replace bn := bn.on hb
  replace bb := bb.on hb
  replace HB := Lib.hid (bel_end HB.out hb)
  clear hb
  refine hK.out _ _ (HSp.out _ bp bn) (fun _ => ?_)
  clear hK Kn
  refine wpAnyH_ready (rs := [6]) (by decide +kernel) (by simp) ?_
  refine AllReadyH.cons (o := { dst := none, op := Go.Op.store 85 (Go.Operand.tmp 7) (Go.Operand.tmp 12), type := 0, pos := "l13_thresholds.go:158", after := #[{ on := 5, ground := Go.Ground.data }, { on := 4, ground := Go.Ground.data }, { on := 0, ground := Go.Ground.phase }, { on := 1, ground := Go.Ground.phase }, { on := 2, ground := Go.Ground.phase }, { on := 3, ground := Go.Ground.phase }, { on := 4, ground := Go.Ground.phase }, { on := 5, ground := Go.Ground.phase }], guard := none }) rfl (fun Kn hK => ?_) AllReadyH.nil
  have bn5_0 := bn5.cell 0 rfl
  have bn5_f0 := bn5.frozen 0
  have bn5_l := bn5.lt
  go_simp
  clear bn5_0 bn5_f0 bn5_l
  generalize hX : World.setCell _ _ _ = V2
  have hb : Below w.heap.size w V2 := by rw [← hX]; exact HB.out.setCell (p := ⟨g5, 0, none⟩) le5 _
  replace bp : Bk V2 (w.heap.size) #[.pointer (some ⟨b, 0, none⟩)] 84 := by rw [← hX]; exact (Bk.other bp nebp_5 0 _)
  replace bn : Bk V2 (w.heap.size + 1) #[.int .i64 (n : Int)] 2 := by rw [← hX]; exact (Bk.other bn nebn_5 0 _)
  replace bb : Bk V2 (b) (cs) 65 := by rw [← hX]; exact (Bk.other bb nebb_5 0 _)
  replace bn5 : Bk V2 (g5) #[.pointer (some ⟨b, 1 + n * 17, none⟩)] 85 := by rw [← hX]; exact (Bk.set bn5 0 _ rfl)
  clear hX
  replace HB := Lib.hid hb
  clear hb
  refine hK.out _ _ (HSp.out _ bp bn) (fun _ => ?_)
  clear hK Kn
  refine wpAnyH_done (by kernel_rfl) ?_ _
  clear hn13
  have HV := Lib.hid (Tkd.mk (N := n + 1) bb HT.out.c0 HT.out.tb)
  have hmf : ∀ (fn : Fn) (first cap : Array Value) (w : World), (Instr.makeFunc fn first cap).run Try.prog w = .ok (.func fn first cap) w := fun _ _ _ _ => rfl
  have KD := Lib.hid (doo_any a A0.out A1.out n HN.out b (1 + n * 17) rfl IH.out V2 (w.heap.size + 1) g5 w.heap.size cs bn bn5 bp (by have := HLT.out; omega) (by have := HLT.out; have := le5; omega) (by have := HLT.out; omega) HV.out)
  have t_0 := bn5.cell 0 rfl
  have t_l := bn5.lt
  go_wp2_with (go_at_call 64; (with_reducible refine Calls.mono KD.out ?_); rintro e wd ⟨rfl, cs3, hT3, hx3, hf3, hg3⟩; clear t_0 t_l; have bt3 := bn5.kept hg3 (by have := HLT.out; have := le5; simp; omega); have t_0 := bt3.cell 0 rfl; have t_l := bt3.lt; have c_q := hT3.bk.cell _ (hf3 q HQ.out); rw [HR.out] at c_q; have H3 := Lib.hid (And.intro hT3 (And.intro hx3 hg3)); clear hT3 hx3 hf3 hg3)
  go_ret
  exact ⟨rfl, cs3, H3.out.1, H3.out.2.1, grown_trans (grown_of_below b HB.out) H3.out.2.2⟩

set_option maxRecDepth 100000 in
set_option maxHeartbeats 8000000 in
theorem cou_any (a : Int) (a0 : 0 ≤ a) (a1 : a ≤ 16) : ∀ (n : Nat), n ≤ 12 → ∀ (q : Nat), q ≤ n + 1 → ∀ (w : World) (b : Nat) (cs : Array Value), Tkd w b cs a (n + 1) →
    Calls Try.prog 44 #[.pointer (some ⟨b, 0, none⟩), .int .i64 (n : Int), .int .i64 (q : Int)] w fun e w' => e = .returned (.int .i64 (tl a n q)) ∧ Aft w b cs a (n + 1) w' := by
  intro n
  induction n with
  | zero =>
    intro hn q hq w b cs hT
    exact cou_step a a0 a1 0 hn q hq w b cs hT (fun p hp => absurd hp (by omega))
  | succ n ih =>
    intro hn q hq w b cs hT
    refine cou_step a a0 a1 (n + 1) hn q hq w b cs hT (fun p hp q2 hq2 W cs2 hT2 => ?_)
    obtain rfl : p = n := by omega
    exact ih (by omega) q2 hq2 W b cs2 hT2
end Go.Proofs.Ytgdnapioboodbaa
