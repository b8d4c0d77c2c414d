/- Contracts of TurningSpeed, the program's and the model's. -/
import Derived.Test.YtkjpjhklnaehbabCns
import Derived.Test.YtkjpjhklnaehbabRlm
import Derived.Test.YtkjpjhklnaehbabLws
namespace Go.Proofs.Ytkjpjhklnaehbab
open Go.ChangeShapes Go.WideShapes Go.ChangeAt Go.RowKit Go.Shelf Num
set_option linter.unusedVariables false
attribute [local go_sem ↓] Go.wp_at_zero Go.wp_at_succ

theorem rcod_src (zs ys : List Int) (src c s h : Int) : rcod zs ys src c s h 0 = rcod zs ys src c s h src := by
  unfold rcod rcT
  cases hp : prfB zs ys
  · rfl
  · have h0 : hkB zs 0 = true := by
      have := (Okp.of hp).n2
      unfold hkB
      simp
      omega
    rw [h0]
    cases hkB zs src <;> rfl
/-- the turning speed: its terms, its code -/
def tsT (zs ys : List Int) (src c s h : Int) : Int × Int × Int := if rcod zs ys src c s h src = 0 then (if (mkT (rA ys src h) c).2.2 = 0 then mkT (rA ys src h) c else (0, 0, 3)) else (0, 0, rcod zs ys src c s h src)
theorem at61 {W w2 : World} {m n : Nat} {v0 v1 v2 v3 v4 v5 u0 u1 u2 : Value} {t t' : TypeId} (h : Bk W m #[v0, v1, v2, v3, v4, v5] t) (g : Bk W n #[u0, u1, u2] t') (hb : Below W.heap.size W w2) :
    w2.cell? ⟨m, 0, none⟩ = some v0 ∧ w2.cell? ⟨m, 1, none⟩ = some v1 ∧ w2.cell? ⟨m, 2, none⟩ = some v2 ∧ w2.cell? ⟨m, 3, none⟩ = some v3 ∧ w2.cell? ⟨m, 4, none⟩ = some v4 ∧ w2.cell? ⟨m, 5, none⟩ = some v5 ∧ w2.cell? ⟨n, 0, none⟩ = some u0 ∧ Below W.heap.size W w2 :=
  ⟨(h.on hb).cell 0 rfl, (h.on hb).cell 1 rfl, (h.on hb).cell 2 rfl, (h.on hb).cell 3 rfl, (h.on hb).cell 4 rfl, (h.on hb).cell 5 rfl, (g.on hb).cell 0 rfl, hb⟩
theorem at4x {W w2 : World} {m n b o : Nat} {v0 v1 u0 u1 u2 x : Value} {t t' : TypeId} (h : Bk W m #[v0, v1] t) (g : Bk W n #[u0, u1, u2] t') (hx : W.cell? ⟨b, o, none⟩ = some x) (hb : Below W.heap.size W w2) :
    w2.cell? ⟨m, 1, none⟩ = some v1 ∧ w2.cell? ⟨n, 0, none⟩ = some u0 ∧ w2.cell? ⟨n, 2, none⟩ = some u2 ∧ w2.cell? ⟨b, o, none⟩ = some x ∧ Below W.heap.size W w2 :=
  ⟨(h.on hb).cell 1 rfl, (g.on hb).cell 0 rfl, (g.on hb).cell 2 rfl, kc1 hx hb, hb⟩

set_option maxRecDepth 100000 in
set_option maxHeartbeats 1000000 in
theorem its_no (w : World) (a b : Option Addr) (ca cb : Nat) (zs ys : List Int) (src c s h : Int) (q : Int) (hq : rcod zs ys src c s h src = q) (h0 : ¬ q = 0) (hp : Prof w w.heap.size a b zs ys) :
    Calls Try.prog 10 #[.agg #[.slice a zs.length ca, .slice b ys.length cb], .int .i64 src, .agg #[.int .i64 c, .int .i64 s, .int .i64 h]] w fun e w' => e = .returned (.tuple #[.agg #[.int .i64 (tsT zs ys src c s h).1, .int .i64 (tsT zs ys src c s h).2.1], .int .i64 (tsT zs ys src c s h).2.2]) ∧ Below w.heap.size w w' := by
  have HP := Lib.hid hp
  have HT : Hid (tsT zs ys src c s h = (0, 0, q)) := Lib.hid (by unfold tsT; rw [hq, if_neg h0])
  have K : Hid (∀ W : World, Below w.heap.size w W → Calls Try.prog 27 #[.agg #[.slice a zs.length ca, .slice b ys.length cb, .int .i64 src, .int .i64 c, .int .i64 s, .int .i64 h], .int .i64 src] W fun e w' => e = .returned (.int .i64 q) ∧ Below W.heap.size W w') := Lib.hid (fun W hb => by have := rer_any W a b ca cb zs ys src src c s h (HP.out.on hb); rwa [show rcT (prfB zs ys) (dirB c s h) (hkB zs src) (hkB zs src) = q from hq] at this)
  have hq0 : (q != 0) = true := by simpa using h0
  clear hq h0 hp
  go_enter Try.func10, Try.ntmps10
  go_wp2_with fail
  generalize hW : World.alloc _ _ = W
  have bR : Bk W (w.heap.size + 1 + 1) #[.int .i64 0, .int .i64 0] 29 := by rw [← hW]; repeat (first | exact Bk.new' (by simp) | refine Bk.alloc ?_ _)
  have bT : Bk W (w.heap.size + 1 + 1 + 1) #[.slice a zs.length ca, .slice b ys.length cb, .int .i64 src, .int .i64 c, .int .i64 s, .int .i64 h] 60 := by rw [← hW]; repeat (first | exact Bk.new' (by simp) | refine Bk.alloc ?_ _)
  have bD : Bk W (w.heap.size + 1) #[.int .i64 c, .int .i64 s, .int .i64 h] 34 := by rw [← hW]; repeat (first | exact Bk.new' (by simp) | refine Bk.alloc ?_ _)
  have HB : Hid (Below w.heap.size w W) := Lib.hid (by rw [← hW]; exact (by repeat (first | exact Below.refl _ _ | (refine Below.alloc ?_ (by simp <;> omega) _) | (refine Below.setCell ?_ (by simp <;> omega) _) | (refine Below.drew ?_) | (refine bel_drewN ?_ _))))
  clear hW
  (with_reducible refine Calls.mono (K.out _ HB.out) ?_)
  rintro e w1 ⟨rfl, hb⟩
  replace bR := bR.on hb
  replace bT := bT.on hb
  replace bD := bD.on hb
  replace HB := Lib.hid (bel_end HB.out hb)
  clear hb
  have r0 := bR.cell 0 rfl
  have r1 := bR.cell 1 rfl
  have f0 := bR.frozen 0
  have f1 := bR.frozen 1
  have rl := bR.lt
  go_wp2
  exact bodyPost_ret (v := .tuple #[.agg #[.int .i64 0, .int .i64 0], .int .i64 q]) (by simp [results, Try.results10, go_sem, r0, r1]) rfl ⟨res3 HT.out, (HB.out.setCell (by simp; omega) _).setCell (by simp; omega) _⟩

set_option maxRecDepth 100000 in
set_option maxHeartbeats 4000000 in
theorem its_ok (w : World) (a b : Option Addr) (ca cb : Nat) (zs ys : List Int) (src c s h : Int) (hq : rcod zs ys src c s h src = 0) (hp : Prof w w.heap.size a b zs ys) :
    Calls Try.prog 10 #[.agg #[.slice a zs.length ca, .slice b ys.length cb], .int .i64 src, .agg #[.int .i64 c, .int .i64 s, .int .i64 h]] w fun e w' => e = .returned (.tuple #[.agg #[.int .i64 (tsT zs ys src c s h).1, .int .i64 (tsT zs ys src c s h).2.1], .int .i64 (tsT zs ys src c s h).2.2]) ∧ Below w.heap.size w w' := by
  have HP := Lib.hid hp
  obtain ⟨hv, od, ⟨i, rfl, hi⟩, -⟩ := rcod_0 hq
  have ho := Okp.of hv
  have K : Hid (∀ W : World, Below w.heap.size w W → Calls Try.prog 27 #[.agg #[.slice a zs.length ca, .slice b ys.length cb, .int .i64 (i : Int), .int .i64 c, .int .i64 s, .int .i64 h], .int .i64 (i : Int)] W fun e w' => e = .returned (.int .i64 0) ∧ Below W.heap.size W w') := Lib.hid (fun W hb => by have := rer_any W a b ca cb zs ys (i : Int) (i : Int) c s h (HP.out.on hb); rwa [show rcT (prfB zs ys) (dirB c s h) (hkB zs (i : Int)) (hkB zs (i : Int)) = 0 from hq] at this)
  have c1 := od.c1
  have c2 := od.c2
  have h1 := od.h1
  have h2 := od.h2
  have q1 := mul_in (a := h) (b := ys.getD i 0) (A := 1000) (B := 1700000) (by omega) (by omega) (ho.sge i) (ho.shi i)
  have K2 : Hid (∀ W : World, Below w.heap.size w W → Calls Try.prog 29 #[.agg #[.slice a zs.length ca, .slice b ys.length cb, .int .i64 (i : Int), .int .i64 c, .int .i64 s, .int .i64 h]] W fun e w' => e = .returned (.int .i64 (h * ys.getD i 0)) ∧ Below W.heap.size W w') := Lib.hid (fun W hb => rsc_any W a b ca cb zs ys i i c s h (HP.out.on hb) ho hi rfl h1 h2)
  obtain ⟨A, hA⟩ : ∃ u, h * ys.getD i 0 = u := ⟨_, rfl⟩
  rw [hA] at q1 K2
  obtain ⟨⟨p, q, e⟩, hT⟩ : ∃ T, rlT A c = T := ⟨_, rfl⟩
  have K3 : Hid (∀ W : World, Calls Try.prog 28 #[.int .i64 A, .int .i64 c] W fun e' w' => e' = .returned (.tuple #[.agg #[.int .i64 p, .int .i64 q], .int .i64 e]) ∧ Below W.heap.size W w') := Lib.hid (fun W => irl_is hT (by omega) (by omega) (by omega) (by omega) (by omega) W)
  have HT : Hid (tsT zs ys (i : Int) c s h = (p, q, e)) := Lib.hid (by unfold tsT; rw [hq, if_pos rfl, rA_nat, hA]; exact hT)
  clear hT hq hv od ho hp hA
  go_enter Try.func10, Try.ntmps10
  go_wp2_with fail
  generalize hW : World.alloc _ _ = W
  have bR : Bk W (w.heap.size + 1 + 1) #[.int .i64 0, .int .i64 0] 29 := by rw [← hW]; repeat (first | exact Bk.new' (by simp) | refine Bk.alloc ?_ _)
  have bT : Bk W (w.heap.size + 1 + 1 + 1) #[.slice a zs.length ca, .slice b ys.length cb, .int .i64 (i : Int), .int .i64 c, .int .i64 s, .int .i64 h] 60 := by rw [← hW]; repeat (first | exact Bk.new' (by simp) | refine Bk.alloc ?_ _)
  have bD : Bk W (w.heap.size + 1) #[.int .i64 c, .int .i64 s, .int .i64 h] 34 := by rw [← hW]; repeat (first | exact Bk.new' (by simp) | refine Bk.alloc ?_ _)
  have HB : Hid (Below w.heap.size w W) := Lib.hid (by rw [← hW]; exact (by repeat (first | exact Below.refl _ _ | (refine Below.alloc ?_ (by simp <;> omega) _) | (refine Below.setCell ?_ (by simp <;> omega) _) | (refine Below.drew ?_) | (refine bel_drewN ?_ _))))
  clear hW
  (with_reducible refine Calls.mono (K.out _ HB.out) ?_)
  rintro e w1 ⟨rfl, hb⟩
  replace bR := bR.on hb
  replace bT := bT.on hb
  replace bD := bD.on hb
  replace HB := Lib.hid (bel_end HB.out hb)
  clear hb
  go_upto_region 5 with fail
  obtain ⟨S, hSd⟩ : ∃ S : World → Prop, ∀ w', S w' ↔ (w'.cell? ⟨w.heap.size + 1 + 1 + 1, 0, none⟩ = some (.slice a zs.length ca) ∧ w'.cell? ⟨w.heap.size + 1 + 1 + 1, 1, none⟩ = some (.slice b ys.length cb) ∧ w'.cell? ⟨w.heap.size + 1 + 1 + 1, 2, none⟩ = some (.int .i64 (i : Int)) ∧ w'.cell? ⟨w.heap.size + 1 + 1 + 1, 3, none⟩ = some (.int .i64 c) ∧ w'.cell? ⟨w.heap.size + 1 + 1 + 1, 4, none⟩ = some (.int .i64 s) ∧ w'.cell? ⟨w.heap.size + 1 + 1 + 1, 5, none⟩ = some (.int .i64 h) ∧ w'.cell? ⟨w.heap.size + 1, 0, none⟩ = some (.int .i64 c)) := ⟨_, fun _ => Iff.rfl⟩
  have HSp : Hid (∀ w' : World, Bk w' (w.heap.size + 1 + 1 + 1) #[.slice a zs.length ca, .slice b ys.length cb, .int .i64 (i : Int), .int .i64 c, .int .i64 s, .int .i64 h] 60 → Bk w' (w.heap.size + 1) #[.int .i64 c, .int .i64 s, .int .i64 h] 34 → S w') := Lib.hid (fun w' bT bD => (hSd w').2 ⟨bT.cell 0 rfl, bT.cell 1 rfl, bT.cell 2 rfl, bT.cell 3 rfl, bT.cell 4 rfl, bT.cell 5 rfl, bD.cell 0 rfl⟩)
  have HSd := Lib.hid hSd
  clear hSd
  refine wp_region_held_drew (S := S) (by kernel_rfl) ?_ (fun hH => ?_)
  · exact (HSp.out _ bT bD : S (World.drew w1))
  clear hH
  generalize hX : World.drew w1 = V0
  replace bT : Bk V0 (w.heap.size + 1 + 1 + 1) #[.slice a zs.length ca, .slice b ys.length cb, .int .i64 (i : Int), .int .i64 c, .int .i64 s, .int .i64 h] 60 := by rw [← hX]; exact bT
  replace bD : Bk V0 (w.heap.size + 1) #[.int .i64 c, .int .i64 s, .int .i64 h] 34 := by rw [← hX]; exact bD
  replace bR : Bk V0 (w.heap.size + 1 + 1) #[.int .i64 0, .int .i64 0] 29 := by rw [← hX]; exact bR
  have hb : Below w1.heap.size w1 V0 := by rw [← hX]; exact (Below.refl _ _).drew
  clear hX
  replace HB := Lib.hid (bel_end HB.out hb)
  clear hb
  have hS := HSp.out _ bT bD
  refine wpAnyH_take (i := 0) (oi := { dst := some 21, op := Go.Op.load 60 (Go.Operand.tmp 8), type := 60, pos := "l05_directions.go:102", after := #[], guard := none }) (v := ?_) rfl (by kernel_rfl) (by kernel_rfl) (by kernel_rfl) (fun _ _ _ h => h) (Or.inl ⟨by rfl, ?_⟩) hS ?_
  rotate_left
  · (intro w hSw; have hSw := (HSd.out w).1 hSw; go_split_ands; go_simp) <;> with_reducible rfl
  clear hS
  try simp only [Act.put, List.setIfInBounds_toArray, List.set_cons_zero, List.set_cons_succ]
  have hS := HSp.out _ bT bD
  refine wpAnyH_take (i := 2) (oi := { dst := some 23, op := Go.Op.fieldAddr 34 (Go.Operand.tmp 5) 0, type := 0, pos := "l05_directions.go:102", after := #[], guard := none }) (v := ?_) rfl (by kernel_rfl) (by kernel_rfl) (by kernel_rfl) (fun _ _ _ h => h) (Or.inl ⟨by rfl, ?_⟩) hS ?_
  rotate_left
  · (intro w hSw; have hSw := (HSd.out w).1 hSw; go_split_ands; go_simp) <;> with_reducible rfl
  clear hS
  try simp only [Act.put, List.setIfInBounds_toArray, List.set_cons_zero, List.set_cons_succ]
  have hS := HSp.out _ bT bD
  refine wpAnyH_take (i := 3) (oi := { dst := some 24, op := Go.Op.load 2 (Go.Operand.tmp 23), type := 2, pos := "l05_directions.go:102", after := #[{ on := 2, ground := Go.Ground.data }], guard := none }) (v := ?_) rfl (by kernel_rfl) (by kernel_rfl) (by kernel_rfl) (fun _ _ _ h => h) (Or.inl ⟨by rfl, ?_⟩) hS ?_
  rotate_left
  · (intro w hSw; have hSw := (HSd.out w).1 hSw; go_split_ands; go_simp) <;> with_reducible rfl
  clear hS
  try simp only [Act.put, List.setIfInBounds_toArray, List.set_cons_zero, List.set_cons_succ]
  refine wpAnyH_ready (rs := [1]) (by kernel_rfl) (by simp) ?_
  refine AllReadyH.cons (o := { dst := some 22, op := Go.Op.call { callee := Go.Callee.value (Go.Operand.func 29), args := #[Go.Operand.tmp 21], argTypes := #[60] }, type := 2, pos := "l05_directions.go:102", after := #[{ on := 0, ground := Go.Ground.data }], guard := none }) rfl (fun Kn hK => ?_) AllReadyH.nil
  first | go_at_call 29 | (go_simp; go_at_call 29)
  (with_reducible refine Calls.mono (K2.out _ HB.out) ?_)
  rintro e V1 ⟨rfl, hb⟩
  try dsimp only
  try simp only [Act.put, List.setIfInBounds_toArray, List.set_cons_zero, List.set_cons_succ]
  replace bT := bT.on hb
  replace bD := bD.on hb
  replace bR := bR.on hb
  replace HB := Lib.hid (bel_end HB.out hb)
  clear hb
  refine hK.out _ _ (HSp.out _ bT bD) (fun _ => ?_)
  clear hK Kn
  refine wpAnyH_ready (rs := [4]) (by kernel_rfl) (by simp) ?_
  refine AllReadyH.cons (o := { dst := some 25, op := Go.Op.call { callee := Go.Callee.value (Go.Operand.func 28), args := #[Go.Operand.tmp 22, Go.Operand.tmp 24], argTypes := #[2, 2] }, type := 30, pos := "l05_directions.go:102", after := #[{ on := 1, ground := Go.Ground.data }, { on := 3, ground := Go.Ground.data }, { on := 1, ground := Go.Ground.chain }], guard := none }) rfl (fun Kn hK => ?_) AllReadyH.nil
  first | go_at_call 28 | (go_simp; go_at_call 28)
  (with_reducible refine Calls.mono (K3.out _) ?_)
  rintro e V2 ⟨rfl, hb⟩
  try dsimp only
  try simp only [Act.put, List.setIfInBounds_toArray, List.set_cons_zero, List.set_cons_succ]
  replace bT := bT.on hb
  replace bD := bD.on hb
  replace bR := bR.on hb
  replace HB := Lib.hid (bel_end HB.out hb)
  clear hb
  refine hK.out _ _ (HSp.out _ bT bD) (fun _ => ?_)
  clear hK Kn
  have hS := HSp.out _ bT bD
  refine wpAnyH_take (i := 5) (oi := { dst := some 26, op := Go.Op.extract (Go.Operand.tmp 25) 0, type := 29, pos := "l05_directions.go:102", after := #[{ on := 4, ground := Go.Ground.data }], guard := none }) (v := ?_) rfl (by kernel_rfl) (by kernel_rfl) (by kernel_rfl) (fun _ _ _ h => h) (Or.inl ⟨by rfl, ?_⟩) hS ?_
  rotate_left
  · (intro w hSw; have hSw := (HSd.out w).1 hSw; go_split_ands; go_simp) <;> with_reducible rfl
  clear hS
  try simp only [Act.put, List.setIfInBounds_toArray, List.set_cons_zero, List.set_cons_succ]
  have hS := HSp.out _ bT bD
  refine wpAnyH_take (i := 6) (oi := { dst := some 27, op := Go.Op.extract (Go.Operand.tmp 25) 1, type := 2, pos := "l05_directions.go:102", after := #[{ on := 4, ground := Go.Ground.data }], guard := none }) (v := ?_) rfl (by kernel_rfl) (by kernel_rfl) (by kernel_rfl) (fun _ _ _ h => h) (Or.inl ⟨by rfl, ?_⟩) hS ?_
  rotate_left
  · (intro w hSw; have hSw := (HSd.out w).1 hSw; go_split_ands; go_simp) <;> with_reducible rfl
  clear hS
  try simp only [Act.put, List.setIfInBounds_toArray, List.set_cons_zero, List.set_cons_succ]
  refine wpAnyH_ready (rs := [7]) (by kernel_rfl) (by simp) ?_
  refine AllReadyH.cons (o := { dst := none, op := Go.Op.store 29 (Go.Operand.tmp 6) (Go.Operand.tmp 26), type := 0, pos := "l05_directions.go:102", after := #[{ on := 5, ground := Go.Ground.data }, { on := 4, ground := Go.Ground.chain }, { on := 0, ground := Go.Ground.phase }, { on := 1, ground := Go.Ground.phase }, { on := 2, ground := Go.Ground.phase }, { on := 3, ground := Go.Ground.phase }, { on := 4, ground := Go.Ground.phase }, { on := 5, ground := Go.Ground.phase }, { on := 6, ground := Go.Ground.phase }], guard := none }) rfl (fun Kn hK => ?_) AllReadyH.nil
  have bR_0 := bR.cell 0 rfl
  have bR_1 := bR.cell 1 rfl
  have bR_f0 := bR.frozen 0
  have bR_f1 := bR.frozen 1
  have bR_l := bR.lt
  go_simp
  clear bR_0 bR_f0 bR_1 bR_f1 bR_l
  generalize hX : World.setCell _ _ _ = V3
  have hb : Below w.heap.size w V3 := by rw [← hX]; exact ((HB.out.setCell (p := ⟨w.heap.size + 1 + 1, 0, none⟩) (by first | omega | (dsimp only; omega)) _).setCell (p := ⟨w.heap.size + 1 + 1, 1, none⟩) (by first | omega | (dsimp only; omega)) _)
  replace bT : Bk V3 (w.heap.size + 1 + 1 + 1) #[.slice a zs.length ca, .slice b ys.length cb, .int .i64 (i : Int), .int .i64 c, .int .i64 s, .int .i64 h] 60 := by rw [← hX]; exact (Bk.other (Bk.other bT (by omega) 0 _) (by omega) 1 _)
  replace bD : Bk V3 (w.heap.size + 1) #[.int .i64 c, .int .i64 s, .int .i64 h] 34 := by rw [← hX]; exact (Bk.other (Bk.other bD (by omega) 0 _) (by omega) 1 _)
  replace bR : Bk V3 (w.heap.size + 1 + 1) #[.int .i64 p, .int .i64 q] 29 := by rw [← hX]; exact (Bk.set (Bk.set bR 0 _ rfl) 1 _ rfl)
  clear hX
  replace HB := Lib.hid hb
  clear hb
  refine hK.out _ _ (HSp.out _ bT bD) (fun _ => ?_)
  clear hK Kn
  have hS := HSp.out _ bT bD
  refine wpAnyH_take (i := 8) (oi := { dst := some 7, op := Go.Op.assign (Go.Operand.tmp 27), type := 2, pos := "l05_directions.go:102", after := #[{ on := 6, ground := Go.Ground.data }, { on := 7, ground := Go.Ground.chain }, { on := 0, ground := Go.Ground.phase }, { on := 1, ground := Go.Ground.phase }, { on := 2, ground := Go.Ground.phase }, { on := 3, ground := Go.Ground.phase }, { on := 4, ground := Go.Ground.phase }, { on := 5, ground := Go.Ground.phase }, { on := 6, ground := Go.Ground.phase }, { on := 7, ground := Go.Ground.phase }], guard := none }) (v := ?_) rfl (by kernel_rfl) (by kernel_rfl) (by kernel_rfl) (fun _ _ _ h => h) (Or.inl ⟨by rfl, ?_⟩) hS ?_
  rotate_left
  · (intro w hSw; have hSw := (HSd.out w).1 hSw; go_split_ands; go_simp) <;> with_reducible rfl
  clear hS
  try simp only [Act.put, List.setIfInBounds_toArray, List.set_cons_zero, List.set_cons_succ]
  refine wpAnyH_done (by kernel_rfl) ?_ _
  have c2 := bR.cell 0 rfl
  have c3 := bR.cell 1 rfl
  go_wp2
  exact bodyPost_ret (v := .tuple #[.agg #[.int .i64 p, .int .i64 q], .int .i64 e]) (by simp [results, Try.results10, go_sem, c2, c3]) rfl ⟨res3 HT.out, HB.out⟩

theorem its_any (w : World) (a b : Option Addr) (ca cb : Nat) (zs ys : List Int) (src c s h : Int) (hp : Prof w w.heap.size a b zs ys) :
    Calls Try.prog 10 #[.agg #[.slice a zs.length ca, .slice b ys.length cb], .int .i64 src, .agg #[.int .i64 c, .int .i64 s, .int .i64 h]] w fun e w' => e = .returned (.tuple #[.agg #[.int .i64 (tsT zs ys src c s h).1, .int .i64 (tsT zs ys src c s h).2.1], .int .i64 (tsT zs ys src c s h).2.2]) ∧ Below w.heap.size w w' := by
  by_cases hq : rcod zs ys src c s h src = 0
  · exact its_ok w a b ca cb zs ys src c s h hq hp
  · exact its_no w a b ca cb zs ys src c s h _ rfl hq hp

set_option maxRecDepth 100000 in
set_option maxHeartbeats 1000000 in
theorem sts_no (w : World) (a b : Option Addr) (ca cb : Nat) (zs ys : List Int) (src c s h : Int) (q : Int) (hq : rcod zs ys src c s h src = q) (h0 : ¬ q = 0) (hp : Prof w w.heap.size a b zs ys) :
    Calls Try.prog 7 #[.agg #[.slice a zs.length ca, .slice b ys.length cb], .int .i64 src, .agg #[.int .i64 c, .int .i64 s, .int .i64 h]] w fun e w' => e = .returned (.tuple #[.agg #[.int .i64 (tsT zs ys src c s h).1, .int .i64 (tsT zs ys src c s h).2.1], .int .i64 (tsT zs ys src c s h).2.2]) ∧ Below w.heap.size w w' := by
  have HP := Lib.hid hp
  have HT : Hid (tsT zs ys src c s h = (0, 0, q)) := Lib.hid (by unfold tsT; rw [hq, if_neg h0])
  have K : Hid (∀ W : World, Below w.heap.size w W → Calls Try.prog 24 #[.agg #[.slice a zs.length ca, .slice b ys.length cb], .int .i64 src, .agg #[.int .i64 c, .int .i64 s, .int .i64 h], .int .i64 0] W fun e w' => e = .returned (.int .i64 q) ∧ Below W.heap.size W w') := Lib.hid (fun W hb => by have := lrc_any W a b ca cb zs ys src 0 c s h (HP.out.on hb); rwa [show rcT (prfB zs ys) (dirB c s h) (hkB zs src) (hkB zs 0) = q from (rcod_src zs ys src c s h).trans hq] at this)
  have hq0 : (q != 0) = true := by simpa using h0
  clear hq h0 hp
  go_enter Try.func7, Try.ntmps7
  go_wp2_with fail
  generalize hW : World.alloc _ _ = W
  have bR : Bk W (w.heap.size + 1 + 1) #[.int .i64 0, .int .i64 0] 29 := by rw [← hW]; repeat (first | exact Bk.new' (by simp) | refine Bk.alloc ?_ _)
  have bP : Bk W (w.heap.size) #[.slice a zs.length ca, .slice b ys.length cb] 32 := by rw [← hW]; repeat (first | exact Bk.new' (by simp) | refine Bk.alloc ?_ _)
  have bD : Bk W (w.heap.size + 1) #[.int .i64 c, .int .i64 s, .int .i64 h] 34 := by rw [← hW]; repeat (first | exact Bk.new' (by simp) | refine Bk.alloc ?_ _)
  have HB : Hid (Below w.heap.size w W) := Lib.hid (by rw [← hW]; exact (by repeat (first | exact Below.refl _ _ | (refine Below.alloc ?_ (by simp <;> omega) _) | (refine Below.setCell ?_ (by simp <;> omega) _) | (refine Below.drew ?_) | (refine bel_drewN ?_ _))))
  clear hW
  (with_reducible refine Calls.mono (K.out _ HB.out) ?_)
  rintro e w1 ⟨rfl, hb⟩
  replace bR := bR.on hb
  replace bP := bP.on hb
  replace bD := bD.on hb
  replace HB := Lib.hid (bel_end HB.out hb)
  clear hb
  have r0 := bR.cell 0 rfl
  have r1 := bR.cell 1 rfl
  have f0 := bR.frozen 0
  have f1 := bR.frozen 1
  have rl := bR.lt
  go_wp2
  exact bodyPost_ret (v := .tuple #[.agg #[.int .i64 0, .int .i64 0], .int .i64 q]) (by simp [results, Try.results7, go_sem, r0, r1]) rfl ⟨res3 HT.out, (HB.out.setCell (by simp; omega) _).setCell (by simp; omega) _⟩

set_option maxRecDepth 100000 in
set_option maxHeartbeats 2000000 in
theorem sts_ok (w : World) (a b : Option Addr) (ca cb : Nat) (zs ys : List Int) (src c s h : Int) (hq : rcod zs ys src c s h src = 0) (hp : Prof w w.heap.size a b zs ys) :
    Calls Try.prog 7 #[.agg #[.slice a zs.length ca, .slice b ys.length cb], .int .i64 src, .agg #[.int .i64 c, .int .i64 s, .int .i64 h]] w fun e w' => e = .returned (.tuple #[.agg #[.int .i64 (tsT zs ys src c s h).1, .int .i64 (tsT zs ys src c s h).2.1], .int .i64 (tsT zs ys src c s h).2.2]) ∧ Below w.heap.size w w' := by
  have HP := Lib.hid hp
  obtain ⟨hv, od, ⟨i, rfl, hi⟩, -⟩ := rcod_0 hq
  have ho := Okp.of hv
  have K : Hid (∀ W : World, Below w.heap.size w W → Calls Try.prog 24 #[.agg #[.slice a zs.length ca, .slice b ys.length cb], .int .i64 (i : Int), .agg #[.int .i64 c, .int .i64 s, .int .i64 h], .int .i64 0] W fun e w' => e = .returned (.int .i64 0) ∧ Below W.heap.size W w') := Lib.hid (fun W hb => by have := lrc_any W a b ca cb zs ys (i : Int) 0 c s h (HP.out.on hb); rwa [show rcT (prfB zs ys) (dirB c s h) (hkB zs (i : Int)) (hkB zs 0) = 0 from (rcod_src zs ys (i : Int) c s h).trans hq] at this)
  have c1 := od.c1
  have c2 := od.c2
  have h1 := od.h1
  have h2 := od.h2
  have q1 := mul_in (a := h) (b := ys.getD i 0) (A := 1000) (B := 1700000) (by omega) (by omega) (ho.sge i) (ho.shi i)
  have hl := ho.len
  have ly := hp.ly
  have hi2 : i < ys.length := by omega
  obtain ⟨b0, off, rfl, hB0, g1⟩ := hp.sy.at_ hi2
  obtain ⟨u, hu⟩ : ∃ u, ys.getD i 0 = u := ⟨_, rfl⟩
  rw [hu] at q1 g1
  have e1 : IntKind.wrap .i64 (h * u) = h * u := IntWalk.i64_in _ (by omega)
  obtain ⟨A, hA0⟩ : ∃ v, h * u = v := ⟨_, rfl⟩
  rw [hA0] at q1
  have hA : h * ys.getD i 0 = A := by rw [hu, hA0]
  obtain ⟨⟨p, q, e⟩, hT⟩ : ∃ T, mkT A c = T := ⟨_, rfl⟩
  have K3 : Hid (∀ W : World, Calls Try.prog 25 #[.int .i64 A, .int .i64 c] W fun e' w' => e' = .returned (.tuple #[.agg #[.int .i64 p, .int .i64 q], .int .i64 e]) ∧ Below W.heap.size W w') := Lib.hid (fun W => by have := lmk_any A c (by omega) (by omega) (by omega) (by omega) (by omega) W; rwa [hT] at this)
  replace K3 : Hid (∀ W : World, Calls Try.prog 25 #[.int .i64 (IntKind.wrap .i64 A), .int .i64 c] W fun e' w' => e' = .returned (.tuple #[.agg #[.int .i64 p, .int .i64 q], .int .i64 e]) ∧ Below W.heap.size W w') := Lib.hid (by rw [IntWalk.i64_in A (by omega)]; exact K3.out)
  clear e1
  have hp3 : p = (mkT A c).1 := by rw [hT]
  have HT0 : Hid (e = 0 → tsT zs ys (i : Int) c s h = (p, q, 0)) := Lib.hid (fun h0 => by unfold tsT; rw [hq, if_pos rfl, rA_nat, hA, hT, h0]; rfl)
  have HT1 : Hid (¬ e = 0 → tsT zs ys (i : Int) c s h = (0, 0, 3)) := Lib.hid (fun h0 => by unfold tsT; rw [hq, if_pos rfl, rA_nat, hA, hT, if_neg h0])
  clear hp3 hT hq hv od ho hp hA hu hl
  go_enter Try.func7, Try.ntmps7
  go_wp2_with fail
  generalize hW : World.alloc _ _ = W
  have bR : Bk W (w.heap.size + 1 + 1) #[.int .i64 0, .int .i64 0] 29 := by rw [← hW]; repeat (first | exact Bk.new' (by simp) | refine Bk.alloc ?_ _)
  have bP : Bk W (w.heap.size) #[.slice a zs.length ca, .slice (some ⟨b0, off, none⟩) ys.length cb] 32 := by rw [← hW]; repeat (first | exact Bk.new' (by simp) | refine Bk.alloc ?_ _)
  have bD : Bk W (w.heap.size + 1) #[.int .i64 c, .int .i64 s, .int .i64 h] 34 := by rw [← hW]; repeat (first | exact Bk.new' (by simp) | refine Bk.alloc ?_ _)
  have HB : Hid (Below w.heap.size w W) := Lib.hid (by rw [← hW]; exact (by repeat (first | exact Below.refl _ _ | (refine Below.alloc ?_ (by simp <;> omega) _) | (refine Below.setCell ?_ (by simp <;> omega) _) | (refine Below.drew ?_) | (refine bel_drewN ?_ _))))
  clear hW
  (with_reducible refine Calls.mono (K.out _ HB.out) ?_)
  rintro e w1 ⟨rfl, hb⟩
  replace bR := bR.on hb
  replace bP := bP.on hb
  replace bD := bD.on hb
  replace HB := Lib.hid (bel_end HB.out hb)
  clear hb
  have GX := Lib.hid (kc1 g1 HB.out)
  clear g1
  go_upto_region 4 with fail
  go_cut [9, 10] (fun s5 s6 wx => Res2 w1 wx s5 s6 p q e)
  case first =>
    go_region_held3 (fun w' => w'.cell? ⟨w.heap.size, 1, none⟩ = some (.slice (some ⟨b0, off, none⟩) ys.length cb) ∧ w'.cell? ⟨w.heap.size + 1, 0, none⟩ = some (.int .i64 c) ∧ w'.cell? ⟨w.heap.size + 1, 2, none⟩ = some (.int .i64 h) ∧ w'.cell? ⟨b0, off + i, none⟩ = some (.int .i64 u) ∧ Below w1.heap.size w1 w')
      (first
        | (exact at4x bP bD GX.out (Below.refl _ w1).drew)
        | (go_split_ands; exact at4x bP bD GX.out (bel_in hb (by assumption) (Nat.le_refl _)))
        | (go_split_ands; exact at4x bP bD GX.out (bel_al (by assumption) (Nat.le_refl _)))
        | (go_split_ands; refine at4x bP bD GX.out (Below.setCell (by assumption) ?_ _); (dsimp only; omega))
        | (go_split_ands; refine at4x bP bD GX.out (Below.setCell (Below.setCell (by assumption) ?_ _) ?_ _) <;> (dsimp only; omega)))
      (first
        | (go_at_call 25; (with_reducible refine Calls.mono (K3.out _) ?_); rintro e' wB ⟨rfl, hb⟩; obtain ⟨hc, hf, hz⟩ := bel_rules hb; (try have hy := lt_trans_rule (by assumption) hz); have hk := bel_in hb (by go_split_ands; assumption) (Nat.le_refl _); have hn := hk.size))
    all_goals (go_wp2_with fail; go_meet; go_split_ands)
    all_goals (refine ⟨_, rfl, rfl, ?_, ?_, ?_, by assumption⟩)
    all_goals first | (go_simp; done) | (refine (set2_cells (x := .int .i64 0) (y := .int .i64 0) ?_ ?_).1 <;> (go_simp; done)) | (refine (set2_cells (x := .int .i64 0) (y := .int .i64 0) ?_ ?_).2 <;> (go_simp; done)) | omega
  case rest =>
    obtain ⟨g, rfl, rfl, u0, u1, hg, hB⟩ := hcut
    have rl0 := bR.lt
    replace bR := bR.on hB
    replace HB := Lib.hid (bel_end HB.out hB)
    have r0 := bR.cell 0 rfl
    have r1 := bR.cell 1 rfl
    have f0 := bR.frozen 0
    have f1 := bR.frozen 1
    have rl := bR.lt
    have n1 : ¬ g = w.heap.size + 1 + 1 := by omega
    have n2 : ¬ w.heap.size + 1 + 1 = g := fun e => n1 e.symm
    clear hB rl0
    by_cases h0 : e = 0
    · have HT := Lib.hid (HT0.out h0)
      subst h0
      clear HT0 HT1
      go_wp2
      exact bodyPost_ret (v := .tuple #[.agg #[.int .i64 p, .int .i64 q], .int .i64 0]) (by simp [results, Try.results7, go_sem, r0, r1]) rfl ⟨res3 HT.out, (HB.out.setCell (by simp; omega) _).setCell (by simp; omega) _⟩
    · have HT := Lib.hid (HT1.out h0)
      have h0b : (e != 0) = true := by simpa using h0
      clear HT0 HT1 h0
      go_wp2
      exact bodyPost_ret (v := .tuple #[.agg #[.int .i64 0, .int .i64 0], .int .i64 3]) (by simp [results, Try.results7, go_sem, r0, r1]) rfl ⟨res3 HT.out, (HB.out.setCell (by simp; omega) _).setCell (by simp; omega) _⟩

theorem sts_any (w : World) (a b : Option Addr) (ca cb : Nat) (zs ys : List Int) (src c s h : Int) (hp : Prof w w.heap.size a b zs ys) :
    Calls Try.prog 7 #[.agg #[.slice a zs.length ca, .slice b ys.length cb], .int .i64 src, .agg #[.int .i64 c, .int .i64 s, .int .i64 h]] w fun e w' => e = .returned (.tuple #[.agg #[.int .i64 (tsT zs ys src c s h).1, .int .i64 (tsT zs ys src c s h).2.1], .int .i64 (tsT zs ys src c s h).2.2]) ∧ Below w.heap.size w w' := by
  by_cases hq : rcod zs ys src c s h src = 0
  · exact sts_ok w a b ca cb zs ys src c s h hq hp
  · exact sts_no w a b ca cb zs ys src c s h _ rfl hq hp
end Go.Proofs.Ytkjpjhklnaehbab
