/- The laws' helpers on gates and circuits: copies, sizes, likenesses, marks: contracts. Conditions: rows that can be read, lengths of at most 2 to the 40. -/
import Derived.Test.YtgimmmmiodlepabDoorGatE
import Derived.Test.YtgimmmmiodlepabDoorWalks
import Derived.Test.YtgimmmmiodlepabDoorLook
import Derived.WalkKit
import Derived.Deep.RegionHeld3
import Derived.Deep.DeepCutAuto
namespace Go.Proofs.YtgimmmmiodlepabDoor
open Go.ChangeShapes Go.WideShapes Go.ChangeAt Go.RowKit
set_option linter.unusedVariables false
set_option maxRecDepth 100000
set_option linter.unusedSimpArgs false

theorem infoGt4 : (Tryd.prog.info? 51).map (fun i => (i.zero, i.size, i.bytes)) = some (some (.agg #[.int .i64 0, .int .i64 0, .int .i64 0, .int .i64 0]), 4, 32) := by kernel_rfl
/-- make([]T, n), T of four cells. -/
theorem wpList_make_quad {P : Program} (w : World) {ops : Array Oper} {rest : List Oper} {o : Oper} {a : Act} {Q : Exit → Act → World → Prop}
    (hg : o.guard = none) (l c : Operand) (t : TypeId) (hop : o.op = Op.makeSlice t l c) (e : TypeId) (i : TypeInfo)
    (h1 : P.underlying t = some (.slice e)) (h2 : P.info? e = some i) (h3 : i.zero = some (.agg #[.int .i64 0, .int .i64 0, .int .i64 0, .int .i64 0])) (h4 : i.size = 4)
    (kl kc : IntKind) (L C : Int) (n : Nat) (hl : a.eval l = .int kl L) (hc : a.eval c = .int kc C) (hL : L = (n : Int)) (hC : C = (n : Int)) (b2 : i.bytes * n ≤ 281474976710656) (b3 : n ≤ 9223372036854775807)
    (hK : ∀ w', w'.rowIs w.heap.size e (n * 4) (gf (fun _ => (0, 0, 0, 0))) → Chg nob w w' → wpList P ops Q rest (a.put o.dst (.slice (some ⟨w.heap.size, 0, none⟩) n n)) w') :
    wpList P ops Q (o :: rest) a w := by
  refine wpList_plain hg fun K hK' => ?_
  have hb' : (i.bytes : Int) * (n : Int) ≤ 281474976710656 := by
    have h : ((i.bytes * n : Nat) : Int) ≤ 281474976710656 := by omega
    rwa [Int.natCast_mul] at h
  have hrun := run_make (P := P) w t e i _ h1 h2 h3 kl kc n n (by omega) (Int.le_refl _) hb' (by omega)
  simp only [Int.toNat_natCast, h4] at hrun
  subst hL
  subst hC
  unfold Oper.wp
  simp [execOp, hop, hl, hc, hrun, Result.andThen]
  refine hK' _ _ (hK _ ⟨_, Go.Deep.blk_alloc_new _ _, size_madeCells _ _, fun j hj => ?_⟩ ((Chg.refl _ _).alloc _))
  have h2 : j % 4 < 4 := Nat.mod_lt _ (by omega)
  rcases (by omega : j % 4 = 0 ∨ j % 4 = 1 ∨ j % 4 = 2 ∨ j % 4 = 3) with q | q | q | q <;> simp [madeCells, hj, Value.cells, q, gf]

/-- A row of which the first k gates are x's, the others y's. -/
def cpG (X Y : Nat → Gt) (k : Nat) (j : Nat) : Value := if j < k * 4 then gf X j else gf Y j
theorem cpG_set {W : World} {b n : Nat} {t : TypeId} {X Y : Nat → Gt} {k : Nat} (h : W.rowIs b t (n * 4) (cpG X Y k)) (a c d f : Int) (e : X k = (a, c, d, f)) : ((((W.setCell ⟨b, k * 4, none⟩ (.int .i64 a)).setCell ⟨b, k * 4 + 1, none⟩ (.int .i64 c)).setCell ⟨b, k * 4 + 2, none⟩ (.int .i64 d)).setCell ⟨b, k * 4 + 3, none⟩ (.int .i64 f)).rowIs b t (n * 4) (cpG X Y (k + 1)) :=
  ((((h.set (k * 4) _).set (k * 4 + 1) _).set (k * 4 + 2) _).set (k * 4 + 3) _).congr (fun i _ => by
    by_cases e9 : i = k * 4 + 3
    · subst e9; simp [cpG, gf_3, show k * 4 + 3 < (k + 1) * 4 by omega, e]
    · by_cases e0 : i = k * 4 + 2
      · subst e0; simp [cpG, gf_2, show k * 4 + 2 < (k + 1) * 4 by omega, e]
      · by_cases e1 : i = k * 4 + 1
        · subst e1; simp [cpG, gf_1, show k * 4 + 1 < (k + 1) * 4 by omega, e]
        · by_cases e2 : i = k * 4
          · subst e2; simp [cpG, gf_0, show k * 4 < (k + 1) * 4 by omega, e]
          · by_cases e3 : i < k * 4
            · simp [cpG, e9, e0, e1, e2, e3, show i < (k + 1) * 4 by omega]
            · simp [cpG, e9, e0, e1, e2, e3, show ¬ i < (k + 1) * 4 by omega])

set_option maxHeartbeats 1000000 in
theorem toGate_any (a c d f : Int) (w : World) : Calls Tryd.prog 23 #[.agg #[.int .i64 a, .int .i64 c, .int .i64 d, .int .i64 f]] w fun e w' => e = .returned (.agg #[.int .i64 a, .int .i64 c, .int .i64 d, .int .i64 f]) ∧ Chg nob w w' := by
  have KK := hik ((((Chg.refl nob w).alloc (.cells #[.int .i64 a, .int .i64 c, .int .i64 d, .int .i64 f] 48)).alloc (.cells #[.int .i64 a, .int .i64 c, .int .i64 d, .int .i64 f] 51)).alloc (.cells #[.int .i64 a, .int .i64 c, .int .i64 d, .int .i64 f] 51))
  go_enter Tryd.func23, Tryd.ntmps23
  go_wp2
  exact bodyPost_ret (v := .agg #[.int .i64 a, .int .i64 c, .int .i64 d, .int .i64 f]) (by simp [results, Tryd.results23, go_sem, *]) rfl ⟨rfl, KK.out⟩

/-- A copy: a new row at the heap's end. -/
def CopG (w : World) (n : Nat) (X : Nat → Gt) (e : Ending) (w' : World) : Prop :=
  e = .returned (.slice (some ⟨w.heap.size, 0, none⟩) n n) ∧ w'.rowIs w.heap.size 51 (n * 4) (gf X) ∧ Chg nob w w'

set_option maxHeartbeats 2000000 in
theorem toGateS_any (c : Option Addr) (n cap : Nat) (X : Nat → Gt) (w : World) (h : Hid (GatV w c n X)) (hn : n ≤ 1099511627776) :
    Calls Tryd.prog 31 #[.slice c n cap] w fun e w' => CopG w n X e w' := by
  obtain ⟨i0, hi, hz0, hz1, hz2⟩ := info_parts infoGt4
  have HI := hik hi
  have HZ0 := hik hz0
  have HZ1 := hik hz1
  have hb : i0.bytes * n ≤ 281474976710656 := by rw [hz2]; omega
  clear hi hz0 hz1 hz2
  go_enter Tryd.func31, Tryd.ntmps31
  go_wp2_with (at_make; refine wpList_make_quad _ rfl (.tmp 6) (.tmp 6) 31 rfl 51 i0 Tryd.underlying31 HI.out HZ0.out HZ1.out .i64 .i64 _ _ n rfl rfl rfl rfl hb (by omega) ?_)
  intro w0 hr hk
  have HR0 := hik hr
  have HK0 := hik hk
  clear hb HI HZ0 HZ1 hr hk
  go_wp2
  go_loopw [4] (fun i W => ∃ k : Nat, k ≤ n ∧ i = .int .i64 k ∧ Hid (W.rowIs w.heap.size 51 (n * 4) (cpG X (fun _ => (0, 0, 0, 0)) k)) ∧ Hid (Chg nob w W)) (fun i _ => n - (intOf i).toNat)
  case atStart => exact ⟨0, Nat.zero_le _, rfl, hik (HR0.out.congr (fun i _ => by simp [cpG])), HK0⟩
  case round =>
    obtain ⟨k, hk, rfl, HR, HC⟩ := hrel
    by_cases hlt : k < n
    · obtain ⟨xb, xo, rfl, hxb, hx0, hx1, hx2, hx3⟩ := (h.out.keep HC.out) k hlt
      generalize hxx : X k = x at hx0 hx1 hx2 hx3
      have HE := hik hxx
      clear hxx
      obtain ⟨xa, xc, xd, xf⟩ := x
      go_wp2_with fail
      refine (toGate_any _ _ _ _ _).mono ?_
      rintro e w1 ⟨rfl, k1⟩
      have HR1 := hik (rowIs_keep HR.out k1)
      have HC1 := hik (HC.out.trans k1)
      have g0 := HR1.out.cell (i := k * 4) (by omega)
      have g1 := HR1.out.cell (i := k * 4 + 1) (by omega)
      have g2 := HR1.out.cell (i := k * 4 + 2) (by omega)
      have g3 := HR1.out.cell (i := k * 4 + 3) (by omega)
      have f0 := HR1.out.frozen (k * 4)
      have f1 := HR1.out.frozen (k * 4 + 1)
      have f2 := HR1.out.frozen (k * 4 + 2)
      have f3 := HR1.out.frozen (k * 4 + 3)
      clear k1 hx0 hx1 hx2 hx3
      go_wp2
      go_roundw
      case rel => exact ⟨k + 1, by omega, by go_num, hik (cpG_set HR1.out xa xc xd xf HE.out), hik ((((HC1.out.setCell (p := ⟨w.heap.size, k * 4, none⟩) (fun l => absurd l (by simp)) _).setCell (p := ⟨w.heap.size, k * 4 + 1, none⟩) (fun l => absurd l (by simp)) _).setCell (p := ⟨w.heap.size, k * 4 + 2, none⟩) (fun l => absurd l (by simp)) _).setCell (p := ⟨w.heap.size, k * 4 + 3, none⟩) (fun l => absurd l (by simp)) _)⟩
      case measure => simp [intOf]; omega
    · go_wp2
      go_ret
      exact ⟨rfl, HR.out.congr (fun i hi => by simp [cpG, show i < k * 4 by omega]), HC.out⟩

set_option maxHeartbeats 400000 in
theorem szGateS_ok (c : Option Addr) (n cap : Nat) (l : Int) (w : World) (h0 : (n : Int) ≤ l) (h1 : l ≤ 1048576) :
    Calls Tryd.prog 28 #[.slice c n cap, .int .i64 l] w fun e w' => e = .returned (.int .i64 (l - n)) ∧ w' = w := by
  have h2 : ¬ l - (n : Int) < 0 := by omega
  go_enter Tryd.func28, Tryd.ntmps28
  go_wp2
  go_ret
  exact ⟨rfl, rfl⟩
set_option maxHeartbeats 400000 in
theorem szGateS_no (c : Option Addr) (n cap : Nat) (l : Int) (w : World) (h0 : l < (n : Int)) (h1 : 0 ≤ l) (hn : (n : Int) ≤ 9223372036854775807) :
    Calls Tryd.prog 28 #[.slice c n cap, .int .i64 l] w fun e w' => e = .returned (.int .i64 (-1)) ∧ w' = w := by
  have h2 : l - (n : Int) < 0 := by omega
  go_enter Tryd.func28, Tryd.ntmps28
  go_wp2
  go_ret
  exact ⟨rfl, rfl⟩

set_option maxHeartbeats 1000000 in
theorem eqGate_any (a c d f : Int) (w : World) : Calls Tryd.prog 27 #[.agg #[.int .i64 a, .int .i64 c, .int .i64 d, .int .i64 f], .agg #[.int .i64 a, .int .i64 c, .int .i64 d, .int .i64 f]] w fun e w' => e = .returned (.bool true) ∧ Chg nob w w' := by
  have KK := hik (((Chg.refl nob w).alloc (.cells #[.int .i64 a, .int .i64 c, .int .i64 d, .int .i64 f] 51)).alloc (.cells #[.int .i64 a, .int .i64 c, .int .i64 d, .int .i64 f] 51))
  go_enter Tryd.func27, Tryd.ntmps27
  go_wp2
  go_ret
  exact ⟨rfl, KK.out⟩

set_option maxHeartbeats 2000000 in
theorem eqGateS_any (c d : Option Addr) (n cap cap' : Nat) (X : Nat → Gt) (w : World) (h : Hid (GatV w c n X)) (h' : Hid (GatV w d n X)) (hn : n ≤ 1099511627776) :
    Calls Tryd.prog 42 #[.slice c n cap, .slice d n cap'] w fun e w' => e = .returned (.bool true) ∧ Chg nob w w' := by
  go_enter Tryd.func42, Tryd.ntmps42
  go_wp2
  go_loopw [5] (fun i W => ∃ k : Nat, k ≤ n ∧ i = .int .i64 k ∧ Hid (Chg nob w W)) (fun i _ => n - (intOf i).toNat)
  case atStart => exact ⟨0, Nat.zero_le _, rfl, hik (Chg.refl _ _)⟩
  case round =>
    obtain ⟨k, hk, rfl, HC⟩ := hrel
    by_cases hlt : k < n
    · obtain ⟨xb, xo, rfl, hxb, c0, c1, c2, c3⟩ := (h.out.keep HC.out) k hlt
      obtain ⟨yb, yo, rfl, hyb, d0, d1, d2, d3⟩ := (h'.out.keep HC.out) k hlt
      have hkn : ((k : Nat) : Int) < n := by omega
      generalize X k = x at c0 c1 c2 c3 d0 d1 d2 d3
      obtain ⟨xa, xc, xd, xf⟩ := x
      simp only at c0 c1 c2 c3 d0 d1 d2 d3
      go_wp2_with fail
      go_region_held3 (fun w' => w'.cell? ⟨xb, xo + k * 4, none⟩ = some (.int .i64 xa) ∧ w'.cell? ⟨xb, xo + k * 4 + 1, none⟩ = some (.int .i64 xc) ∧ w'.cell? ⟨xb, xo + k * 4 + 2, none⟩ = some (.int .i64 xd) ∧ w'.cell? ⟨xb, xo + k * 4 + 3, none⟩ = some (.int .i64 xf) ∧ w'.cell? ⟨yb, yo + k * 4, none⟩ = some (.int .i64 xa) ∧ w'.cell? ⟨yb, yo + k * 4 + 1, none⟩ = some (.int .i64 xc) ∧ w'.cell? ⟨yb, yo + k * 4 + 2, none⟩ = some (.int .i64 xd) ∧ w'.cell? ⟨yb, yo + k * 4 + 3, none⟩ = some (.int .i64 xf)) (first | (exact ⟨c0, c1, c2, c3, d0, d1, d2, d3⟩) | (exact ⟨k6.look c0, k6.look c1, k6.look c2, k6.look c3, k6.look d0, k6.look d1, k6.look d2, k6.look d3⟩)) (first | (go_at_call 27; refine (eqGate_any xa xc xd xf _).mono ?_; rintro e w5 ⟨rfl, k6⟩))
      have K6 := hik ((HC.out.drew1).trans k6)
      clear k6 c0 c1 c2 c3 d0 d1 d2 d3
      go_wp2
      go_roundw
      case rel => exact ⟨k + 1, by omega, by go_num, K6⟩
      case measure => simp [intOf]; omega
    · go_wp2
      go_ret
      exact ⟨rfl, HC.out⟩

theorem row1_new (W : World) (v : Value) (t : TypeId) : (W.alloc (.cells #[v] t)).rowIs W.heap.size t 1 (fun _ => v) :=
  W.rowIs_alloc #[v] t _ (fun i hi => by
    have : i = 0 := by simp at hi; omega
    subst this; simp)
theorem aszG (w : World) (o : Obj) : (w.alloc o).heap.size = w.heap.size + 1 := by simp
set_option maxHeartbeats 1000000 in
theorem toCircuit_any (c : Option Addr) (n cap : Nat) (X : Nat → Gt) (w : World) (h : Hid (GatV w c n X)) (hn : n ≤ 1099511627776) :
    Calls Tryd.prog 9 #[.agg #[.slice c n cap]] w fun e w' => ∃ b : Nat, e = .returned (.agg #[.slice (some ⟨b, 0, none⟩) n n]) ∧ w.heap.size ≤ b ∧ w'.rowIs b 51 (n * 4) (gf X) ∧ Chg nob w w' := by
  have KK := hik ((((Chg.refl nob w).alloc (.cells #[.slice c n cap] 24)).alloc (.cells #[.slice none 0 0] 33)).alloc (.cells #[.slice none 0 0] 33))
  have R1 := hik (rowIs_keep (row1_new (w.alloc (.cells #[.slice c n cap] 24)) (.slice none 0 0) 33) ((Chg.refl nob _).alloc (.cells #[.slice none 0 0] 33)))
  have R2 := hik (row1_new ((w.alloc (.cells #[.slice c n cap] 24)).alloc (.cells #[.slice none 0 0] 33)) (.slice none 0 0) 33)
  rw [aszG] at R1
  rw [aszG, aszG] at R2
  go_enter Tryd.func9, Tryd.ntmps9
  go_wp2_with fail
  generalize hW : (((w.alloc (.cells #[.slice c n cap] 24)).alloc (.cells #[.slice none 0 0] 33)).alloc (.cells #[.slice none 0 0] 33)) = W0 at KK R1 R2 ⊢
  clear hW
  refine (toGateS_any c n cap X _ (hik (h.out.keep KK.out)) hn).mono ?_
  rintro e W1 ⟨rfl, r1, k1⟩
  have HB := hik (show w.heap.size + 1 + 1 < W0.heap.size from R2.out.lt)
  have RG := hik r1
  have S1 := hik (rowIs_keep R1.out k1)
  have S2 := hik (rowIs_keep R2.out k1)
  have KZ := hik (KK.out.trans k1)
  clear k1 r1 R1 R2 KK
  generalize W0.heap.size = b at RG HB ⊢
  have y0 : W1.cell? ⟨w.heap.size + 1 + 1, 0, none⟩ = some (.slice none 0 0 : Value) := S2.out.cell (i := 0) (by omega)
  have v0 := S2.out.frozen 0
  have z0 : W1.cell? ⟨w.heap.size + 1, 0, none⟩ = some (.slice none 0 0 : Value) := S1.out.cell (i := 0) (by omega)
  have u0 := S1.out.frozen 0
  have l1 := S1.out.lt
  have l2 := S2.out.lt
  have hne := HB.out
  go_wp2
  have q0 : ((W1.setCell ⟨w.heap.size + 1 + 1, 0, none⟩ (.slice (some ⟨b, 0, none⟩) n n)).setCell ⟨w.heap.size + 1, 0, none⟩ (.slice (some ⟨b, 0, none⟩) n n)).cell? ⟨w.heap.size + 1, 0, none⟩ = some (.slice (some ⟨b, 0, none⟩) n n) := ((S1.out.setOther (a := ⟨w.heap.size + 1 + 1, 0, none⟩) (show w.heap.size + 1 ≠ w.heap.size + 1 + 1 by omega) _).set 0 _).cell (i := 0) (by omega)
  exact bodyPost_ret (v := .agg #[.slice (some ⟨b, 0, none⟩) n n]) (by simp [results, Tryd.results9, go_sem, q0]) rfl ⟨b, rfl, by omega, (RG.out.setOther (a := ⟨w.heap.size + 1 + 1, 0, none⟩) (show b ≠ w.heap.size + 1 + 1 by omega) _).setOther (a := ⟨w.heap.size + 1, 0, none⟩) (show b ≠ w.heap.size + 1 by omega) _, (KZ.out.setCell (p := ⟨w.heap.size + 1 + 1, 0, none⟩) (fun l => absurd (show w.heap.size + 1 + 1 < w.heap.size from l) (by omega)) _).setCell (p := ⟨w.heap.size + 1, 0, none⟩) (fun l => absurd (show w.heap.size + 1 < w.heap.size from l) (by omega)) _⟩

set_option maxHeartbeats 1000000 in
theorem szCircuit_ok (c : Option Addr) (n cap : Nat) (l : Int) (w : World) (h0 : (n : Int) ≤ l) (h1 : l ≤ 1048576) :
    Calls Tryd.prog 7 #[.agg #[.slice c n cap], .int .i64 l] w fun e w' => e = .returned (.int .i64 (l - n)) ∧ Chg nob w w' := by
  have KK := hik ((Chg.refl nob w).alloc (.cells #[.slice c n cap] 24))
  have h2 : ¬ l - (n : Int) < 0 := by omega
  go_enter Tryd.func7, Tryd.ntmps7
  go_wp2_with (go_at_call 28; refine (szGateS_ok _ _ _ _ _ h0 h1).mono ?_; rintro e w' ⟨rfl, hw⟩; have hw := hw.symm; subst hw)
  go_ret
  exact ⟨rfl, KK.out⟩
set_option maxHeartbeats 1000000 in
theorem szCircuit_no (c : Option Addr) (n cap : Nat) (l : Int) (w : World) (h0 : l < (n : Int)) (h1 : 0 ≤ l) (hn : (n : Int) ≤ 9223372036854775807) :
    Calls Tryd.prog 7 #[.agg #[.slice c n cap], .int .i64 l] w fun e w' => e = .returned (.int .i64 (-1)) ∧ Chg nob w w' := by
  have KK := hik ((Chg.refl nob w).alloc (.cells #[.slice c n cap] 24))
  go_enter Tryd.func7, Tryd.ntmps7
  go_wp2_with (go_at_call 28; refine (szGateS_no _ _ _ _ _ h0 h1 hn).mono ?_; rintro e w' ⟨rfl, hw⟩; have hw := hw.symm; subst hw)
  go_ret
  exact ⟨rfl, KK.out⟩
set_option maxHeartbeats 1000000 in
theorem eqCircuit_any (c d : Option Addr) (n cap cap' : Nat) (X : Nat → Gt) (w : World) (h : Hid (GatV w c n X)) (h' : Hid (GatV w d n X)) (hn : n ≤ 1099511627776) :
    Calls Tryd.prog 12 #[.agg #[.slice c n cap], .agg #[.slice d n cap']] w fun e w' => e = .returned (.bool true) ∧ Chg nob w w' := by
  have KK := hik (((Chg.refl nob w).alloc (.cells #[.slice c n cap] 33)).alloc (.cells #[.slice d n cap'] 33))
  go_enter Tryd.func12, Tryd.ntmps12
  go_wp2_with (go_at_call 42; refine (eqGateS_any c d n cap cap' X _ (hik (h.out.keep KK.out)) (hik (h'.out.keep KK.out)) hn).mono ?_; rintro e W1 ⟨rfl, k1⟩; have K1 := hik (KK.out.trans k1); clear k1)
  go_ret
  exact ⟨rfl, K1.out⟩

/-- Gates that are numbered from q on. -/
def mkG (q : Int) (i : Nat) : Gt := (q + 4 * i, q + 4 * i + 1, q + 4 * i + 2, q + 4 * i + 3)
set_option maxHeartbeats 2000000 in
theorem markGateS_any (g n cap : Nat) (X : Nat → Gt) (q : Int) (w : World) (h : Hid (w.rowIs g 51 (n * 4) (gf X))) (hn : n ≤ 1099511627776) (q0 : 0 ≤ q) (q1 : q ≤ 1099511627776) :
    Calls Tryd.prog 43 #[.slice (some ⟨g, 0, none⟩) n cap, .int .i64 q] w fun e w' => e = .returned (.int .i64 (q + 4 * n)) ∧ w'.rowIs g 51 (n * 4) (gf (mkG q)) ∧ Chg (fun b => b = g) w w' := by
  go_enter Tryd.func43, Tryd.ntmps43
  go_wp2
  go_loopw [1, 5] (fun v i W => ∃ k : Nat, k ≤ n ∧ i = .int .i64 k ∧ v = .int .i64 (q + 4 * k) ∧ Hid (W.rowIs g 51 (n * 4) (cpG (mkG q) X k)) ∧ Hid (Chg (fun b => b = g) w W)) (fun _ i _ => n - (intOf i).toNat)
  case atStart => exact ⟨0, Nat.zero_le _, rfl, by simp, hik (h.out.congr (fun i _ => by simp [cpG])), hik (Chg.refl _ _)⟩
  case round =>
    obtain ⟨k, hk, rfl, rfl, HR, HC⟩ := hrel
    by_cases hlt : k < n
    · have hkn : ((k : Nat) : Int) < n := by omega
      have g0 := HR.out.cell (i := k * 4) (by omega)
      have g1 := HR.out.cell (i := k * 4 + 1) (by omega)
      have g2 := HR.out.cell (i := k * 4 + 2) (by omega)
      have g3 := HR.out.cell (i := k * 4 + 3) (by omega)
      have f0 := HR.out.frozen (k * 4)
      have f1 := HR.out.frozen (k * 4 + 1)
      have f2 := HR.out.frozen (k * 4 + 2)
      have f3 := HR.out.frozen (k * 4 + 3)
      have HR2 := hik (cpG_set HR.out (q + 4 * k) (q + 4 * k + 1) (q + 4 * k + 2) (q + 4 * k + 3) rfl)
      have HC2 := hik ((((HC.out.setCell (p := ⟨g, k * 4, none⟩) (fun _ => rfl) (.int .i64 (q + 4 * k))).setCell (p := ⟨g, k * 4 + 1, none⟩) (fun _ => rfl) (.int .i64 (q + 4 * k + 1))).setCell (p := ⟨g, k * 4 + 2, none⟩) (fun _ => rfl) (.int .i64 (q + 4 * k + 2))).setCell (p := ⟨g, k * 4 + 3, none⟩) (fun _ => rfl) (.int .i64 (q + 4 * k + 3)))
      go_wp2
      go_roundw
      case rel => exact ⟨k + 1, by omega, by go_num, by go_num, by first | exact HR2 | (have := HR2; simpa [Int.add_assoc] using this), by first | exact HC2 | (have := HC2; simpa [Int.add_assoc] using this)⟩
      case measure => simp [intOf]; omega
    · obtain rfl : k = n := by omega
      go_wp2
      go_ret
      exact ⟨rfl, HR.out.congr (fun i hi => by simp [cpG, hi]), HC.out⟩
set_option maxHeartbeats 1000000 in
theorem markCircuit_any (g n cap : Nat) (X : Nat → Gt) (q : Int) (w : World) (h : Hid (w.rowIs g 51 (n * 4) (gf X))) (hn : n ≤ 1099511627776) (q0 : 0 ≤ q) (q1 : q ≤ 1099511627776) :
    Calls Tryd.prog 13 #[.agg #[.slice (some ⟨g, 0, none⟩) n cap], .int .i64 q] w fun e w' => e = .returned (.int .i64 (q + 4 * n)) ∧ Chg (fun b => b = g) w w' := by
  have KK := hik ((Chg.refl nob w).alloc (.cells #[.slice (some ⟨g, 0, none⟩) n cap] 33))
  go_enter Tryd.func13, Tryd.ntmps13
  go_wp2_with (go_at_call 43; refine (markGateS_any g n cap X q _ (hik (rowIs_keep h.out KK.out)) hn q0 q1).mono ?_; rintro e W1 ⟨rfl, r1, k1⟩; have K1 := hik (KK.out.wide.trans k1); clear k1 r1)
  go_ret
  exact ⟨rfl, K1.out⟩
end Go.Proofs.YtgimmmmiodlepabDoor
