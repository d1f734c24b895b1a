/- The laws' helpers on entries and systems: copies, sizes, likenesses, marks: contracts. Conditions: rows that can be read, lengths of at most 2 to the 40. -/
import Derived.Test.YtbjhppamolmpeaaBzag
import Derived.Deep.RegionHeld3
import Derived.Deep.DeepCutAuto
namespace Go.Proofs.Ytbjhppamolmpeaa
open Go.ChangeShapes Go.WideShapes Go.ChangeAt Go.RowKit
set_option linter.unusedVariables false
set_option maxRecDepth 100000
set_option linter.unusedSimpArgs false

theorem infoEn3 : (Try.prog.info? 69).map (fun i => (i.zero, i.size, i.bytes)) = some (some (.agg #[.int .i64 0, .int .i64 0, .int .i64 0]), 3, 24) := by kernel_rfl
/-- make([]T, n), T of three cells. -/
theorem wpList_make_trip {P : Program} (w : World) {ops : Array Oper} {rest : List Oper} {o : Oper} {a : Act} {Q : Exit → Act → World → Prop}
    (hg : o.guard = none) (l c : Operand) (t : TypeId) (hop : o.op = Op.makeSlice t l c) (e : TypeId) (i : TypeInfo)
    (h1 : P.underlying t = some (.slice e)) (h2 : P.info? e = some i) (h3 : i.zero = some (.agg #[.int .i64 0, .int .i64 0, .int .i64 0])) (h4 : i.size = 3)
    (kl kc : IntKind) (L C : Int) (n : Nat) (hl : a.eval l = .int kl L) (hc : a.eval c = .int kc C) (hL : L = (n : Int)) (hC : C = (n : Int)) (b2 : i.bytes * n ≤ 281474976710656) (b3 : n ≤ 9223372036854775807)
    (hK : ∀ w', w'.rowIs w.heap.size e (n * 3) (tf (fun _ => (0, 0, 0))) → Chg nob w w' → wpList P ops Q rest (a.put o.dst (.slice (some ⟨w.heap.size, 0, none⟩) n n)) w') :
    wpList P ops Q (o :: rest) a w := by
  refine wpList_plain hg fun K hK' => ?_
  have hb' : (i.bytes : Int) * (n : Int) ≤ 281474976710656 := by
    have h : ((i.bytes * n : Nat) : Int) ≤ 281474976710656 := by omega
    rwa [Int.natCast_mul] at h
  have hrun := run_make (P := P) w t e i _ h1 h2 h3 kl kc n n (by omega) (Int.le_refl _) hb' (by omega)
  simp only [Int.toNat_natCast, h4] at hrun
  subst hL
  subst hC
  unfold Oper.wp
  simp [execOp, hop, hl, hc, hrun, Result.andThen]
  refine hK' _ _ (hK _ ⟨_, Go.Deep.blk_alloc_new _ _, size_madeCells _ _, fun j hj => ?_⟩ ((Chg.refl _ _).alloc _))
  have h2 : j % 3 < 3 := Nat.mod_lt _ (by omega)
  rcases (by omega : j % 3 = 0 ∨ j % 3 = 1 ∨ j % 3 = 2) with q | q | q <;> simp [madeCells, hj, Value.cells, q, tf]

/-- A row of which the first k entries are x's, the others y's. -/
def cpT (X Y : Nat → En) (k : Nat) (j : Nat) : Value := if j < k * 3 then tf X j else tf Y j
theorem cpT_set {W : World} {b n : Nat} {t : TypeId} {X Y : Nat → En} {k : Nat} (h : W.rowIs b t (n * 3) (cpT X Y k)) (a c d : Int) (e : X k = (a, c, d)) : (((W.setCell ⟨b, k * 3, none⟩ (.int .i64 a)).setCell ⟨b, k * 3 + 1, none⟩ (.int .i64 c)).setCell ⟨b, k * 3 + 2, none⟩ (.int .i64 d)).rowIs b t (n * 3) (cpT X Y (k + 1)) :=
  (((h.set (k * 3) _).set (k * 3 + 1) _).set (k * 3 + 2) _).congr (fun i _ => by
    by_cases e0 : i = k * 3 + 2
    · subst e0; simp [cpT, tf_2, show k * 3 + 2 < (k + 1) * 3 by omega, e]
    · by_cases e1 : i = k * 3 + 1
      · subst e1; simp [cpT, tf_1, show k * 3 + 1 < (k + 1) * 3 by omega, e]
      · by_cases e2 : i = k * 3
        · subst e2; simp [cpT, tf_0, show k * 3 < (k + 1) * 3 by omega, e]
        · by_cases e3 : i < k * 3
          · simp [cpT, e0, e1, e2, e3, show i < (k + 1) * 3 by omega]
          · simp [cpT, e0, e1, e2, e3, show ¬ i < (k + 1) * 3 by omega])

set_option maxHeartbeats 1000000 in
theorem toEntry_any (a c d : Int) (w : World) : Calls Try.prog 50 #[.agg #[.int .i64 a, .int .i64 c, .int .i64 d]] w fun e w' => e = .returned (.agg #[.int .i64 a, .int .i64 c, .int .i64 d]) ∧ Chg nob w w' := by
  have KK := hik ((((Chg.refl nob w).alloc (.cells #[.int .i64 a, .int .i64 c, .int .i64 d] 71)).alloc (.cells #[.int .i64 a, .int .i64 c, .int .i64 d] 69)).alloc (.cells #[.int .i64 a, .int .i64 c, .int .i64 d] 69))
  go_enter Try.func50, Try.ntmps50
  go_wp2
  exact bodyPost_ret (v := .agg #[.int .i64 a, .int .i64 c, .int .i64 d]) (by simp [results, Try.results50, go_sem, *]) rfl ⟨rfl, KK.out⟩

/-- A copy: a new row at the heap's end. -/
def CopT (w : World) (n : Nat) (X : Nat → En) (e : Ending) (w' : World) : Prop :=
  e = .returned (.slice (some ⟨w.heap.size, 0, none⟩) n n) ∧ w'.rowIs w.heap.size 69 (n * 3) (tf X) ∧ Chg nob w w'

set_option maxHeartbeats 2000000 in
theorem toEntryS_any (c : Option Addr) (n cap : Nat) (X : Nat → En) (w : World) (h : Hid (EntV w c n X)) (hn : n ≤ 1099511627776) :
    Calls Try.prog 36 #[.slice c n cap] w fun e w' => CopT w n X e w' := by
  obtain ⟨i0, hi, hz0, hz1, hz2⟩ := info_parts infoEn3
  have HI := hik hi
  have HZ0 := hik hz0
  have HZ1 := hik hz1
  have hb : i0.bytes * n ≤ 281474976710656 := by rw [hz2]; omega
  clear hi hz0 hz1 hz2
  go_enter Try.func36, Try.ntmps36
  go_wp2_with (at_make; refine wpList_make_trip _ rfl (.tmp 6) (.tmp 6) 44 rfl 69 i0 Try.underlying44 HI.out HZ0.out HZ1.out .i64 .i64 _ _ n rfl rfl rfl rfl hb (by omega) ?_)
  intro w0 hr hk
  have HR0 := hik hr
  have HK0 := hik hk
  clear hb HI HZ0 HZ1 hr hk
  go_wp2
  go_loopw [4] (fun i W => ∃ k : Nat, k ≤ n ∧ i = .int .i64 k ∧ Hid (W.rowIs w.heap.size 69 (n * 3) (cpT X (fun _ => (0, 0, 0)) k)) ∧ Hid (Chg nob w W)) (fun i _ => n - (intOf i).toNat)
  case atStart => exact ⟨0, Nat.zero_le _, rfl, hik (HR0.out.congr (fun i _ => by simp [cpT])), HK0⟩
  case round =>
    obtain ⟨k, hk, rfl, HR, HC⟩ := hrel
    by_cases hlt : k < n
    · obtain ⟨xb, xo, rfl, hxb, hx0, hx1, hx2⟩ := (h.out.keep HC.out) k hlt
      generalize hxx : X k = x at hx0 hx1 hx2
      have HE := hik hxx
      clear hxx
      obtain ⟨xa, xc, xd⟩ := x
      go_wp2_with fail
      refine (toEntry_any _ _ _ _).mono ?_
      rintro e w1 ⟨rfl, k1⟩
      have HR1 := hik (rowIs_keep HR.out k1)
      have HC1 := hik (HC.out.trans k1)
      have g0 := HR1.out.cell (i := k * 3) (by omega)
      have g1 := HR1.out.cell (i := k * 3 + 1) (by omega)
      have g2 := HR1.out.cell (i := k * 3 + 2) (by omega)
      have f0 := HR1.out.frozen (k * 3)
      have f1 := HR1.out.frozen (k * 3 + 1)
      have f2 := HR1.out.frozen (k * 3 + 2)
      clear k1 hx0 hx1 hx2
      go_wp2
      go_roundw
      case rel => exact ⟨k + 1, by omega, by go_num, hik (cpT_set HR1.out xa xc xd HE.out), hik (((HC1.out.setCell (p := ⟨w.heap.size, k * 3, none⟩) (fun l => absurd l (by simp)) _).setCell (p := ⟨w.heap.size, k * 3 + 1, none⟩) (fun l => absurd l (by simp)) _).setCell (p := ⟨w.heap.size, k * 3 + 2, none⟩) (fun l => absurd l (by simp)) _)⟩
      case measure => simp [intOf]; omega
    · go_wp2
      go_ret
      exact ⟨rfl, HR.out.congr (fun i hi => by simp [cpT, show i < k * 3 by omega]), HC.out⟩

set_option maxHeartbeats 400000 in
theorem szEntryS_ok (c : Option Addr) (n cap : Nat) (l : Int) (w : World) (h0 : (n : Int) ≤ l) (h1 : l ≤ 1048576) :
    Calls Try.prog 33 #[.slice c n cap, .int .i64 l] w fun e w' => e = .returned (.int .i64 (l - n)) ∧ w' = w := by
  have h2 : ¬ l - (n : Int) < 0 := by omega
  go_enter Try.func33, Try.ntmps33
  go_wp2
  go_ret
  exact ⟨rfl, rfl⟩
set_option maxHeartbeats 400000 in
theorem szEntryS_no (c : Option Addr) (n cap : Nat) (l : Int) (w : World) (h0 : l < (n : Int)) (h1 : 0 ≤ l) (hn : (n : Int) ≤ 9223372036854775807) :
    Calls Try.prog 33 #[.slice c n cap, .int .i64 l] w fun e w' => e = .returned (.int .i64 (-1)) ∧ w' = w := by
  have h2 : l - (n : Int) < 0 := by omega
  go_enter Try.func33, Try.ntmps33
  go_wp2
  go_ret
  exact ⟨rfl, rfl⟩

set_option maxHeartbeats 1000000 in
theorem eqEntry_any (a c d : Int) (w : World) : Calls Try.prog 63 #[.agg #[.int .i64 a, .int .i64 c, .int .i64 d], .agg #[.int .i64 a, .int .i64 c, .int .i64 d]] w fun e w' => e = .returned (.bool true) ∧ Chg nob w w' := by
  have KK := hik (((Chg.refl nob w).alloc (.cells #[.int .i64 a, .int .i64 c, .int .i64 d] 69)).alloc (.cells #[.int .i64 a, .int .i64 c, .int .i64 d] 69))
  go_enter Try.func63, Try.ntmps63
  go_wp2
  go_ret
  exact ⟨rfl, KK.out⟩

set_option maxHeartbeats 2000000 in
theorem eqEntryS_any (c d : Option Addr) (n cap cap' : Nat) (X : Nat → En) (w : World) (h : Hid (EntV w c n X)) (h' : Hid (EntV w d n X)) (hn : n ≤ 1099511627776) :
    Calls Try.prog 42 #[.slice c n cap, .slice d n cap'] w fun e w' => e = .returned (.bool true) ∧ Chg nob w w' := by
  go_enter Try.func42, Try.ntmps42
  go_wp2
  go_loopw [5] (fun i W => ∃ k : Nat, k ≤ n ∧ i = .int .i64 k ∧ Hid (Chg nob w W)) (fun i _ => n - (intOf i).toNat)
  case atStart => exact ⟨0, Nat.zero_le _, rfl, hik (Chg.refl _ _)⟩
  case round =>
    obtain ⟨k, hk, rfl, HC⟩ := hrel
    by_cases hlt : k < n
    · obtain ⟨xb, xo, rfl, hxb, c0, c1, c2⟩ := (h.out.keep HC.out) k hlt
      obtain ⟨yb, yo, rfl, hyb, d0, d1, d2⟩ := (h'.out.keep HC.out) k hlt
      have hkn : ((k : Nat) : Int) < n := by omega
      generalize X k = x at c0 c1 c2 d0 d1 d2
      obtain ⟨xa, xc, xd⟩ := x
      simp only at c0 c1 c2 d0 d1 d2
      go_wp2_with fail
      go_region_held3 (fun w' => w'.cell? ⟨xb, xo + k * 3, none⟩ = some (.int .i64 xa) ∧ w'.cell? ⟨xb, xo + k * 3 + 1, none⟩ = some (.int .i64 xc) ∧ w'.cell? ⟨xb, xo + k * 3 + 2, none⟩ = some (.int .i64 xd) ∧ w'.cell? ⟨yb, yo + k * 3, none⟩ = some (.int .i64 xa) ∧ w'.cell? ⟨yb, yo + k * 3 + 1, none⟩ = some (.int .i64 xc) ∧ w'.cell? ⟨yb, yo + k * 3 + 2, none⟩ = some (.int .i64 xd)) (first | (exact ⟨c0, c1, c2, d0, d1, d2⟩) | (exact ⟨k6.look c0, k6.look c1, k6.look c2, k6.look d0, k6.look d1, k6.look d2⟩)) (first | (go_at_call 63; refine (eqEntry_any xa xc xd _).mono ?_; rintro e w5 ⟨rfl, k6⟩))
      have K6 := hik ((HC.out.drew1).trans k6)
      clear k6 c0 c1 c2 d0 d1 d2
      go_wp2
      go_roundw
      case rel => exact ⟨k + 1, by omega, by go_num, K6⟩
      case measure => simp [intOf]; omega
    · go_wp2
      go_ret
      exact ⟨rfl, HC.out⟩

end Go.Proofs.Ytbjhppamolmpeaa
