/- Several texts in one: The laws' helpers on entries and systems: copies, sizes, likenesses, marks: contracts. Conditions: rows that can be read, lengths of at most 2 to the 40. · The laws' helpers on systems: copies, sizes, likenesses: contracts. Conditions: rows that can be read, lengths of at most 2 to the 40. -/
import Derived.Test.YtppiilbcnkphbaaGreatBzav
import Derived.Deep.RegionHeld3
import Derived.Deep.DeepCutAuto
import Derived.Test.YtppiilbcnkphbaaGreatBzay
namespace Go.Proofs.YtppiilbcnkphbaaGreat
open Go.ChangeShapes Go.WideShapes Go.ChangeAt Go.RowKit
set_option linter.unusedVariables false
set_option maxRecDepth 100000
set_option linter.unusedSimpArgs false

theorem infoEn3 : (Tryz.prog.info? 87).map (fun i => (i.zero, i.size, i.bytes)) = some (some (.agg #[.int .i64 0, .int .i64 0, .int .i64 0]), 3, 24) := by kernel_rfl
/-- make([]T, n), T of three cells. -/
theorem wpList_make_trip {P : Program} (w : World) {ops : Array Oper} {rest : List Oper} {o : Oper} {a : Act} {Q : Exit → Act → World → Prop}
    (hg : o.guard = none) (l c : Operand) (t : TypeId) (hop : o.op = Op.makeSlice t l c) (e : TypeId) (i : TypeInfo)
    (h1 : P.underlying t = some (.slice e)) (h2 : P.info? e = some i) (h3 : i.zero = some (.agg #[.int .i64 0, .int .i64 0, .int .i64 0])) (h4 : i.size = 3)
    (kl kc : IntKind) (L C : Int) (n : Nat) (hl : a.eval l = .int kl L) (hc : a.eval c = .int kc C) (hL : L = (n : Int)) (hC : C = (n : Int)) (b2 : i.bytes * n ≤ 281474976710656) (b3 : n ≤ 9223372036854775807)
    (hK : ∀ w', w'.rowIs w.heap.size e (n * 3) (tf (fun _ => (0, 0, 0))) → Chg nob w w' → wpList P ops Q rest (a.put o.dst (.slice (some ⟨w.heap.size, 0, none⟩) n n)) w') :
    wpList P ops Q (o :: rest) a w := by
  refine wpList_plain hg fun K hK' => ?_
  have hb' : (i.bytes : Int) * (n : Int) ≤ 281474976710656 := by
    have h : ((i.bytes * n : Nat) : Int) ≤ 281474976710656 := by omega
    rwa [Int.natCast_mul] at h
  have hrun := run_make (P := P) w t e i _ h1 h2 h3 kl kc n n (by omega) (Int.le_refl _) hb' (by omega)
  simp only [Int.toNat_natCast, h4] at hrun
  subst hL
  subst hC
  unfold Oper.wp
  simp [execOp, hop, hl, hc, hrun, Result.andThen]
  refine hK' _ _ (hK _ ⟨_, Go.Deep.blk_alloc_new _ _, size_madeCells _ _, fun j hj => ?_⟩ ((Chg.refl _ _).alloc _))
  have h2 : j % 3 < 3 := Nat.mod_lt _ (by omega)
  rcases (by omega : j % 3 = 0 ∨ j % 3 = 1 ∨ j % 3 = 2) with q | q | q <;> simp [madeCells, hj, Value.cells, q, tf]

/-- A row of which the first k entries are x's, the others y's. -/
def cpT (X Y : Nat → En) (k : Nat) (j : Nat) : Value := if j < k * 3 then tf X j else tf Y j
theorem cpT_set {W : World} {b n : Nat} {t : TypeId} {X Y : Nat → En} {k : Nat} (h : W.rowIs b t (n * 3) (cpT X Y k)) (a c d : Int) (e : X k = (a, c, d)) : (((W.setCell ⟨b, k * 3, none⟩ (.int .i64 a)).setCell ⟨b, k * 3 + 1, none⟩ (.int .i64 c)).setCell ⟨b, k * 3 + 2, none⟩ (.int .i64 d)).rowIs b t (n * 3) (cpT X Y (k + 1)) :=
  (((h.set (k * 3) _).set (k * 3 + 1) _).set (k * 3 + 2) _).congr (fun i _ => by
    by_cases e0 : i = k * 3 + 2
    · subst e0; simp [cpT, tf_2, show k * 3 + 2 < (k + 1) * 3 by omega, e]
    · by_cases e1 : i = k * 3 + 1
      · subst e1; simp [cpT, tf_1, show k * 3 + 1 < (k + 1) * 3 by omega, e]
      · by_cases e2 : i = k * 3
        · subst e2; simp [cpT, tf_0, show k * 3 < (k + 1) * 3 by omega, e]
        · by_cases e3 : i < k * 3
          · simp [cpT, e0, e1, e2, e3, show i < (k + 1) * 3 by omega]
          · simp [cpT, e0, e1, e2, e3, show ¬ i < (k + 1) * 3 by omega])

set_option maxHeartbeats 1000000 in
theorem toEntry_any (a c d : Int) (w : World) : Calls Tryz.prog 40 #[.agg #[.int .i64 a, .int .i64 c, .int .i64 d]] w fun e w' => e = .returned (.agg #[.int .i64 a, .int .i64 c, .int .i64 d]) ∧ Chg nob w w' := by
  have KK := hik ((((Chg.refl nob w).alloc (.cells #[.int .i64 a, .int .i64 c, .int .i64 d] 89)).alloc (.cells #[.int .i64 a, .int .i64 c, .int .i64 d] 87)).alloc (.cells #[.int .i64 a, .int .i64 c, .int .i64 d] 87))
  go_enter Tryz.func40, Tryz.ntmps40
  go_wp2
  exact bodyPost_ret (v := .agg #[.int .i64 a, .int .i64 c, .int .i64 d]) (by simp [results, Tryz.results40, go_sem, *]) rfl ⟨rfl, KK.out⟩

/-- A copy: a new row at the heap's end. -/
def CopT (w : World) (n : Nat) (X : Nat → En) (e : Ending) (w' : World) : Prop :=
  e = .returned (.slice (some ⟨w.heap.size, 0, none⟩) n n) ∧ w'.rowIs w.heap.size 87 (n * 3) (tf X) ∧ Chg nob w w'

set_option maxHeartbeats 2000000 in
theorem toEntryS_any (c : Option Addr) (n cap : Nat) (X : Nat → En) (w : World) (h : Hid (EntV w c n X)) (hn : n ≤ 1099511627776) :
    Calls Tryz.prog 21 #[.slice c n cap] w fun e w' => CopT w n X e w' := by
  obtain ⟨i0, hi, hz0, hz1, hz2⟩ := info_parts infoEn3
  have HI := hik hi
  have HZ0 := hik hz0
  have HZ1 := hik hz1
  have hb : i0.bytes * n ≤ 281474976710656 := by rw [hz2]; omega
  clear hi hz0 hz1 hz2
  go_enter Tryz.func21, Tryz.ntmps21
  go_wp2_with (at_make; refine wpList_make_trip _ rfl (.tmp 6) (.tmp 6) 41 rfl 87 i0 Tryz.underlying41 HI.out HZ0.out HZ1.out .i64 .i64 _ _ n rfl rfl rfl rfl hb (by omega) ?_)
  intro w0 hr hk
  have HR0 := hik hr
  have HK0 := hik hk
  clear hb HI HZ0 HZ1 hr hk
  go_wp2
  go_loopw [4] (fun i W => ∃ k : Nat, k ≤ n ∧ i = .int .i64 k ∧ Hid (W.rowIs w.heap.size 87 (n * 3) (cpT X (fun _ => (0, 0, 0)) k)) ∧ Hid (Chg nob w W)) (fun i _ => n - (intOf i).toNat)
  case atStart => exact ⟨0, Nat.zero_le _, rfl, hik (HR0.out.congr (fun i _ => by simp [cpT])), HK0⟩
  case round =>
    obtain ⟨k, hk, rfl, HR, HC⟩ := hrel
    by_cases hlt : k < n
    · obtain ⟨xb, xo, rfl, hxb, hx0, hx1, hx2⟩ := (h.out.keep HC.out) k hlt
      generalize hxx : X k = x at hx0 hx1 hx2
      have HE := hik hxx
      clear hxx
      obtain ⟨xa, xc, xd⟩ := x
      go_wp2_with fail
      refine (toEntry_any _ _ _ _).mono ?_
      rintro e w1 ⟨rfl, k1⟩
      have HR1 := hik (rowIs_keep HR.out k1)
      have HC1 := hik (HC.out.trans k1)
      have g0 := HR1.out.cell (i := k * 3) (by omega)
      have g1 := HR1.out.cell (i := k * 3 + 1) (by omega)
      have g2 := HR1.out.cell (i := k * 3 + 2) (by omega)
      have f0 := HR1.out.frozen (k * 3)
      have f1 := HR1.out.frozen (k * 3 + 1)
      have f2 := HR1.out.frozen (k * 3 + 2)
      clear k1 hx0 hx1 hx2
      go_wp2
      go_roundw
      case rel => exact ⟨k + 1, by omega, by go_num, hik (cpT_set HR1.out xa xc xd HE.out), hik (((HC1.out.setCell (p := ⟨w.heap.size, k * 3, none⟩) (fun l => absurd l (by simp)) _).setCell (p := ⟨w.heap.size, k * 3 + 1, none⟩) (fun l => absurd l (by simp)) _).setCell (p := ⟨w.heap.size, k * 3 + 2, none⟩) (fun l => absurd l (by simp)) _)⟩
      case measure => simp [intOf]; omega
    · go_wp2
      go_ret
      exact ⟨rfl, HR.out.congr (fun i hi => by simp [cpT, show i < k * 3 by omega]), HC.out⟩

set_option maxHeartbeats 400000 in
theorem szEntryS_ok (c : Option Addr) (n cap : Nat) (l : Int) (w : World) (h0 : (n : Int) ≤ l) (h1 : l ≤ 1048576) :
    Calls Tryz.prog 17 #[.slice c n cap, .int .i64 l] w fun e w' => e = .returned (.int .i64 (l - n)) ∧ w' = w := by
  have h2 : ¬ l - (n : Int) < 0 := by omega
  go_enter Tryz.func17, Tryz.ntmps17
  go_wp2
  go_ret
  exact ⟨rfl, rfl⟩
set_option maxHeartbeats 400000 in
theorem szEntryS_no (c : Option Addr) (n cap : Nat) (l : Int) (w : World) (h0 : l < (n : Int)) (h1 : 0 ≤ l) (hn : (n : Int) ≤ 9223372036854775807) :
    Calls Tryz.prog 17 #[.slice c n cap, .int .i64 l] w fun e w' => e = .returned (.int .i64 (-1)) ∧ w' = w := by
  have h2 : l - (n : Int) < 0 := by omega
  go_enter Tryz.func17, Tryz.ntmps17
  go_wp2
  go_ret
  exact ⟨rfl, rfl⟩

set_option maxHeartbeats 1000000 in
theorem eqEntry_any (a c d : Int) (w : World) : Calls Tryz.prog 54 #[.agg #[.int .i64 a, .int .i64 c, .int .i64 d], .agg #[.int .i64 a, .int .i64 c, .int .i64 d]] w fun e w' => e = .returned (.bool true) ∧ Chg nob w w' := by
  have KK := hik (((Chg.refl nob w).alloc (.cells #[.int .i64 a, .int .i64 c, .int .i64 d] 87)).alloc (.cells #[.int .i64 a, .int .i64 c, .int .i64 d] 87))
  go_enter Tryz.func54, Tryz.ntmps54
  go_wp2
  go_ret
  exact ⟨rfl, KK.out⟩

set_option maxHeartbeats 2000000 in
theorem eqEntryS_any (c d : Option Addr) (n cap cap' : Nat) (X : Nat → En) (w : World) (h : Hid (EntV w c n X)) (h' : Hid (EntV w d n X)) (hn : n ≤ 1099511627776) :
    Calls Tryz.prog 27 #[.slice c n cap, .slice d n cap'] w fun e w' => e = .returned (.bool true) ∧ Chg nob w w' := by
  go_enter Tryz.func27, Tryz.ntmps27
  go_wp2
  go_loopw [5] (fun i W => ∃ k : Nat, k ≤ n ∧ i = .int .i64 k ∧ Hid (Chg nob w W)) (fun i _ => n - (intOf i).toNat)
  case atStart => exact ⟨0, Nat.zero_le _, rfl, hik (Chg.refl _ _)⟩
  case round =>
    obtain ⟨k, hk, rfl, HC⟩ := hrel
    by_cases hlt : k < n
    · obtain ⟨xb, xo, rfl, hxb, c0, c1, c2⟩ := (h.out.keep HC.out) k hlt
      obtain ⟨yb, yo, rfl, hyb, d0, d1, d2⟩ := (h'.out.keep HC.out) k hlt
      have hkn : ((k : Nat) : Int) < n := by omega
      generalize X k = x at c0 c1 c2 d0 d1 d2
      obtain ⟨xa, xc, xd⟩ := x
      simp only at c0 c1 c2 d0 d1 d2
      go_wp2_with fail
      go_region_held3 (fun w' => w'.cell? ⟨xb, xo + k * 3, none⟩ = some (.int .i64 xa) ∧ w'.cell? ⟨xb, xo + k * 3 + 1, none⟩ = some (.int .i64 xc) ∧ w'.cell? ⟨xb, xo + k * 3 + 2, none⟩ = some (.int .i64 xd) ∧ w'.cell? ⟨yb, yo + k * 3, none⟩ = some (.int .i64 xa) ∧ w'.cell? ⟨yb, yo + k * 3 + 1, none⟩ = some (.int .i64 xc) ∧ w'.cell? ⟨yb, yo + k * 3 + 2, none⟩ = some (.int .i64 xd)) (first | (exact ⟨c0, c1, c2, d0, d1, d2⟩) | (exact ⟨k6.look c0, k6.look c1, k6.look c2, k6.look d0, k6.look d1, k6.look d2⟩)) (first | (go_at_call 54; refine (eqEntry_any xa xc xd _).mono ?_; rintro e w5 ⟨rfl, k6⟩))
      have K6 := hik ((HC.out.drew1).trans k6)
      clear k6 c0 c1 c2 d0 d1 d2
      go_wp2
      go_roundw
      case rel => exact ⟨k + 1, by omega, by go_num, K6⟩
      case measure => simp [intOf]; omega
    · go_wp2
      go_ret
      exact ⟨rfl, HC.out⟩

end Go.Proofs.YtppiilbcnkphbaaGreat

namespace Go.Proofs.YtppiilbcnkphbaaGreat
open Go.ChangeShapes Go.WideShapes Go.ChangeAt Go.RowKit
set_option linter.unusedVariables false
set_option maxRecDepth 100000
set_option linter.unusedSimpArgs false

theorem rowNn (W : World) (n : Nat) (a : Array Value) (t : TypeId) (h : a.size = n) : (W.alloc (.cells a t)).rowIs W.heap.size t n (fun i => a.getD i undef) := by
  subst h
  exact W.rowIs_alloc a t _ (fun i hi => by simp [hi])
theorem asz1 (w : World) (o : Obj) : (w.alloc o).heap.size = w.heap.size + 1 := by simp
/-- A copy of a system: three new rows. -/
def SyAns (w : World) (s : Sy) (e : Ending) (w' : World) : Prop :=
  ∃ bA bB bC : Nat, e = .returned (.agg #[.int .i64 s.r, .int .i64 s.q, .int .i64 s.p, .slice (some ⟨bA, 0, none⟩) s.nA s.nA, .slice (some ⟨bB, 0, none⟩) s.nB s.nB, .slice (some ⟨bC, 0, none⟩) s.nC s.nC]) ∧ w.heap.size ≤ bA ∧ bA < bB ∧ bB < bC ∧
    w'.rowIs bA 87 (s.nA * 3) (tf s.XA) ∧ w'.rowIs bB 87 (s.nB * 3) (tf s.XB) ∧ w'.rowIs bC 87 (s.nC * 3) (tf s.XC) ∧ Chg nob w w'

set_option maxHeartbeats 4000000 in
theorem toSystem_any (s : Sy) (a : SyA) (w : World) (h : Hid (SyV w s a)) (hs : s.small) :
    Calls Tryz.prog 7 #[.agg #[.int .i64 s.r, .int .i64 s.q, .int .i64 s.p, .slice a.cA s.nA a.pA, .slice a.cB s.nB a.pB, .slice a.cC s.nC a.pC]] w fun e w' => SyAns w s e w' := by
  have K0 := hik ((((Chg.refl nob w).alloc (.cells #[.int .i64 s.r, .int .i64 s.q, .int .i64 s.p, .slice a.cA s.nA a.pA, .slice a.cB s.nB a.pB, .slice a.cC s.nC a.pC] 25)).alloc (.cells #[.int .i64 0, .int .i64 0, .int .i64 0, .slice none 0 0, .slice none 0 0, .slice none 0 0] 43)).alloc (.cells #[.int .i64 s.r, .int .i64 s.q, .int .i64 s.p, .slice none 0 0, .slice none 0 0, .slice none 0 0] 43))
  have R0 := hik (rowIs_keep (rowNn w 6 #[.int .i64 s.r, .int .i64 s.q, .int .i64 s.p, .slice a.cA s.nA a.pA, .slice a.cB s.nB a.pB, .slice a.cC s.nC a.pC] 25 rfl) (((Chg.refl nob _).alloc (.cells #[.int .i64 0, .int .i64 0, .int .i64 0, .slice none 0 0, .slice none 0 0, .slice none 0 0] 43)).alloc (.cells #[.int .i64 s.r, .int .i64 s.q, .int .i64 s.p, .slice none 0 0, .slice none 0 0, .slice none 0 0] 43)))
  have R1 := hik (rowIs_keep (rowNn (w.alloc (.cells #[.int .i64 s.r, .int .i64 s.q, .int .i64 s.p, .slice a.cA s.nA a.pA, .slice a.cB s.nB a.pB, .slice a.cC s.nC a.pC] 25)) 6 #[.int .i64 0, .int .i64 0, .int .i64 0, .slice none 0 0, .slice none 0 0, .slice none 0 0] 43 rfl) ((Chg.refl nob _).alloc (.cells #[.int .i64 s.r, .int .i64 s.q, .int .i64 s.p, .slice none 0 0, .slice none 0 0, .slice none 0 0] 43)))
  have R2 := hik (rowNn ((w.alloc (.cells #[.int .i64 s.r, .int .i64 s.q, .int .i64 s.p, .slice a.cA s.nA a.pA, .slice a.cB s.nB a.pB, .slice a.cC s.nC a.pC] 25)).alloc (.cells #[.int .i64 0, .int .i64 0, .int .i64 0, .slice none 0 0, .slice none 0 0, .slice none 0 0] 43)) 6 #[.int .i64 s.r, .int .i64 s.q, .int .i64 s.p, .slice none 0 0, .slice none 0 0, .slice none 0 0] 43 rfl)
  rw [asz1] at R1
  rw [asz1, asz1] at R2
  go_enter Tryz.func7, Tryz.ntmps7
  go_wp2_with fail
  generalize hW : (((w.alloc (.cells #[.int .i64 s.r, .int .i64 s.q, .int .i64 s.p, .slice a.cA s.nA a.pA, .slice a.cB s.nB a.pB, .slice a.cC s.nC a.pC] 25)).alloc (.cells #[.int .i64 0, .int .i64 0, .int .i64 0, .slice none 0 0, .slice none 0 0, .slice none 0 0] 43)).alloc (.cells #[.int .i64 s.r, .int .i64 s.q, .int .i64 s.p, .slice none 0 0, .slice none 0 0, .slice none 0 0] 43)) = W0 at K0 R0 R1 R2 ⊢
  clear hW
  refine (toEntryS_any a.cA s.nA a.pA s.XA _ (hik (h.out.A.keep K0.out)) hs.1).mono ?_
  rintro e W1 ⟨rfl, r1, k1⟩
  have HBA := hik (show w.heap.size + 1 + 1 < W0.heap.size from R2.out.lt)
  have OA := hik r1
  replace R0 := hik (rowIs_keep R0.out k1)
  replace R1 := hik (rowIs_keep R1.out k1)
  replace R2 := hik (rowIs_keep R2.out k1)
  replace K0 := hik (K0.out.trans k1)
  clear k1 r1
  generalize W0.heap.size = bA at OA HBA  ⊢
  have y0 : _ = some (.slice none 0 0 : Value) := R2.out.cell (i := 3) (by omega)
  have v0 := R2.out.frozen 3
  have z2 := R2.out.lt
  replace R0 := hik (R0.out.setOther (a := ⟨w.heap.size + 1 + 1, 3, none⟩) (show w.heap.size ≠ w.heap.size + 1 + 1 by omega) (.slice (some ⟨bA, 0, none⟩) s.nA s.nA))
  replace R1 := hik (R1.out.setOther (a := ⟨w.heap.size + 1 + 1, 3, none⟩) (show w.heap.size + 1 ≠ w.heap.size + 1 + 1 by omega) (.slice (some ⟨bA, 0, none⟩) s.nA s.nA))
  replace R2 := hik ((R2.out.set 3 (.slice (some ⟨bA, 0, none⟩) s.nA s.nA)).congr (g := (fun i => (#[.int .i64 s.r, .int .i64 s.q, .int .i64 s.p, .slice (some ⟨bA, 0, none⟩) s.nA s.nA, .slice none 0 0, .slice none 0 0] : Array Value).getD i undef)) (fun i hi => by
    have hi' : i < 6 := hi
    rcases (show i = 0 ∨ i = 1 ∨ i = 2 ∨ i = 3 ∨ i = 4 ∨ i = 5 by omega) with rfl | rfl | rfl | rfl | rfl | rfl <;> rfl))
  replace OA := hik (OA.out.setOther (a := ⟨w.heap.size + 1 + 1, 3, none⟩) (show bA ≠ w.heap.size + 1 + 1 by have := HBA.out; omega) (.slice (some ⟨bA, 0, none⟩) s.nA s.nA))
  replace K0 := hik (K0.out.setCell (p := ⟨w.heap.size + 1 + 1, 3, none⟩) (fun l => absurd (show w.heap.size + 1 + 1 < w.heap.size from l) (by omega)) (.slice (some ⟨bA, 0, none⟩) s.nA s.nA))
  have SS := hik (show (W1.setCell ⟨w.heap.size + 1 + 1, 3, none⟩ (.slice (some ⟨bA, 0, none⟩) s.nA s.nA)).heap.size = W1.heap.size by simp)
  have x4 : _ = some (.slice a.cB s.nB a.pB : Value) := R0.out.cell (i := 4) (by omega)
  have z0 := R0.out.lt
  go_wp2_with fail
  generalize hW : W1.setCell ⟨w.heap.size + 1 + 1, 3, none⟩ (.slice (some ⟨bA, 0, none⟩) s.nA s.nA) = V1 at R0 R1 R2 K0 SS OA x4 z0 ⊢
  clear hW y0 v0 z2 x4 z0
  refine (toEntryS_any a.cB s.nB a.pB s.XB _ (hik (h.out.B.keep K0.out)) hs.2.1).mono ?_
  rintro e W2 ⟨rfl, r2, k2⟩
  have HBB := hik (show w.heap.size + 1 + 1 < V1.heap.size from R2.out.lt)
  have HLB := hik (show bA < V1.heap.size from OA.out.lt)
  have OB := hik r2
  replace OA := hik (rowIs_keep OA.out k2)
  replace R0 := hik (rowIs_keep R0.out k2)
  replace R1 := hik (rowIs_keep R1.out k2)
  replace R2 := hik (rowIs_keep R2.out k2)
  replace K0 := hik (K0.out.trans k2)
  clear k2 r2
  generalize V1.heap.size = bB at OB HBB HLB ⊢
  have y0 : _ = some (.slice none 0 0 : Value) := R2.out.cell (i := 4) (by omega)
  have v0 := R2.out.frozen 4
  have z2 := R2.out.lt
  replace R0 := hik (R0.out.setOther (a := ⟨w.heap.size + 1 + 1, 4, none⟩) (show w.heap.size ≠ w.heap.size + 1 + 1 by omega) (.slice (some ⟨bB, 0, none⟩) s.nB s.nB))
  replace R1 := hik (R1.out.setOther (a := ⟨w.heap.size + 1 + 1, 4, none⟩) (show w.heap.size + 1 ≠ w.heap.size + 1 + 1 by omega) (.slice (some ⟨bB, 0, none⟩) s.nB s.nB))
  replace R2 := hik ((R2.out.set 4 (.slice (some ⟨bB, 0, none⟩) s.nB s.nB)).congr (g := (fun i => (#[.int .i64 s.r, .int .i64 s.q, .int .i64 s.p, .slice (some ⟨bA, 0, none⟩) s.nA s.nA, .slice (some ⟨bB, 0, none⟩) s.nB s.nB, .slice none 0 0] : Array Value).getD i undef)) (fun i hi => by
    have hi' : i < 6 := hi
    rcases (show i = 0 ∨ i = 1 ∨ i = 2 ∨ i = 3 ∨ i = 4 ∨ i = 5 by omega) with rfl | rfl | rfl | rfl | rfl | rfl <;> rfl))
  replace OA := hik (OA.out.setOther (a := ⟨w.heap.size + 1 + 1, 4, none⟩) (show bA ≠ w.heap.size + 1 + 1 by have := HBA.out; omega) (.slice (some ⟨bB, 0, none⟩) s.nB s.nB))
  replace OB := hik (OB.out.setOther (a := ⟨w.heap.size + 1 + 1, 4, none⟩) (show bB ≠ w.heap.size + 1 + 1 by have := HBB.out; omega) (.slice (some ⟨bB, 0, none⟩) s.nB s.nB))
  replace K0 := hik (K0.out.setCell (p := ⟨w.heap.size + 1 + 1, 4, none⟩) (fun l => absurd (show w.heap.size + 1 + 1 < w.heap.size from l) (by omega)) (.slice (some ⟨bB, 0, none⟩) s.nB s.nB))
  have SS := hik (show (W2.setCell ⟨w.heap.size + 1 + 1, 4, none⟩ (.slice (some ⟨bB, 0, none⟩) s.nB s.nB)).heap.size = W2.heap.size by simp)
  have x5 : _ = some (.slice a.cC s.nC a.pC : Value) := R0.out.cell (i := 5) (by omega)
  have z0 := R0.out.lt
  go_wp2_with fail
  generalize hW : W2.setCell ⟨w.heap.size + 1 + 1, 4, none⟩ (.slice (some ⟨bB, 0, none⟩) s.nB s.nB) = V2 at R0 R1 R2 K0 SS OA OB x5 z0 ⊢
  clear hW y0 v0 z2 x5 z0
  refine (toEntryS_any a.cC s.nC a.pC s.XC _ (hik (h.out.C.keep K0.out)) hs.2.2).mono ?_
  rintro e W3 ⟨rfl, r3, k3⟩
  have HBC := hik (show w.heap.size + 1 + 1 < V2.heap.size from R2.out.lt)
  have HLC := hik (show bB < V2.heap.size from OB.out.lt)
  have OC := hik r3
  replace OA := hik (rowIs_keep OA.out k3)
  replace OB := hik (rowIs_keep OB.out k3)
  replace R0 := hik (rowIs_keep R0.out k3)
  replace R1 := hik (rowIs_keep R1.out k3)
  replace R2 := hik (rowIs_keep R2.out k3)
  replace K0 := hik (K0.out.trans k3)
  clear k3 r3
  generalize V2.heap.size = bC at OC HBC HLC ⊢
  have y0 : _ = some (.slice none 0 0 : Value) := R2.out.cell (i := 5) (by omega)
  have v0 := R2.out.frozen 5
  have z2 := R2.out.lt
  replace R0 := hik (R0.out.setOther (a := ⟨w.heap.size + 1 + 1, 5, none⟩) (show w.heap.size ≠ w.heap.size + 1 + 1 by omega) (.slice (some ⟨bC, 0, none⟩) s.nC s.nC))
  replace R1 := hik (R1.out.setOther (a := ⟨w.heap.size + 1 + 1, 5, none⟩) (show w.heap.size + 1 ≠ w.heap.size + 1 + 1 by omega) (.slice (some ⟨bC, 0, none⟩) s.nC s.nC))
  replace R2 := hik ((R2.out.set 5 (.slice (some ⟨bC, 0, none⟩) s.nC s.nC)).congr (g := (fun i => (#[.int .i64 s.r, .int .i64 s.q, .int .i64 s.p, .slice (some ⟨bA, 0, none⟩) s.nA s.nA, .slice (some ⟨bB, 0, none⟩) s.nB s.nB, .slice (some ⟨bC, 0, none⟩) s.nC s.nC] : Array Value).getD i undef)) (fun i hi => by
    have hi' : i < 6 := hi
    rcases (show i = 0 ∨ i = 1 ∨ i = 2 ∨ i = 3 ∨ i = 4 ∨ i = 5 by omega) with rfl | rfl | rfl | rfl | rfl | rfl <;> rfl))
  replace OA := hik (OA.out.setOther (a := ⟨w.heap.size + 1 + 1, 5, none⟩) (show bA ≠ w.heap.size + 1 + 1 by have := HBA.out; omega) (.slice (some ⟨bC, 0, none⟩) s.nC s.nC))
  replace OB := hik (OB.out.setOther (a := ⟨w.heap.size + 1 + 1, 5, none⟩) (show bB ≠ w.heap.size + 1 + 1 by have := HBB.out; omega) (.slice (some ⟨bC, 0, none⟩) s.nC s.nC))
  replace OC := hik (OC.out.setOther (a := ⟨w.heap.size + 1 + 1, 5, none⟩) (show bC ≠ w.heap.size + 1 + 1 by have := HBC.out; omega) (.slice (some ⟨bC, 0, none⟩) s.nC s.nC))
  replace K0 := hik (K0.out.setCell (p := ⟨w.heap.size + 1 + 1, 5, none⟩) (fun l => absurd (show w.heap.size + 1 + 1 < w.heap.size from l) (by omega)) (.slice (some ⟨bC, 0, none⟩) s.nC s.nC))
  have SS := hik (show (W3.setCell ⟨w.heap.size + 1 + 1, 5, none⟩ (.slice (some ⟨bC, 0, none⟩) s.nC s.nC)).heap.size = W3.heap.size by simp)
  go_upto_region 8 with fail
  generalize hW : W3.setCell ⟨w.heap.size + 1 + 1, 5, none⟩ (.slice (some ⟨bC, 0, none⟩) s.nC s.nC) = V3 at R0 R1 R2 K0 SS OA OB OC ⊢
  clear hW y0 v0 z2
  have y0 : _ = some (.int .i64 s.r : Value) := R2.out.cell (i := 0) (by omega)
  have u0 : _ = some (.int .i64 0 : Value) := R1.out.cell (i := 0) (by omega)
  have f0 := R1.out.frozen 0
  have y1 : _ = some (.int .i64 s.q : Value) := R2.out.cell (i := 1) (by omega)
  have u1 : _ = some (.int .i64 0 : Value) := R1.out.cell (i := 1) (by omega)
  have f1 := R1.out.frozen 1
  have y2 : _ = some (.int .i64 s.p : Value) := R2.out.cell (i := 2) (by omega)
  have u2 : _ = some (.int .i64 0 : Value) := R1.out.cell (i := 2) (by omega)
  have f2 := R1.out.frozen 2
  have y3 : _ = some (.slice (some ⟨bA, 0, none⟩) s.nA s.nA : Value) := R2.out.cell (i := 3) (by omega)
  have u3 : _ = some (.slice none 0 0 : Value) := R1.out.cell (i := 3) (by omega)
  have f3 := R1.out.frozen 3
  have y4 : _ = some (.slice (some ⟨bB, 0, none⟩) s.nB s.nB : Value) := R2.out.cell (i := 4) (by omega)
  have u4 : _ = some (.slice none 0 0 : Value) := R1.out.cell (i := 4) (by omega)
  have f4 := R1.out.frozen 4
  have y5 : _ = some (.slice (some ⟨bC, 0, none⟩) s.nC s.nC : Value) := R2.out.cell (i := 5) (by omega)
  have u5 : _ = some (.slice none 0 0 : Value) := R1.out.cell (i := 5) (by omega)
  have f5 := R1.out.frozen 5
  have z1 := R1.out.lt
  have z2 := R2.out.lt
  have d0 : (V3.setCell ⟨w.heap.size + 1, 0, none⟩ (.int .i64 s.r)).cell? ⟨w.heap.size + 1, 0, none⟩ = some (.int .i64 s.r) := by have q := (R1.out.set 0 (.int .i64 s.r)).cell (i := 0) (by omega); simpa using q
  have d1 : ((V3.setCell ⟨w.heap.size + 1, 0, none⟩ (.int .i64 s.r)).setCell ⟨w.heap.size + 1, 1, none⟩ (.int .i64 s.q)).cell? ⟨w.heap.size + 1, 1, none⟩ = some (.int .i64 s.q) := by have q := ((R1.out.set 0 (.int .i64 s.r)).set 1 (.int .i64 s.q)).cell (i := 1) (by omega); simpa using q
  have d2 : (((V3.setCell ⟨w.heap.size + 1, 0, none⟩ (.int .i64 s.r)).setCell ⟨w.heap.size + 1, 1, none⟩ (.int .i64 s.q)).setCell ⟨w.heap.size + 1, 2, none⟩ (.int .i64 s.p)).cell? ⟨w.heap.size + 1, 2, none⟩ = some (.int .i64 s.p) := by have q := (((R1.out.set 0 (.int .i64 s.r)).set 1 (.int .i64 s.q)).set 2 (.int .i64 s.p)).cell (i := 2) (by omega); simpa using q
  have d3 : ((((V3.setCell ⟨w.heap.size + 1, 0, none⟩ (.int .i64 s.r)).setCell ⟨w.heap.size + 1, 1, none⟩ (.int .i64 s.q)).setCell ⟨w.heap.size + 1, 2, none⟩ (.int .i64 s.p)).setCell ⟨w.heap.size + 1, 3, none⟩ (.slice (some ⟨bA, 0, none⟩) s.nA s.nA)).cell? ⟨w.heap.size + 1, 3, none⟩ = some (.slice (some ⟨bA, 0, none⟩) s.nA s.nA) := by have q := ((((R1.out.set 0 (.int .i64 s.r)).set 1 (.int .i64 s.q)).set 2 (.int .i64 s.p)).set 3 (.slice (some ⟨bA, 0, none⟩) s.nA s.nA)).cell (i := 3) (by omega); simpa using q
  have d4 : (((((V3.setCell ⟨w.heap.size + 1, 0, none⟩ (.int .i64 s.r)).setCell ⟨w.heap.size + 1, 1, none⟩ (.int .i64 s.q)).setCell ⟨w.heap.size + 1, 2, none⟩ (.int .i64 s.p)).setCell ⟨w.heap.size + 1, 3, none⟩ (.slice (some ⟨bA, 0, none⟩) s.nA s.nA)).setCell ⟨w.heap.size + 1, 4, none⟩ (.slice (some ⟨bB, 0, none⟩) s.nB s.nB)).cell? ⟨w.heap.size + 1, 4, none⟩ = some (.slice (some ⟨bB, 0, none⟩) s.nB s.nB) := by have q := (((((R1.out.set 0 (.int .i64 s.r)).set 1 (.int .i64 s.q)).set 2 (.int .i64 s.p)).set 3 (.slice (some ⟨bA, 0, none⟩) s.nA s.nA)).set 4 (.slice (some ⟨bB, 0, none⟩) s.nB s.nB)).cell (i := 4) (by omega); simpa using q
  have d5 : ((((((V3.setCell ⟨w.heap.size + 1, 0, none⟩ (.int .i64 s.r)).setCell ⟨w.heap.size + 1, 1, none⟩ (.int .i64 s.q)).setCell ⟨w.heap.size + 1, 2, none⟩ (.int .i64 s.p)).setCell ⟨w.heap.size + 1, 3, none⟩ (.slice (some ⟨bA, 0, none⟩) s.nA s.nA)).setCell ⟨w.heap.size + 1, 4, none⟩ (.slice (some ⟨bB, 0, none⟩) s.nB s.nB)).setCell ⟨w.heap.size + 1, 5, none⟩ (.slice (some ⟨bC, 0, none⟩) s.nC s.nC)).cell? ⟨w.heap.size + 1, 5, none⟩ = some (.slice (some ⟨bC, 0, none⟩) s.nC s.nC) := by have q := ((((((R1.out.set 0 (.int .i64 s.r)).set 1 (.int .i64 s.q)).set 2 (.int .i64 s.p)).set 3 (.slice (some ⟨bA, 0, none⟩) s.nA s.nA)).set 4 (.slice (some ⟨bB, 0, none⟩) s.nB s.nB)).set 5 (.slice (some ⟨bC, 0, none⟩) s.nC s.nC)).cell (i := 5) (by omega); simpa using q
  have kS := hik (((((((Chg.refl (fun y => y = w.heap.size + 1) V3).setCell (p := ⟨w.heap.size + 1, 0, none⟩) (fun _ => rfl) (.int .i64 s.r)).setCell (p := ⟨w.heap.size + 1, 1, none⟩) (fun _ => rfl) (.int .i64 s.q)).setCell (p := ⟨w.heap.size + 1, 2, none⟩) (fun _ => rfl) (.int .i64 s.p)).setCell (p := ⟨w.heap.size + 1, 3, none⟩) (fun _ => rfl) (.slice (some ⟨bA, 0, none⟩) s.nA s.nA)).setCell (p := ⟨w.heap.size + 1, 4, none⟩) (fun _ => rfl) (.slice (some ⟨bB, 0, none⟩) s.nB s.nB)).setCell (p := ⟨w.heap.size + 1, 5, none⟩) (fun _ => rfl) (.slice (some ⟨bC, 0, none⟩) s.nC s.nC))
  replace OA := hik (rowIs_chg OA.out kS.out (show ¬ bA = w.heap.size + 1 by have := HBA.out; omega))
  replace OB := hik (rowIs_chg OB.out kS.out (show ¬ bB = w.heap.size + 1 by have := HBB.out; omega))
  replace OC := hik (rowIs_chg OC.out kS.out (show ¬ bC = w.heap.size + 1 by have := HBC.out; omega))
  replace K0 := hik ((((((K0.out.setCell (p := ⟨w.heap.size + 1, 0, none⟩) (fun l => absurd (show w.heap.size + 1 < w.heap.size from l) (by omega)) (.int .i64 s.r)).setCell (p := ⟨w.heap.size + 1, 1, none⟩) (fun l => absurd (show w.heap.size + 1 < w.heap.size from l) (by omega)) (.int .i64 s.q)).setCell (p := ⟨w.heap.size + 1, 2, none⟩) (fun l => absurd (show w.heap.size + 1 < w.heap.size from l) (by omega)) (.int .i64 s.p)).setCell (p := ⟨w.heap.size + 1, 3, none⟩) (fun l => absurd (show w.heap.size + 1 < w.heap.size from l) (by omega)) (.slice (some ⟨bA, 0, none⟩) s.nA s.nA)).setCell (p := ⟨w.heap.size + 1, 4, none⟩) (fun l => absurd (show w.heap.size + 1 < w.heap.size from l) (by omega)) (.slice (some ⟨bB, 0, none⟩) s.nB s.nB)).setCell (p := ⟨w.heap.size + 1, 5, none⟩) (fun l => absurd (show w.heap.size + 1 < w.heap.size from l) (by omega)) (.slice (some ⟨bC, 0, none⟩) s.nC s.nC))
  go_wp2
  exact bodyPost_ret (v := .agg #[.int .i64 s.r, .int .i64 s.q, .int .i64 s.p, .slice (some ⟨bA, 0, none⟩) s.nA s.nA, .slice (some ⟨bB, 0, none⟩) s.nB s.nB, .slice (some ⟨bC, 0, none⟩) s.nC s.nC]) (by simp [results, Tryz.results7, go_sem, d0, d1, d2, d3, d4, d5]) rfl ⟨bA, bB, bC, rfl, by have := HBA.out; omega, HLB.out, HLC.out, OA.out, OB.out, OC.out, K0.out⟩

set_option maxHeartbeats 1000000 in
theorem szSystem_ok (s : Sy) (a : SyA) (l : Int) (w : World) (h0 : ((s.nA + s.nB + s.nC : Nat) : Int) ≤ l) (h1 : l ≤ 1048576) :
    Calls Tryz.prog 4 #[.agg #[.int .i64 s.r, .int .i64 s.q, .int .i64 s.p, .slice a.cA s.nA a.pA, .slice a.cB s.nB a.pB, .slice a.cC s.nC a.pC], .int .i64 l] w fun e w' => e = .returned (.int .i64 (l - s.nA - s.nB - s.nC)) ∧ Chg nob w w' := by
  have h2 : ¬ l - (s.nA : Int) < 0 := by omega
  have h3 : ¬ l - (s.nA : Int) - (s.nB : Int) < 0 := by omega
  have h4 : ¬ l - (s.nA : Int) - (s.nB : Int) - (s.nC : Int) < 0 := by omega
  go_enter Tryz.func4, Tryz.ntmps4
  go_wp2_with (go_at_call 17; refine (szEntryS_ok _ _ _ _ _ (by omega) (by omega)).mono ?_; rintro e w' ⟨rfl, rfl⟩)
  go_ret
  exact ⟨rfl, (Chg.refl _ _).alloc _⟩
set_option maxHeartbeats 1000000 in
theorem szSystem_no (s : Sy) (a : SyA) (l : Int) (w : World) (h0 : l < ((s.nA + s.nB + s.nC : Nat) : Int)) (h1 : l ≤ 1048576) (hl : 0 ≤ l) (hA : (s.nA : Int) ≤ 9223372036854775807) (hB : (s.nB : Int) ≤ 9223372036854775807) (hC : (s.nC : Int) ≤ 9223372036854775807) :
    Calls Tryz.prog 4 #[.agg #[.int .i64 s.r, .int .i64 s.q, .int .i64 s.p, .slice a.cA s.nA a.pA, .slice a.cB s.nB a.pB, .slice a.cC s.nC a.pC], .int .i64 l] w fun e w' => e = .returned (.int .i64 (-1)) ∧ Chg nob w w' := by
  by_cases h2 : l < (s.nA : Int)
  · go_enter Tryz.func4, Tryz.ntmps4
    go_wp2_with (go_at_call 17; refine (szEntryS_no _ _ _ _ _ h2 hl hA).mono ?_; rintro e w' ⟨rfl, rfl⟩)
    go_ret
    exact ⟨rfl, (Chg.refl _ _).alloc _⟩
  · have h3 : ¬ l - (s.nA : Int) < 0 := by omega
    by_cases h4 : l - (s.nA : Int) < (s.nB : Int)
    · go_enter Tryz.func4, Tryz.ntmps4
      go_wp2_with fail
      refine (szEntryS_ok a.cA s.nA a.pA l _ (by omega) (by omega)).mono ?_
      rintro e w' ⟨rfl, rfl⟩
      go_wp2_with fail
      refine (szEntryS_no a.cB s.nB a.pB _ _ h4 (by omega) hB).mono ?_
      rintro e w' ⟨rfl, rfl⟩
      go_wp2
      go_ret
      exact ⟨rfl, (Chg.refl _ _).alloc _⟩
    · have h5 : ¬ l - (s.nA : Int) - (s.nB : Int) < 0 := by omega
      have h6 : l - (s.nA : Int) - (s.nB : Int) < (s.nC : Int) := by omega
      go_enter Tryz.func4, Tryz.ntmps4
      go_wp2_with fail
      refine (szEntryS_ok a.cA s.nA a.pA l _ (by omega) (by omega)).mono ?_
      rintro e w' ⟨rfl, rfl⟩
      go_wp2_with fail
      refine (szEntryS_ok a.cB s.nB a.pB _ _ (by omega) (by omega)).mono ?_
      rintro e w' ⟨rfl, rfl⟩
      go_wp2_with fail
      refine (szEntryS_no a.cC s.nC a.pC _ _ h6 (by omega) hC).mono ?_
      rintro e w' ⟨rfl, rfl⟩
      go_wp2
      go_ret
      exact ⟨rfl, (Chg.refl _ _).alloc _⟩

set_option maxHeartbeats 2000000 in
theorem eqSystem_any (s : Sy) (a b : SyA) (w : World) (h : Hid (SyV w s a)) (h' : Hid (SyV w s b)) (hs : s.small) :
    Calls Tryz.prog 12 #[.agg #[.int .i64 s.r, .int .i64 s.q, .int .i64 s.p, .slice a.cA s.nA a.pA, .slice a.cB s.nB a.pB, .slice a.cC s.nC a.pC], .agg #[.int .i64 s.r, .int .i64 s.q, .int .i64 s.p, .slice b.cA s.nA b.pA, .slice b.cB s.nB b.pB, .slice b.cC s.nC b.pC]] w fun e w' => e = .returned (.bool true) ∧ Chg nob w w' := by
  obtain ⟨hA, hB, hC⟩ := hs
  have K0 := hik (((Chg.refl nob w).alloc (.cells #[.int .i64 s.r, .int .i64 s.q, .int .i64 s.p, .slice a.cA s.nA a.pA, .slice a.cB s.nB a.pB, .slice a.cC s.nC a.pC] 43)).alloc (.cells #[.int .i64 s.r, .int .i64 s.q, .int .i64 s.p, .slice b.cA s.nA b.pA, .slice b.cB s.nB b.pB, .slice b.cC s.nC b.pC] 43))
  go_enter Tryz.func12, Tryz.ntmps12
  go_wp2_with fail
  refine (eqEntryS_any a.cA b.cA s.nA a.pA b.pA s.XA _ (hik (h.out.A.keep K0.out)) (hik (h'.out.A.keep K0.out)) hA).mono ?_
  rintro e w1 ⟨rfl, k1⟩
  have K1 := hik (K0.out.trans k1)
  have x4 : w1.cell? ⟨w.heap.size, 4, none⟩ = some (.slice a.cB s.nB a.pB) := k1.look (by go_simp)
  have x5 : w1.cell? ⟨w.heap.size, 5, none⟩ = some (.slice a.cC s.nC a.pC) := k1.look (by go_simp)
  have y4 : w1.cell? ⟨w.heap.size + 1, 4, none⟩ = some (.slice b.cB s.nB b.pB) := k1.look (by go_simp)
  have y5 : w1.cell? ⟨w.heap.size + 1, 5, none⟩ = some (.slice b.cC s.nC b.pC) := k1.look (by go_simp)
  clear k1
  go_wp2_with fail
  refine (eqEntryS_any a.cB b.cB s.nB a.pB b.pB s.XB _ (hik (h.out.B.keep K1.out)) (hik (h'.out.B.keep K1.out)) hB).mono ?_
  rintro e w2 ⟨rfl, k2⟩
  have K2 := hik (K1.out.trans k2)
  replace x5 := k2.look x5
  replace y5 := k2.look y5
  clear k2 x4 y4
  go_wp2_with fail
  refine (eqEntryS_any a.cC b.cC s.nC a.pC b.pC s.XC _ (hik (h.out.C.keep K2.out)) (hik (h'.out.C.keep K2.out)) hC).mono ?_
  rintro e w3 ⟨rfl, k3⟩
  have K3 := hik (K2.out.trans k3)
  clear k3 x5 y5
  go_wp2
  go_ret
  exact ⟨rfl, K3.out⟩
/-- Rows of one's own as a system's lists. -/
theorem SyV.rows {w : World} {s : Sy} {bA bB bC pA pB pC : Nat} (hA : w.rowIs bA 87 (s.nA * 3) (tf s.XA)) (hB : w.rowIs bB 87 (s.nB * 3) (tf s.XB)) (hC : w.rowIs bC 87 (s.nC * 3) (tf s.XC)) : SyV w s ⟨some ⟨bA, 0, none⟩, some ⟨bB, 0, none⟩, some ⟨bC, 0, none⟩, pA, pB, pC⟩ :=
  ⟨EntV.of_row hA (Nat.le_refl _) (fun _ _ => rfl), EntV.of_row hB (Nat.le_refl _) (fun _ _ => rfl), EntV.of_row hC (Nat.le_refl _) (fun _ _ => rfl)⟩

end Go.Proofs.YtppiilbcnkphbaaGreat
