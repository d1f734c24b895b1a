/- Several texts in one: What a script draws, who draws, and what is left behind draws, by the program: contracts. Conditions: a right source, rows that can be read; the tables hold the shifts and the rounds' constants. · What a source draws, by the program: contracts. Conditions: a right source with draws left, rows that can be read; the tables hold the shifts and the rounds' constants. -/
import Derived.Test.YtccgjbdjbgefiaaGreatDoorBzbg
import Derived.Deep.RegionHeld3
import Derived.BigRegion
namespace Go.Proofs.YtccgjbdjbgefiaaGreatDoor
open Go.ChangeShapes Go.WideShapes Go.ChangeAt Go.RowKit
set_option linter.unusedVariables false
set_option maxRecDepth 100000
set_option linter.unusedSimpArgs false

set_option maxHeartbeats 2000000 in
theorem scriptDraw_any (c : Option Addr) (len cap m : Nat) (at' : Int) (f g : Nat → Int) (w : World) (h : Hid (PairV w c len f g)) (hm : m < len) (hl : len ≤ 64) (a0 : 0 ≤ at') (a1 : at' ≤ 1000000) (hmod : at'.tmod (len : Int) = (m : Int)) :
    Calls Tryz.prog 124 #[.agg #[.slice c len cap, .int .i64 at']] w fun e w' => e = .returned (.tuple #[.agg #[.int .i64 (f m), .int .i64 (g m)], .iface 135 (.agg #[.slice c len cap, .int .i64 (at' + 1)])]) ∧ Chg nob w w' := by
  obtain ⟨xb, xo, rfl, hxb, e1, e2⟩ := h.out m hm
  have hl0 : 0 < (len : Int) := by omega
  have hne : ¬ (len : Int) = 0 := by omega
  have hml : (m : Int) < (len : Int) := by omega
  have hn0 : ¬ len = 0 := by omega
  have hp0 : 0 < len := by omega
  go_enter Tryz.func124, Tryz.ntmps124
  go_wp2
  go_region
  go_wp2
  exact bodyPost_ret (v := .tuple #[.agg #[.int .i64 (f m), .int .i64 (g m)], .iface 135 (.agg #[.slice (some ⟨xb, xo, none⟩) len cap, .int .i64 (at' + 1)])]) (by simp [results, Tryz.results124, go_sem]) rfl ⟨rfl, (by repeat (first | with_reducible exact Chg.refl _ _ | with_reducible refine Chg.alloc ?_ _ | with_reducible refine Chg.drewN ?_ _ | with_reducible refine Chg.drew ?_ | with_reducible refine Chg.setCell ?_ (fun l => absurd l (by simp <;> omega)) _))⟩

/-- Who draws, as a value. -/
def whoV (c : Option Addr) (len cap : Nat) (at' : Int) (st : ByteArray) (ct : Int) : Value := if len = 0 then .iface 133 (.agg #[.string st, .int .i64 ct]) else .iface 135 (.agg #[.slice c len cap, .int .i64 at'])

set_option maxHeartbeats 1000000 in
theorem whoDraws_any (c : Option Addr) (len cap : Nat) (at' : Int) (st : ByteArray) (ct : Int) (w : World) (hl : len ≤ 64) :
    Calls Tryz.prog 92 #[.agg #[.slice c len cap, .int .i64 at', .string st, .int .i64 ct]] w fun e w' => e = .returned (whoV c len cap at' st ct) ∧ Chg nob w w' := by
  by_cases h0 : len = 0
  · subst h0
    go_enter Tryz.func92, Tryz.ntmps92
    go_wp2
    go_ret
    exact ⟨rfl, (Chg.refl _ _).alloc _⟩
  · have h1 : ((len : Int) == 0) = false := by simp; omega
    have E := hik (show whoV c len cap at' st ct = .iface 135 (.agg #[.slice c len cap, .int .i64 at']) from if_neg h0)
    go_enter Tryz.func92, Tryz.ntmps92
    go_wp2
    go_ret
    exact ⟨by rw [E.out]; rfl, (Chg.refl _ _).alloc _⟩

/-- What the switch on the sort of a drawer finds. -/
theorem ta_ss (v : Value) (w : World) : (Instr.typeAssert (.iface 133 v) 123 133 true).run Tryz.prog w = .ok (.tuple #[v, .bool true]) w := by kernel_rfl
theorem ta_cs (v : Value) (w : World) : (Instr.typeAssert (.iface 135 v) 123 133 true).run Tryz.prog w = .ok (.tuple #[.agg #[.string ⟨#[]⟩, .int .i64 0], .bool false]) w := by kernel_rfl
theorem ta_cc (v : Value) (w : World) : (Instr.typeAssert (.iface 135 v) 123 135 true).run Tryz.prog w = .ok (.tuple #[v, .bool true]) w := by kernel_rfl

set_option maxHeartbeats 2000000 in
theorem drawnTo_any (c : Option Addr) (len cap : Nat) (f g : Nat → Int) (at' : Int) (st : ByteArray) (ct : Int) (a2 c2 : Int) (w : World) (h : Hid (PairV w c len f g)) (hl : len ≤ 64) :
    Calls Tryz.prog 93 #[.agg #[.slice c len cap, .int .i64 at', .string st, .int .i64 ct], whoV c len cap a2 st c2] w fun e w' => SrAns w len f g (if len = 0 then at' else a2) st (if len = 0 then c2 else ct) e w' := by
  have t1 := ta_ss
  have t2 := ta_cs
  have t3 := ta_cc
  by_cases h0 : len = 0
  · subst h0
    rw [if_pos rfl, if_pos rfl, show whoV c 0 cap a2 st c2 = .iface 133 (.agg #[.string st, .int .i64 c2]) from rfl]
    go_enter Tryz.func93, Tryz.ntmps93
    go_wp2_with fail
    refine (copied_any c 0 cap f g at' st c2 _ (hik (h.out.keep ((((Chg.refl nob w).alloc _).alloc _).alloc _))) (by omega)).mono ?_
    rintro e W3 ⟨c3, cap3, rfl, o3, k3⟩
    have G3 := hik (((((Chg.refl nob w).alloc _).alloc _).alloc _).trans k3)
    have R1 := hik (rowIs_keep (World.rowIs.alloc (row4_new (w.alloc (.cells #[.slice c 0 cap, .int .i64 at', .string st, .int .i64 c2] 33)) (.slice none 0 0) (.int .i64 0) (.string ⟨#[]⟩) (.int .i64 0) 33) (.cells #[.string st, .int .i64 c2] 133)) k3)
    have R3 : Hid (W3.rowIs (w.heap.size + 1) 33 4 (pv4 (.slice none 0 0) (.int .i64 0) (.string ⟨#[]⟩) (.int .i64 0))) := hik (by simpa using R1.out)
    have O3 := hik o3
    clear k3 o3 R1 t1 t2 t3
    have hz3 : w.heap.size + 1 < W3.heap.size := R3.out.lt
    have y0 := R3.out.cell (i := 0) (by omega)
    have v0 := R3.out.frozen 0
    have y1 := R3.out.cell (i := 1) (by omega)
    have v1 := R3.out.frozen 1
    have y2 := R3.out.cell (i := 2) (by omega)
    have v2 := R3.out.frozen 2
    have y3 := R3.out.cell (i := 3) (by omega)
    have v3 := R3.out.frozen 3
    go_wp2
    exact bodyPost_ret (v := .agg #[.slice c3 0 cap3, .int .i64 at', .string st, .int .i64 c2]) (by simp [results, Tryz.results93, go_sem, row4_s0 R3.out (.slice c3 0 cap3), row4_s1 R3.out (.slice c3 0 cap3) (.int .i64 at'), row4_s2 R3.out (.slice c3 0 cap3) (.int .i64 at') (.string st), row4_s3 R3.out (.slice c3 0 cap3) (.int .i64 at') (.string st) (.int .i64 c2)]) rfl ⟨_, _, rfl, ((O3.out.chg (P := fun b => b = w.heap.size + 1) (chg4_set (Chg.refl (fun b => b = w.heap.size + 1) W3) (w.heap.size + 1) (fun _ => rfl) _ _ _ _) (fun b hb _ hp => (by simp at hb; omega))).low (B' := w.heap.size) (by simp; omega)), chg4_set G3.out _ (fun l => absurd l (by simp)) _ _ _ _⟩
  · rw [if_neg h0, if_neg h0, show whoV c len cap a2 st c2 = .iface 135 (.agg #[.slice c len cap, .int .i64 a2]) from if_neg h0]
    go_enter Tryz.func93, Tryz.ntmps93
    go_wp2_with fail
    refine (copied_any c len cap f g a2 st ct _ (hik (h.out.keep ((((Chg.refl nob w).alloc _).alloc _).alloc _))) (by omega)).mono ?_
    rintro e W3 ⟨c3, cap3, rfl, o3, k3⟩
    have G3 := hik (((((Chg.refl nob w).alloc _).alloc _).alloc _).trans k3)
    have R1 := hik (rowIs_keep (World.rowIs.alloc (row4_new (w.alloc (.cells #[.slice c len cap, .int .i64 a2, .string st, .int .i64 ct] 33)) (.slice none 0 0) (.int .i64 0) (.string ⟨#[]⟩) (.int .i64 0) 33) (.cells #[.slice c len cap, .int .i64 a2] 135)) k3)
    have R3 : Hid (W3.rowIs (w.heap.size + 1) 33 4 (pv4 (.slice none 0 0) (.int .i64 0) (.string ⟨#[]⟩) (.int .i64 0))) := hik (by simpa using R1.out)
    have O3 := hik o3
    clear k3 o3 R1 t1 t2 t3
    have hz3 : w.heap.size + 1 < W3.heap.size := R3.out.lt
    have y0 := R3.out.cell (i := 0) (by omega)
    have v0 := R3.out.frozen 0
    have y1 := R3.out.cell (i := 1) (by omega)
    have v1 := R3.out.frozen 1
    have y2 := R3.out.cell (i := 2) (by omega)
    have v2 := R3.out.frozen 2
    have y3 := R3.out.cell (i := 3) (by omega)
    have v3 := R3.out.frozen 3
    go_wp2
    exact bodyPost_ret (v := .agg #[.slice c3 len cap3, .int .i64 a2, .string st, .int .i64 ct]) (by simp [results, Tryz.results93, go_sem, row4_s0 R3.out (.slice c3 len cap3), row4_s1 R3.out (.slice c3 len cap3) (.int .i64 a2), row4_s2 R3.out (.slice c3 len cap3) (.int .i64 a2) (.string st), row4_s3 R3.out (.slice c3 len cap3) (.int .i64 a2) (.string st) (.int .i64 ct)]) rfl ⟨_, _, rfl, ((O3.out.chg (P := fun b => b = w.heap.size + 1) (chg4_set (Chg.refl (fun b => b = w.heap.size + 1) W3) (w.heap.size + 1) (fun _ => rfl) _ _ _ _) (fun b hb _ hp => (by simp at hb; omega))).low (B' := w.heap.size) (by simp; omega)), chg4_set G3.out _ (fun l => absurd l (by simp)) _ _ _ _⟩

end Go.Proofs.YtccgjbdjbgefiaaGreatDoor

namespace Go.Proofs.YtccgjbdjbgefiaaGreatDoor
open Go.ChangeShapes Go.WideShapes Go.ChangeAt Go.RowKit
set_option linter.unusedVariables false
set_option maxRecDepth 100000
set_option linter.unusedSimpArgs false

/-- A source of the call's own, and elements. -/
def SLAns (w : World) (n : Nat) (f g : Nat → Int) (at' : Int) (st : ByteArray) (ct : Int) (m : Nat) (p q : Nat → Int) (e : Ending) (w' : World) : Prop :=
  ∃ (c : Option Addr) (cap : Nat) (d : Option Addr) (cap' : Nat), e = .returned (.tuple #[.agg #[.slice c n cap, .int .i64 at', .string st, .int .i64 ct], .slice d m cap']) ∧ OwnE w' w.heap.size c n f g ∧ OwnE w' w.heap.size d m p q ∧ Chg nob w w'

theorem row2_at {W : World} {g g' : Nat} {t : TypeId} {n : Nat} {f : Nat → Value} (h : W.rowIs g' t n f) (hne : g' ≠ g) (j : Nat) (u v : Value) : ((W.setCell ⟨g, j, none⟩ u).setCell ⟨g, j + 1, none⟩ v).rowIs g' t n f :=
  (h.setOther (a := ⟨g, j, none⟩) hne u).setOther (a := ⟨g, j + 1, none⟩) hne v
/-- The methods behind the interface. -/
theorem md_s (nm : String) (v : Value) (w : World) (hnm : nm = ((Tryz.prog.info? 133).map (fun i => (i.methods.map (fun m => m.name)).getD 0 "")).getD "") : (method 259 133 v nm).run Tryz.prog w = .ok (119, v) w := by
  subst hnm
  kernel_rfl
theorem md_c (nm : String) (v : Value) (w : World) (hnm : nm = ((Tryz.prog.info? 133).map (fun i => (i.methods.map (fun m => m.name)).getD 0 "")).getD "") : (method 259 135 v nm).run Tryz.prog w = .ok (124, v) w := by
  subst hnm
  kernel_rfl

set_option maxHeartbeats 2000000 in
theorem drawing_any (c : Option Addr) (len cap n : Nat) (f g : Nat → Int) (at' : Int) (st : ByteArray) (ct : Int) (w : World) (htb : Hid (Tabs w)) (h : Hid (PairV w c len f g)) (hl : len ≤ 64) (hst : st.size = 32) (a0 : 0 ≤ at') (a1 : at' + n ≤ 1000000) (c0 : 0 ≤ ct) (c1 : ct + n ≤ 1000000) (hn : n ≤ 100) :
    Calls Tryz.prog 84 #[.agg #[.slice c len cap, .int .i64 at', .string st, .int .i64 ct], .int .i64 n] w fun e w' => SLAns w len f g (dnA len at' n) st (dnC len ct n) n (drE f len at' st ct) (drF g len at' st ct) e w' := by
  obtain ⟨i0, hi, hz0, hz1, hz2⟩ := info_parts infoExt
  have HI := hik hi
  have HZ0 := hik hz0
  have HZ1 := hik hz1
  have hb : i0.bytes * n ≤ 281474976710656 := by rw [hz2]; omega
  clear hi hz0 hz1 hz2
  have HA := hik (show 0 ≤ at' ∧ at' + n ≤ 1000000 ∧ 0 ≤ ct ∧ ct + n ≤ 1000000 from ⟨a0, a1, c0, c1⟩)
  clear a0 a1 c0 c1
  go_enter Tryz.func84, Tryz.ntmps84
  go_wp2_with (at_make; refine wpList_make_pairs _ rfl (.tmp 9) (.tmp 9) 30 rfl 31 i0 Tryz.underlying30 HI.out HZ0.out HZ1.out .i64 .i64 _ _ n rfl rfl rfl rfl hb (by omega) ?_)
  intro W0 hr hk
  have R0 : Hid (W0.rowIs (w.heap.size + 1 + 1) 31 (n * 2) (cpy (drE f len at' st ct) (drF g len at' st ct) 0)) := hik (World.rowIs.congr (by simpa using hr) (fun i _ => by simp [cpy, pf]))
  have G0 := hik ((((Chg.refl nob w).alloc _).alloc _).trans hk)
  have A0 := hik (rowIs_keep (World.rowIs.alloc (row4_new w (.slice c len cap) (.int .i64 at') (.string st) (.int .i64 ct) 33) (.cells #[.slice none 0 0, .int .i64 0, .string ⟨#[]⟩, .int .i64 0] 33)) hk)
  have Z0 : Hid (W0.rowIs (w.heap.size + 1) 33 4 (pv4 (.slice none 0 0) (.int .i64 0) (.string ⟨#[]⟩) (.int .i64 0))) := hik (by simpa using rowIs_keep (row4_new (w.alloc (.cells #[.slice c len cap, .int .i64 at', .string st, .int .i64 ct] 33)) (.slice none 0 0) (.int .i64 0) (.string ⟨#[]⟩) (.int .i64 0) 33) hk)
  clear hb HI HZ0 HZ1 hr hk
  have x0 : (W0).cell? ⟨w.heap.size, 0, none⟩ = some (.slice c len cap) := A0.out.cell (by omega)
  have x1 : (W0).cell? ⟨w.heap.size, 1, none⟩ = some (.int .i64 at') := A0.out.cell (by omega)
  have x2 : (W0).cell? ⟨w.heap.size, 2, none⟩ = some (.string st) := A0.out.cell (by omega)
  have x3 : (W0).cell? ⟨w.heap.size, 3, none⟩ = some (.int .i64 ct) := A0.out.cell (by omega)
  go_wp2_with fail
  refine (whoDraws_any c len cap at' st ct _ hl).mono ?_
  rintro e W1 ⟨rfl, k1⟩
  have R1 := hik (rowIs_keep R0.out k1)
  have G1 := hik (G0.out.trans k1)
  have A1 := hik (rowIs_keep A0.out k1)
  have Z1 := hik (rowIs_keep Z0.out k1)
  clear k1 R0 G0 A0 Z0 x0 x1 x2 x3
  go_wp2
  go_loopw [7, 15] (fun d v W => ∃ k : Nat, k ≤ n ∧ v = .int .i64 k ∧ d = whoV c len cap (dnA len at' k) st (dnC len ct k) ∧ Hid (W.rowIs (w.heap.size + 1 + 1) 31 (n * 2) (cpy (drE f len at' st ct) (drF g len at' st ct) k)) ∧ Hid (W.rowIs w.heap.size 33 4 (pv4 (.slice c len cap) (.int .i64 at') (.string st) (.int .i64 ct))) ∧ Hid (W.rowIs (w.heap.size + 1) 33 4 (pv4 (.slice none 0 0) (.int .i64 0) (.string ⟨#[]⟩) (.int .i64 0))) ∧ Hid (Chg nob w W)) (fun _ v _ => n - (intOf v).toNat)
  case atStart => exact ⟨0, Nat.zero_le _, rfl, by rw [dnA_zero, dnC_zero], R1, A1, Z1, G1⟩
  case round =>
    clear R1 A1 Z1 G1
    obtain ⟨k, hk, rfl, rfl, HR, HA2, HZ, HG⟩ := hrel
    by_cases hlt : k < n
    · have hlt' : (k : Int) < (n : Int) := by omega
      have k0 : (0 : Int) ≤ (k : Int) := by omega
      by_cases h0 : len = 0
      · subst h0
        rw [show whoV c 0 cap (dnA 0 at' k) st (dnC 0 ct k) = .iface 133 (.agg #[.string st, .int .i64 (dnC 0 ct k)]) from rfl]
        have EA := hik (show drA st (dnC 0 ct k) = drE f 0 at' st ct k from rfl)
        have EB := hik (show drB st (dnC 0 ct k) = drF g 0 at' st ct k from rfl)
        have EC := hik (show dnC 0 ct k + 1 = dnC 0 ct (k + 1) by unfold dnC; simp; omega)
        go_wp2_with fail
        rw [md_s]
        case hnm => kernel_rfl
        go_wp2_with fail
        refine (spongeDraw_any st (dnC 0 ct k) _ (hik (htb.out.keep HG.out)) hst (by have := HA.out; have := dnC_le 0 ct k; omega) (by have := HA.out; have := dnC_le 0 ct k; omega)).mono ?_
        rintro e W2 ⟨he, k2⟩
        rw [EA.out, EB.out, EC.out] at he
        subst he
        have HR2 := hik (rowIs_keep HR.out k2)
        have HA3 := hik (rowIs_keep HA2.out k2)
        have HZ2 := hik (rowIs_keep HZ.out k2)
        have HG2 := hik (HG.out.trans k2)
        have g0 := HR2.out.cell (i := k * 2) (by omega)
        have g1 := HR2.out.cell (i := k * 2 + 1) (by omega)
        have f0 := HR2.out.frozen (k * 2)
        have f1 := HR2.out.frozen (k * 2 + 1)
        clear k2 HR HA2 HZ HG
        go_wp2
        have NR := hik (cpy_set HR2.out)
        have NA := hik (row2_at (HA3.out) (show w.heap.size ≠ w.heap.size + 1 + 1 by omega) (k * 2) (.int .i64 (drE f 0 at' st ct k)) (.int .i64 (drF g 0 at' st ct k)))
        have NZ := hik (row2_at (HZ2.out) (show w.heap.size + 1 ≠ w.heap.size + 1 + 1 by omega) (k * 2) (.int .i64 (drE f 0 at' st ct k)) (.int .i64 (drF g 0 at' st ct k)))
        have NG := hik ((HG2.out.setCell (p := ⟨w.heap.size + 1 + 1, k * 2, none⟩) (fun l => absurd l (by simp; omega)) (.int .i64 (drE f 0 at' st ct k))).setCell (p := ⟨w.heap.size + 1 + 1, k * 2 + 1, none⟩) (fun l => absurd l (by simp; omega)) (.int .i64 (drF g 0 at' st ct k)))
        clear HR2 HA3 HZ2 HG2
        go_roundw
        case rel => exact ⟨k + 1, by omega, by go_num, rfl, NR, NA, NZ, NG⟩
        case measure => simp [intOf]; omega
      · have WE := hik (show whoV c len cap (dnA len at' (k + 1)) st (dnC len ct (k + 1)) = .iface 135 (.agg #[.slice c len cap, .int .i64 (dnA len at' (k + 1))]) from if_neg h0)
        rw [show whoV c len cap (dnA len at' k) st (dnC len ct k) = .iface 135 (.agg #[.slice c len cap, .int .i64 (dnA len at' k)]) from if_neg h0]
        have hpos : 0 < len := by omega
        have eA : dnA len at' k = at' + k := by unfold dnA; rw [if_pos hpos]
        have EA := hik (show f ((dnA len at' k).toNat % len) = drE f len at' st ct k by unfold drE; rw [if_pos hpos, eA])
        have EB := hik (show g ((dnA len at' k).toNat % len) = drF g len at' st ct k by unfold drF; rw [if_pos hpos, eA])
        have EC := hik (show dnA len at' k + 1 = dnA len at' (k + 1) by unfold dnA; rw [if_pos hpos, if_pos hpos]; omega)
        have TM := hik (tmod_nat (dnA len at' k) len (by have := HA.out; rw [eA]; omega) hpos)
        have HD := hik (show 0 ≤ dnA len at' k ∧ dnA len at' k ≤ 1000000 by have := HA.out; rw [eA]; omega)
        clear eA
        go_wp2_with fail
        rw [md_c]
        case hnm => kernel_rfl
        go_wp2_with fail
        refine (scriptDraw_any c len cap ((dnA len at' k).toNat % len) (dnA len at' k) f g _ (hik (h.out.keep HG.out)) (Nat.mod_lt _ hpos) hl HD.out.1 HD.out.2 TM.out).mono ?_
        rintro e W2 ⟨he, k2⟩
        rw [EA.out, EB.out, EC.out] at he
        subst he
        have HR2 := hik (rowIs_keep HR.out k2)
        have HA3 := hik (rowIs_keep HA2.out k2)
        have HZ2 := hik (rowIs_keep HZ.out k2)
        have HG2 := hik (HG.out.trans k2)
        have g0 := HR2.out.cell (i := k * 2) (by omega)
        have g1 := HR2.out.cell (i := k * 2 + 1) (by omega)
        have f0 := HR2.out.frozen (k * 2)
        have f1 := HR2.out.frozen (k * 2 + 1)
        clear k2 HR HA2 HZ HG
        go_wp2
        have NR := hik (cpy_set HR2.out)
        have NA := hik (row2_at (HA3.out) (show w.heap.size ≠ w.heap.size + 1 + 1 by omega) (k * 2) (.int .i64 (drE f len at' st ct k)) (.int .i64 (drF g len at' st ct k)))
        have NZ := hik (row2_at (HZ2.out) (show w.heap.size + 1 ≠ w.heap.size + 1 + 1 by omega) (k * 2) (.int .i64 (drE f len at' st ct k)) (.int .i64 (drF g len at' st ct k)))
        have NG := hik ((HG2.out.setCell (p := ⟨w.heap.size + 1 + 1, k * 2, none⟩) (fun l => absurd l (by simp; omega)) (.int .i64 (drE f len at' st ct k))).setCell (p := ⟨w.heap.size + 1 + 1, k * 2 + 1, none⟩) (fun l => absurd l (by simp; omega)) (.int .i64 (drF g len at' st ct k)))
        clear HR2 HA3 HZ2 HG2
        go_roundw
        case rel => exact ⟨k + 1, by omega, by go_num, WE.out.symm, NR, NA, NZ, NG⟩
        case measure => simp [intOf]; omega
    · obtain rfl : k = n := by omega
      have hz : w.heap.size < wr.heap.size := HA2.out.lt
      have x0 : (wr).cell? ⟨w.heap.size, 0, none⟩ = some (.slice c len cap) := HA2.out.cell (by omega)
      have x1 : (wr).cell? ⟨w.heap.size, 1, none⟩ = some (.int .i64 at') := HA2.out.cell (by omega)
      have x2 : (wr).cell? ⟨w.heap.size, 2, none⟩ = some (.string st) := HA2.out.cell (by omega)
      have x3 : (wr).cell? ⟨w.heap.size, 3, none⟩ = some (.int .i64 ct) := HA2.out.cell (by omega)
      go_wp2_with fail
      refine (drawnTo_any c len cap f g at' st ct (dnA len at' k) (dnC len ct k) _ (hik (h.out.keep HG.out)) hl).mono ?_
      rintro e W2 ⟨c2, cap2, he, o2, k2⟩
      have EA : (if len = 0 then at' else dnA len at' k) = dnA len at' k := by unfold dnA; by_cases h0 : len = 0 <;> simp [h0]
      have EC : (if len = 0 then dnC len ct k else ct) = dnC len ct k := by unfold dnC; by_cases h0 : len = 0 <;> simp [h0]
      rw [EA, EC] at he
      subst he
      have R2 := hik (rowIs_keep HR.out k2)
      have Z2 := hik (rowIs_keep HZ.out k2)
      have G2 := hik (HG.out.trans k2)
      have O2 := hik o2
      have LW := hik (show w.heap.size + 1 + 1 < wr.heap.size from HR.out.lt)
      clear k2 o2 EA EC x0 x1 x2 x3 hz HR HA2 HZ HG
      have hz3 : w.heap.size + 1 < W2.heap.size := Z2.out.lt
      have y0 := Z2.out.cell (i := 0) (by omega)
      have y1 := Z2.out.cell (i := 1) (by omega)
      have y2 := Z2.out.cell (i := 2) (by omega)
      have y3 := Z2.out.cell (i := 3) (by omega)
      have v0 := Z2.out.frozen 0
      have v1 := Z2.out.frozen 1
      have v2 := Z2.out.frozen 2
      have v3 := Z2.out.frozen 3
      go_wp2
      have RL := hik (row4_other (g := w.heap.size + 1) R2.out (by omega) (.slice c2 len cap2) (.int .i64 (dnA len at' k)) (.string st) (.int .i64 (dnC len ct k)))
      exact bodyPost_ret (v := .tuple #[.agg #[.slice c2 len cap2, .int .i64 (dnA len at' k), .string st, .int .i64 (dnC len ct k)], .slice (some ⟨w.heap.size + 1 + 1, 0, none⟩) k k]) (by simp [results, Tryz.results84, go_sem, row4_s0 Z2.out (.slice c2 len cap2), row4_s1 Z2.out (.slice c2 len cap2) (.int .i64 (dnA len at' k)), row4_s2 Z2.out (.slice c2 len cap2) (.int .i64 (dnA len at' k)) (.string st), row4_s3 Z2.out (.slice c2 len cap2) (.int .i64 (dnA len at' k)) (.string st) (.int .i64 (dnC len ct k))]) rfl ⟨_, _, _, _, rfl, ((O2.out.chg (P := fun b => b = w.heap.size + 1) (chg4_set (Chg.refl (fun b => b = w.heap.size + 1) W2) (w.heap.size + 1) (fun _ => rfl) _ _ _ _) (fun b hb _ hp => (by have := LW.out; omega))).low (B' := w.heap.size) (by have := LW.out; omega)), OwnE.of_row (RL.out.congr (fun i hi => by simp [cpy, hi])) (by omega), chg4_set G2.out _ (fun l => absurd l (by simp)) _ _ _ _⟩

end Go.Proofs.YtccgjbdjbgefiaaGreatDoor
