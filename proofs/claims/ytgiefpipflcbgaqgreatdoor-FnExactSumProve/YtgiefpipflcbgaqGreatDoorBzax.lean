/- Several texts in one: What a source draws, by the program: contracts. Conditions: a right source with draws left, rows that can be read; the tables hold the shifts and the rounds' constants. · What right sources draw, by the program: contracts. Conditions: right sources with draws left, rows that can be read; the tables hold the shifts and the rounds' constants. -/
import Derived.Test.YtgiefpipflcbgaqGreatDoorBzaz
import Derived.Test.YtgiefpipflcbgaqGreatDoorBzaw
namespace Go.Proofs.YtgiefpipflcbgaqGreatDoor
open Go.ChangeShapes Go.WideShapes Go.ChangeAt Go.RowKit
set_option linter.unusedVariables false
set_option maxRecDepth 100000
set_option linter.unusedSimpArgs false

/-- A source of the call's own, and elements. -/
def SLAns (w : World) (n : Nat) (f g : Nat → Int) (at' : Int) (st : ByteArray) (ct : Int) (m : Nat) (p q : Nat → Int) (e : Ending) (w' : World) : Prop :=
  ∃ (c : Option Addr) (cap : Nat) (d : Option Addr) (cap' : Nat), e = .returned (.tuple #[.agg #[.slice c n cap, .int .i64 at', .string st, .int .i64 ct], .slice d m cap']) ∧ OwnE w' w.heap.size c n f g ∧ OwnE w' w.heap.size d m p q ∧ Chg nob w w'

theorem row2_at {W : World} {g g' : Nat} {t : TypeId} {n : Nat} {f : Nat → Value} (h : W.rowIs g' t n f) (hne : g' ≠ g) (j : Nat) (u v : Value) : ((W.setCell ⟨g, j, none⟩ u).setCell ⟨g, j + 1, none⟩ v).rowIs g' t n f :=
  (h.setOther (a := ⟨g, j, none⟩) hne u).setOther (a := ⟨g, j + 1, none⟩) hne v
/-- The methods behind the interface. -/
theorem md_s (nm : String) (v : Value) (w : World) (hnm : nm = ((Tryz.prog.info? 160).map (fun i => (i.methods.map (fun m => m.name)).getD 0 "")).getD "") : (method 281 160 v nm).run Tryz.prog w = .ok (148, v) w := by
  subst hnm
  kernel_rfl
theorem md_c (nm : String) (v : Value) (w : World) (hnm : nm = ((Tryz.prog.info? 160).map (fun i => (i.methods.map (fun m => m.name)).getD 0 "")).getD "") : (method 281 162 v nm).run Tryz.prog w = .ok (153, v) w := by
  subst hnm
  kernel_rfl

set_option maxHeartbeats 2000000 in
theorem drawing_any (c : Option Addr) (len cap n : Nat) (f g : Nat → Int) (at' : Int) (st : ByteArray) (ct : Int) (w : World) (htb : Hid (Tabs w)) (h : Hid (PairV w c len f g)) (hl : len ≤ 64) (hst : st.size = 32) (a0 : 0 ≤ at') (a1 : at' + n ≤ 1000000) (c0 : 0 ≤ ct) (c1 : ct + n ≤ 1000000) (hn : n ≤ 100) :
    Calls Tryz.prog 111 #[.agg #[.slice c len cap, .int .i64 at', .string st, .int .i64 ct], .int .i64 n] w fun e w' => SLAns w len f g (dnA len at' n) st (dnC len ct n) n (drE f len at' st ct) (drF g len at' st ct) e w' := by
  obtain ⟨i0, hi, hz0, hz1, hz2⟩ := info_parts infoExt
  have HI := hik hi
  have HZ0 := hik hz0
  have HZ1 := hik hz1
  have hb : i0.bytes * n ≤ 281474976710656 := by rw [hz2]; omega
  clear hi hz0 hz1 hz2
  have HA := hik (show 0 ≤ at' ∧ at' + n ≤ 1000000 ∧ 0 ≤ ct ∧ ct + n ≤ 1000000 from ⟨a0, a1, c0, c1⟩)
  clear a0 a1 c0 c1
  go_enter Tryz.func111, Tryz.ntmps111
  go_wp2_with (at_make; refine wpList_make_pairs _ rfl (.tmp 9) (.tmp 9) 29 rfl 45 i0 Tryz.underlying29 HI.out HZ0.out HZ1.out .i64 .i64 _ _ n rfl rfl rfl rfl hb (by omega) ?_)
  intro W0 hr hk
  have R0 : Hid (W0.rowIs (w.heap.size + 1 + 1) 45 (n * 2) (cpy (drE f len at' st ct) (drF g len at' st ct) 0)) := hik (World.rowIs.congr (by simpa using hr) (fun i _ => by simp [cpy, pf]))
  have G0 := hik ((((Chg.refl nob w).alloc _).alloc _).trans hk)
  have A0 := hik (rowIs_keep (World.rowIs.alloc (row4_new w (.slice c len cap) (.int .i64 at') (.string st) (.int .i64 ct) 31) (.cells #[.slice none 0 0, .int .i64 0, .string ⟨#[]⟩, .int .i64 0] 31)) hk)
  have Z0 : Hid (W0.rowIs (w.heap.size + 1) 31 4 (pv4 (.slice none 0 0) (.int .i64 0) (.string ⟨#[]⟩) (.int .i64 0))) := hik (by simpa using rowIs_keep (row4_new (w.alloc (.cells #[.slice c len cap, .int .i64 at', .string st, .int .i64 ct] 31)) (.slice none 0 0) (.int .i64 0) (.string ⟨#[]⟩) (.int .i64 0) 31) hk)
  clear hb HI HZ0 HZ1 hr hk
  have x0 : (W0).cell? ⟨w.heap.size, 0, none⟩ = some (.slice c len cap) := A0.out.cell (by omega)
  have x1 : (W0).cell? ⟨w.heap.size, 1, none⟩ = some (.int .i64 at') := A0.out.cell (by omega)
  have x2 : (W0).cell? ⟨w.heap.size, 2, none⟩ = some (.string st) := A0.out.cell (by omega)
  have x3 : (W0).cell? ⟨w.heap.size, 3, none⟩ = some (.int .i64 ct) := A0.out.cell (by omega)
  go_wp2_with fail
  refine (whoDraws_any c len cap at' st ct _ hl).mono ?_
  rintro e W1 ⟨rfl, k1⟩
  have R1 := hik (rowIs_keep R0.out k1)
  have G1 := hik (G0.out.trans k1)
  have A1 := hik (rowIs_keep A0.out k1)
  have Z1 := hik (rowIs_keep Z0.out k1)
  clear k1 R0 G0 A0 Z0 x0 x1 x2 x3
  go_wp2
  go_loopw [7, 15] (fun d v W => ∃ k : Nat, k ≤ n ∧ v = .int .i64 k ∧ d = whoV c len cap (dnA len at' k) st (dnC len ct k) ∧ Hid (W.rowIs (w.heap.size + 1 + 1) 45 (n * 2) (cpy (drE f len at' st ct) (drF g len at' st ct) k)) ∧ Hid (W.rowIs w.heap.size 31 4 (pv4 (.slice c len cap) (.int .i64 at') (.string st) (.int .i64 ct))) ∧ Hid (W.rowIs (w.heap.size + 1) 31 4 (pv4 (.slice none 0 0) (.int .i64 0) (.string ⟨#[]⟩) (.int .i64 0))) ∧ Hid (Chg nob w W)) (fun _ v _ => n - (intOf v).toNat)
  case atStart => exact ⟨0, Nat.zero_le _, rfl, by rw [dnA_zero, dnC_zero], R1, A1, Z1, G1⟩
  case round =>
    clear R1 A1 Z1 G1
    obtain ⟨k, hk, rfl, rfl, HR, HA2, HZ, HG⟩ := hrel
    by_cases hlt : k < n
    · have hlt' : (k : Int) < (n : Int) := by omega
      have k0 : (0 : Int) ≤ (k : Int) := by omega
      by_cases h0 : len = 0
      · subst h0
        rw [show whoV c 0 cap (dnA 0 at' k) st (dnC 0 ct k) = .iface 160 (.agg #[.string st, .int .i64 (dnC 0 ct k)]) from rfl]
        have EA := hik (show drA st (dnC 0 ct k) = drE f 0 at' st ct k from rfl)
        have EB := hik (show drB st (dnC 0 ct k) = drF g 0 at' st ct k from rfl)
        have EC := hik (show dnC 0 ct k + 1 = dnC 0 ct (k + 1) by unfold dnC; simp; omega)
        go_wp2_with fail
        rw [md_s]
        case hnm => kernel_rfl
        go_wp2_with fail
        refine (spongeDraw_any st (dnC 0 ct k) _ (hik (htb.out.keep HG.out)) hst (by have := HA.out; have := dnC_le 0 ct k; omega) (by have := HA.out; have := dnC_le 0 ct k; omega)).mono ?_
        rintro e W2 ⟨he, k2⟩
        rw [EA.out, EB.out, EC.out] at he
        subst he
        have HR2 := hik (rowIs_keep HR.out k2)
        have HA3 := hik (rowIs_keep HA2.out k2)
        have HZ2 := hik (rowIs_keep HZ.out k2)
        have HG2 := hik (HG.out.trans k2)
        have g0 := HR2.out.cell (i := k * 2) (by omega)
        have g1 := HR2.out.cell (i := k * 2 + 1) (by omega)
        have f0 := HR2.out.frozen (k * 2)
        have f1 := HR2.out.frozen (k * 2 + 1)
        clear k2 HR HA2 HZ HG
        go_wp2
        have NR := hik (cpy_set HR2.out)
        have NA := hik (row2_at (HA3.out) (show w.heap.size ≠ w.heap.size + 1 + 1 by omega) (k * 2) (.int .i64 (drE f 0 at' st ct k)) (.int .i64 (drF g 0 at' st ct k)))
        have NZ := hik (row2_at (HZ2.out) (show w.heap.size + 1 ≠ w.heap.size + 1 + 1 by omega) (k * 2) (.int .i64 (drE f 0 at' st ct k)) (.int .i64 (drF g 0 at' st ct k)))
        have NG := hik ((HG2.out.setCell (p := ⟨w.heap.size + 1 + 1, k * 2, none⟩) (fun l => absurd l (by simp; omega)) (.int .i64 (drE f 0 at' st ct k))).setCell (p := ⟨w.heap.size + 1 + 1, k * 2 + 1, none⟩) (fun l => absurd l (by simp; omega)) (.int .i64 (drF g 0 at' st ct k)))
        clear HR2 HA3 HZ2 HG2
        go_roundw
        case rel => exact ⟨k + 1, by omega, by go_num, rfl, NR, NA, NZ, NG⟩
        case measure => simp [intOf]; omega
      · have WE := hik (show whoV c len cap (dnA len at' (k + 1)) st (dnC len ct (k + 1)) = .iface 162 (.agg #[.slice c len cap, .int .i64 (dnA len at' (k + 1))]) from if_neg h0)
        rw [show whoV c len cap (dnA len at' k) st (dnC len ct k) = .iface 162 (.agg #[.slice c len cap, .int .i64 (dnA len at' k)]) from if_neg h0]
        have hpos : 0 < len := by omega
        have eA : dnA len at' k = at' + k := by unfold dnA; rw [if_pos hpos]
        have EA := hik (show f ((dnA len at' k).toNat % len) = drE f len at' st ct k by unfold drE; rw [if_pos hpos, eA])
        have EB := hik (show g ((dnA len at' k).toNat % len) = drF g len at' st ct k by unfold drF; rw [if_pos hpos, eA])
        have EC := hik (show dnA len at' k + 1 = dnA len at' (k + 1) by unfold dnA; rw [if_pos hpos, if_pos hpos]; omega)
        have TM := hik (tmod_nat (dnA len at' k) len (by have := HA.out; rw [eA]; omega) hpos)
        have HD := hik (show 0 ≤ dnA len at' k ∧ dnA len at' k ≤ 1000000 by have := HA.out; rw [eA]; omega)
        clear eA
        go_wp2_with fail
        rw [md_c]
        case hnm => kernel_rfl
        go_wp2_with fail
        refine (scriptDraw_any c len cap ((dnA len at' k).toNat % len) (dnA len at' k) f g _ (hik (h.out.keep HG.out)) (Nat.mod_lt _ hpos) hl HD.out.1 HD.out.2 TM.out).mono ?_
        rintro e W2 ⟨he, k2⟩
        rw [EA.out, EB.out, EC.out] at he
        subst he
        have HR2 := hik (rowIs_keep HR.out k2)
        have HA3 := hik (rowIs_keep HA2.out k2)
        have HZ2 := hik (rowIs_keep HZ.out k2)
        have HG2 := hik (HG.out.trans k2)
        have g0 := HR2.out.cell (i := k * 2) (by omega)
        have g1 := HR2.out.cell (i := k * 2 + 1) (by omega)
        have f0 := HR2.out.frozen (k * 2)
        have f1 := HR2.out.frozen (k * 2 + 1)
        clear k2 HR HA2 HZ HG
        go_wp2
        have NR := hik (cpy_set HR2.out)
        have NA := hik (row2_at (HA3.out) (show w.heap.size ≠ w.heap.size + 1 + 1 by omega) (k * 2) (.int .i64 (drE f len at' st ct k)) (.int .i64 (drF g len at' st ct k)))
        have NZ := hik (row2_at (HZ2.out) (show w.heap.size + 1 ≠ w.heap.size + 1 + 1 by omega) (k * 2) (.int .i64 (drE f len at' st ct k)) (.int .i64 (drF g len at' st ct k)))
        have NG := hik ((HG2.out.setCell (p := ⟨w.heap.size + 1 + 1, k * 2, none⟩) (fun l => absurd l (by simp; omega)) (.int .i64 (drE f len at' st ct k))).setCell (p := ⟨w.heap.size + 1 + 1, k * 2 + 1, none⟩) (fun l => absurd l (by simp; omega)) (.int .i64 (drF g len at' st ct k)))
        clear HR2 HA3 HZ2 HG2
        go_roundw
        case rel => exact ⟨k + 1, by omega, by go_num, WE.out.symm, NR, NA, NZ, NG⟩
        case measure => simp [intOf]; omega
    · obtain rfl : k = n := by omega
      have hz : w.heap.size < wr.heap.size := HA2.out.lt
      have x0 : (wr).cell? ⟨w.heap.size, 0, none⟩ = some (.slice c len cap) := HA2.out.cell (by omega)
      have x1 : (wr).cell? ⟨w.heap.size, 1, none⟩ = some (.int .i64 at') := HA2.out.cell (by omega)
      have x2 : (wr).cell? ⟨w.heap.size, 2, none⟩ = some (.string st) := HA2.out.cell (by omega)
      have x3 : (wr).cell? ⟨w.heap.size, 3, none⟩ = some (.int .i64 ct) := HA2.out.cell (by omega)
      go_wp2_with fail
      refine (drawnTo_any c len cap f g at' st ct (dnA len at' k) (dnC len ct k) _ (hik (h.out.keep HG.out)) hl).mono ?_
      rintro e W2 ⟨c2, cap2, he, o2, k2⟩
      have EA : (if len = 0 then at' else dnA len at' k) = dnA len at' k := by unfold dnA; by_cases h0 : len = 0 <;> simp [h0]
      have EC : (if len = 0 then dnC len ct k else ct) = dnC len ct k := by unfold dnC; by_cases h0 : len = 0 <;> simp [h0]
      rw [EA, EC] at he
      subst he
      have R2 := hik (rowIs_keep HR.out k2)
      have Z2 := hik (rowIs_keep HZ.out k2)
      have G2 := hik (HG.out.trans k2)
      have O2 := hik o2
      have LW := hik (show w.heap.size + 1 + 1 < wr.heap.size from HR.out.lt)
      clear k2 o2 EA EC x0 x1 x2 x3 hz HR HA2 HZ HG
      have hz3 : w.heap.size + 1 < W2.heap.size := Z2.out.lt
      have y0 := Z2.out.cell (i := 0) (by omega)
      have y1 := Z2.out.cell (i := 1) (by omega)
      have y2 := Z2.out.cell (i := 2) (by omega)
      have y3 := Z2.out.cell (i := 3) (by omega)
      have v0 := Z2.out.frozen 0
      have v1 := Z2.out.frozen 1
      have v2 := Z2.out.frozen 2
      have v3 := Z2.out.frozen 3
      go_wp2
      have RL := hik (row4_other (g := w.heap.size + 1) R2.out (by omega) (.slice c2 len cap2) (.int .i64 (dnA len at' k)) (.string st) (.int .i64 (dnC len ct k)))
      exact bodyPost_ret (v := .tuple #[.agg #[.slice c2 len cap2, .int .i64 (dnA len at' k), .string st, .int .i64 (dnC len ct k)], .slice (some ⟨w.heap.size + 1 + 1, 0, none⟩) k k]) (by simp [results, Tryz.results111, go_sem, row4_s0 Z2.out (.slice c2 len cap2), row4_s1 Z2.out (.slice c2 len cap2) (.int .i64 (dnA len at' k)), row4_s2 Z2.out (.slice c2 len cap2) (.int .i64 (dnA len at' k)) (.string st), row4_s3 Z2.out (.slice c2 len cap2) (.int .i64 (dnA len at' k)) (.string st) (.int .i64 (dnC len ct k))]) rfl ⟨_, _, _, _, rfl, ((O2.out.chg (P := fun b => b = w.heap.size + 1) (chg4_set (Chg.refl (fun b => b = w.heap.size + 1) W2) (w.heap.size + 1) (fun _ => rfl) _ _ _ _) (fun b hb _ hp => (by have := LW.out; omega))).low (B' := w.heap.size) (by have := LW.out; omega)), OwnE.of_row (RL.out.congr (fun i hi => by simp [cpy, hi])) (by omega), chg4_set G2.out _ (fun l => absurd l (by simp)) _ _ _ _⟩

end Go.Proofs.YtgiefpipflcbgaqGreatDoor

namespace Go.Proofs.YtgiefpipflcbgaqGreatDoor
open Go.ChangeShapes Go.WideShapes Go.ChangeAt Go.RowKit
set_option linter.unusedVariables false
set_option maxRecDepth 100000
set_option linter.unusedSimpArgs false

theorem OwnE.past4 {W : World} {B X : Nat} {c : Option Addr} {n : Nat} {f g : Nat → Int} {ff : Nat → Value} (h : OwnE W B c n f g) (r : W.rowIs X 31 4 ff) (u v x y : Value) : OwnE ((((W.setCell ⟨X, 0, none⟩ u).setCell ⟨X, 1, none⟩ v).setCell ⟨X, 2, none⟩ x).setCell ⟨X, 3, none⟩ y) B c n f g := by
  rcases h with h0 | ⟨b, N, hh, e, hb, hr, q⟩
  · exact .inl h0
  · by_cases hx : b = X
    · subst hx; exact absurd (rowIs_kind r hr) (by decide)
    · exact .inr ⟨b, N, hh, e, hb, row4_other hr hx _ _ _ _, q⟩
/-- A source of the call's own, elements, and a code. -/
def STAns (w : World) (n : Nat) (f g : Nat → Int) (at' : Int) (st : ByteArray) (ct : Int) (m : Nat) (p q : Nat → Int) (code : Int) (e : Ending) (w' : World) : Prop :=
  ∃ (c : Option Addr) (cap : Nat) (d : Option Addr) (cap' : Nat), e = .returned (.tuple #[.agg #[.slice c n cap, .int .i64 at', .string st, .int .i64 ct], .slice d m cap', .int .i64 code]) ∧ OwnE w' w.heap.size c n f g ∧ OwnE w' w.heap.size d m p q ∧ Chg nob w w'

set_option maxHeartbeats 1000000 in
theorem drawsLeft_any (c : Option Addr) (len cap : Nat) (f g : Nat → Int) (at' : Int) (st : ByteArray) (ct : Int) (w : World) (a0 : 0 ≤ at') (a1 : at' ≤ 1000000) (c0 : 0 ≤ ct) (c1 : ct ≤ 1000000) :
    Calls Tryz.prog 33 #[.agg #[.slice c len cap, .int .i64 at', .string st, .int .i64 ct]] w fun e w' => (∃ lf : Int, e = .returned (.int .i64 lf) ∧ (lf = 1000000 - at' ∨ lf = 1000000 - ct)) ∧ Chg nob w w' := by
  go_enter Tryz.func33, Tryz.ntmps33
  go_wp2
  all_goals
    go_ret
    exact ⟨⟨_, rfl, by omega⟩, (Chg.refl _ _).alloc _⟩

set_option maxHeartbeats 2000000 in
theorem takeSome_ok (c : Option Addr) (len cap : Nat) (f g : Nat → Int) (at' : Int) (st : ByteArray) (ct : Int) (n : Nat) (w : World) (htb : Hid (Tabs w)) (h : Hid (PairV w c len f g)) (hok : sokb f g len at' st ct = true) (hn : n ≤ 100) (a1 : at' + n ≤ 1000000) (c1 : ct + n ≤ 1000000) :
    Calls Tryz.prog 89 #[.agg #[.slice c len cap, .int .i64 at', .string st, .int .i64 ct], .int .i64 n] w fun e w' => STAns w len f g (dnA len at' n) st (dnC len ct n) n (drE f len at' st ct) (drF g len at' st ct) 0 e w' := by
  obtain ⟨p1, p2, p3, p4, p5⟩ := sokb_parts hok
  have hl : (len : Int) ≤ 9223372036854775807 := by omega
  have hs : (st.size : Int) ≤ 9223372036854775807 := by omega
  have P := hik (sokb_parts hok)
  have b0 : decide ((n : Int) < 0) = false := decide_eq_false (by omega)
  have b1 : decide ((100 : Int) < (n : Int)) = false := decide_eq_false (by omega)
  have HAC := hik (show at' + n ≤ 1000000 ∧ ct + n ≤ 1000000 from ⟨a1, c1⟩)
  have HP := hik (sokb_parts hok)
  clear a1 c1 p3 p5
  go_enter Tryz.func89, Tryz.ntmps89
  go_wp2_with fail
  refine (sourceOK_any c len cap at' st ct f g _ (hik (h.out.keep (((Chg.refl nob w).alloc _).alloc _))) hl hs).mono ?_
  rintro e W1 ⟨he, kk⟩
  have K := hik ((((Chg.refl nob w).alloc _).alloc _).trans kk)
  have s1 := hik K.out.size
  have A := hik (rowIs_keep (World.rowIs.alloc (row4_new w (.slice c len cap) (.int .i64 at') (.string st) (.int .i64 ct) 31) _) kk)
  have RZ : Hid (W1.rowIs (w.heap.size + 1) 31 4 (pv4 (.slice none 0 0) (.int .i64 0) (.string ⟨#[]⟩) (.int .i64 0))) := hik (by simpa using rowIs_keep (row4_new _ (.slice none 0 0) (.int .i64 0) (.string ⟨#[]⟩) (.int .i64 0) 31) kk)
  rw [hok] at he
  subst he
  have G := hik K.out
  have L0 : Hid (w.heap.size + 1 < W1.heap.size) := hik RZ.out.lt
  clear kk K
  have zA : w.heap.size < W1.heap.size := A.out.lt
  have xA0 : W1.cell? ⟨w.heap.size, 0, none⟩ = some (.slice c len cap) := A.out.cell (by omega)
  have xA1 : W1.cell? ⟨w.heap.size, 1, none⟩ = some (.int .i64 at') := A.out.cell (by omega)
  have xA2 : W1.cell? ⟨w.heap.size, 2, none⟩ = some (.string st) := A.out.cell (by omega)
  have xA3 : W1.cell? ⟨w.heap.size, 3, none⟩ = some (.int .i64 ct) := A.out.cell (by omega)
  go_wp2_with fail
  refine (drawsLeft_any c len cap f g at' st ct _ HP.out.2.2.1.1 HP.out.2.2.1.2 HP.out.2.2.2.2.1 HP.out.2.2.2.2.2).mono ?_
  rintro e W2 ⟨⟨lf, he, hlf⟩, kk⟩
  clear zA xA0 xA1 xA2 xA3
  have K := hik ((Chg.refl nob W1).trans kk)
  have s2 := hik K.out.size
  replace G := hik (G.out.trans K.out)
  replace A := hik (rowIs_keep A.out K.out)
  replace RZ := hik (rowIs_keep RZ.out K.out)
  subst he
  have b2 : ¬ lf < (n : Int) := by have := HAC.out; omega
  clear hlf
  clear kk K
  have zA : w.heap.size < W2.heap.size := A.out.lt
  have xA0 : W2.cell? ⟨w.heap.size, 0, none⟩ = some (.slice c len cap) := A.out.cell (by omega)
  have xA1 : W2.cell? ⟨w.heap.size, 1, none⟩ = some (.int .i64 at') := A.out.cell (by omega)
  have xA2 : W2.cell? ⟨w.heap.size, 2, none⟩ = some (.string st) := A.out.cell (by omega)
  have xA3 : W2.cell? ⟨w.heap.size, 3, none⟩ = some (.int .i64 ct) := A.out.cell (by omega)
  go_wp2_with fail
  refine (drawing_any c len cap n f g at' st ct _ (hik (htb.out.keep G.out)) (hik (h.out.keep G.out)) p1 p4 HP.out.2.2.1.1 HAC.out.1 HP.out.2.2.2.2.1 HAC.out.2 hn).mono ?_
  rintro e W3 ⟨c3, cap3, d3, cap3', rfl, o3, q3, kk⟩
  clear zA xA0 xA1 xA2 xA3
  have K := hik ((Chg.refl nob W2).trans kk)
  have s3 := hik K.out.size
  replace G := hik (G.out.trans K.out)
  replace A := hik (rowIs_keep A.out K.out)
  replace RZ := hik (rowIs_keep RZ.out K.out)
  have O3 := hik (o3.low (B' := W2.heap.size) (Nat.le_refl _))
  have D3 := hik (q3.low (B' := W2.heap.size) (Nat.le_refl _))
  clear o3 q3
  clear kk K
  have hz9 : w.heap.size + 1 < W3.heap.size := RZ.out.lt
  have y0 := RZ.out.cell (i := 0) (by omega)
  have v0 := RZ.out.frozen 0
  have y1 := RZ.out.cell (i := 1) (by omega)
  have v1 := RZ.out.frozen 1
  have y2 := RZ.out.cell (i := 2) (by omega)
  have v2 := RZ.out.frozen 2
  have y3 := RZ.out.cell (i := 3) (by omega)
  have v3 := RZ.out.frozen 3
  go_wp2
  have RX : Hid ((((((W3.setCell ⟨w.heap.size + 1, 0, none⟩ (.slice c3 len cap3)).setCell ⟨w.heap.size + 1, 1, none⟩ (.int .i64 (dnA len at' n))).setCell ⟨w.heap.size + 1, 2, none⟩ (.string st)).setCell ⟨w.heap.size + 1, 3, none⟩ (.int .i64 (dnC len ct n))).alloc (.cells #[.slice c3 len cap3, .int .i64 (dnA len at' n), .string st, .int .i64 (dnC len ct n)] 31)).rowIs (w.heap.size + 1) 31 4 (pv4 (.slice c3 len cap3) (.int .i64 (dnA len at' n)) (.string st) (.int .i64 (dnC len ct n)))) := hik (World.rowIs.alloc (row4_set RZ.out _ _ _ _) _)
  have u0 : (((((W3.setCell ⟨w.heap.size + 1, 0, none⟩ (.slice c3 len cap3)).setCell ⟨w.heap.size + 1, 1, none⟩ (.int .i64 (dnA len at' n))).setCell ⟨w.heap.size + 1, 2, none⟩ (.string st)).setCell ⟨w.heap.size + 1, 3, none⟩ (.int .i64 (dnC len ct n))).alloc (.cells #[.slice c3 len cap3, .int .i64 (dnA len at' n), .string st, .int .i64 (dnC len ct n)] 31)).cell? ⟨w.heap.size + 1, 0, none⟩ = some (.slice c3 len cap3) := RX.out.cell (by omega)
  have u1 : (((((W3.setCell ⟨w.heap.size + 1, 0, none⟩ (.slice c3 len cap3)).setCell ⟨w.heap.size + 1, 1, none⟩ (.int .i64 (dnA len at' n))).setCell ⟨w.heap.size + 1, 2, none⟩ (.string st)).setCell ⟨w.heap.size + 1, 3, none⟩ (.int .i64 (dnC len ct n))).alloc (.cells #[.slice c3 len cap3, .int .i64 (dnA len at' n), .string st, .int .i64 (dnC len ct n)] 31)).cell? ⟨w.heap.size + 1, 1, none⟩ = some (.int .i64 (dnA len at' n)) := RX.out.cell (by omega)
  have u2 : (((((W3.setCell ⟨w.heap.size + 1, 0, none⟩ (.slice c3 len cap3)).setCell ⟨w.heap.size + 1, 1, none⟩ (.int .i64 (dnA len at' n))).setCell ⟨w.heap.size + 1, 2, none⟩ (.string st)).setCell ⟨w.heap.size + 1, 3, none⟩ (.int .i64 (dnC len ct n))).alloc (.cells #[.slice c3 len cap3, .int .i64 (dnA len at' n), .string st, .int .i64 (dnC len ct n)] 31)).cell? ⟨w.heap.size + 1, 2, none⟩ = some (.string st) := RX.out.cell (by omega)
  have u3 : (((((W3.setCell ⟨w.heap.size + 1, 0, none⟩ (.slice c3 len cap3)).setCell ⟨w.heap.size + 1, 1, none⟩ (.int .i64 (dnA len at' n))).setCell ⟨w.heap.size + 1, 2, none⟩ (.string st)).setCell ⟨w.heap.size + 1, 3, none⟩ (.int .i64 (dnC len ct n))).alloc (.cells #[.slice c3 len cap3, .int .i64 (dnA len at' n), .string st, .int .i64 (dnC len ct n)] 31)).cell? ⟨w.heap.size + 1, 3, none⟩ = some (.int .i64 (dnC len ct n)) := RX.out.cell (by omega)
  exact bodyPost_ret (v := .tuple #[.agg #[.slice c3 len cap3, .int .i64 (dnA len at' n), .string st, .int .i64 (dnC len ct n)], .slice d3 n cap3', .int .i64 0]) (by simp [results, Tryz.results89, go_sem, u0, u1, u2, u3, row4_s0 RZ.out (.slice c3 len cap3), row4_s1 RZ.out (.slice c3 len cap3) (.int .i64 (dnA len at' n)), row4_s2 RZ.out (.slice c3 len cap3) (.int .i64 (dnA len at' n)) (.string st), row4_s3 RZ.out (.slice c3 len cap3) (.int .i64 (dnA len at' n)) (.string st) (.int .i64 (dnC len ct n))]) rfl ⟨_, _, _, _, rfl, (((O3.out.chg (P := fun b => b = w.heap.size + 1) (chg4_set (Chg.refl (fun b => b = w.heap.size + 1) W3) (w.heap.size + 1) (fun _ => rfl) _ _ _ _) (fun b hb _ hp => (by have := s1.out; have := L0.out; have := s2.out; have := s3.out; omega))).low (B' := w.heap.size) (by have := s1.out; have := L0.out; have := s2.out; have := s3.out; omega)).keep ((Chg.refl nob _).alloc _)), (((D3.out.chg (P := fun b => b = w.heap.size + 1) (chg4_set (Chg.refl (fun b => b = w.heap.size + 1) W3) (w.heap.size + 1) (fun _ => rfl) _ _ _ _) (fun b hb _ hp => (by have := s1.out; have := L0.out; have := s2.out; have := s3.out; omega))).low (B' := w.heap.size) (by have := s1.out; have := L0.out; have := s2.out; have := s3.out; omega)).keep ((Chg.refl nob _).alloc _)), (chg4_set G.out _ (fun l => absurd l (by simp)) _ _ _ _).alloc _⟩

/-- A source of the call's own, an element, and a code. -/
def OTAns (w : World) (n : Nat) (f g : Nat → Int) (at' : Int) (st : ByteArray) (ct x y code : Int) (e : Ending) (w' : World) : Prop :=
  ∃ (c : Option Addr) (cap : Nat), e = .returned (.tuple #[.agg #[.slice c n cap, .int .i64 at', .string st, .int .i64 ct], .agg #[.int .i64 x, .int .i64 y], .int .i64 code]) ∧ OwnE w' w.heap.size c n f g ∧ Chg nob w w'

set_option maxHeartbeats 2000000 in
theorem takeOne_ok (c : Option Addr) (len cap : Nat) (f g : Nat → Int) (at' : Int) (st : ByteArray) (ct : Int) (w : World) (htb : Hid (Tabs w)) (h : Hid (PairV w c len f g)) (hok : sokb f g len at' st ct = true) (a1 : at' + 1 ≤ 1000000) (c1 : ct + 1 ≤ 1000000) :
    Calls Tryz.prog 59 #[.agg #[.slice c len cap, .int .i64 at', .string st, .int .i64 ct]] w fun e w' => OTAns w len f g (dnA len at' 1) st (dnC len ct 1) (drE f len at' st ct 0) (drF g len at' st ct 0) 0 e w' := by
  obtain ⟨p1, p2, p3, p4, p5⟩ := sokb_parts hok
  have hl : (len : Int) ≤ 9223372036854775807 := by omega
  have hs : (st.size : Int) ≤ 9223372036854775807 := by omega
  have P := hik (sokb_parts hok)
  obtain ⟨x, hx⟩ : ∃ x, x = drE f len at' st ct 0 := ⟨_, rfl⟩
  obtain ⟨y, hy⟩ : ∃ y, y = drF g len at' st ct 0 := ⟨_, rfl⟩
  rw [← hx, ← hy]
  have HX := hik hx
  have HY := hik hy
  clear hx hy
  go_enter Tryz.func59, Tryz.ntmps59
  go_wp2_with fail
  refine (takeSome_ok c len cap f g at' st ct 1 _ (hik (htb.out.keep ((((Chg.refl nob w).alloc _).alloc _).alloc _))) (hik (h.out.keep ((((Chg.refl nob w).alloc _).alloc _).alloc _))) hok (by omega) a1 c1).mono ?_
  rintro e W1 ⟨c3, cap3, d3, cap3', rfl, o3, q3, k1⟩
  have G := hik (((((Chg.refl nob w).alloc _).alloc _).alloc _).trans k1)
  have RZ : Hid (W1.rowIs (w.heap.size + 1) 31 4 (pv4 (.slice none 0 0) (.int .i64 0) (.string ⟨#[]⟩) (.int .i64 0))) := hik (by simpa using rowIs_keep (World.rowIs.alloc (row4_new (w.alloc (.cells #[.slice c len cap, .int .i64 at', .string st, .int .i64 ct] 31)) (.slice none 0 0) (.int .i64 0) (.string ⟨#[]⟩) (.int .i64 0) 31) (.cells #[.int .i64 0, .int .i64 0] 45)) k1)
  have RE : Hid (W1.rowIs (w.heap.size + 1 + 1) 45 2 (pv2 (.int .i64 0) (.int .i64 0))) := hik (by simpa using rowIs_keep (row2_new ((w.alloc (.cells #[.slice c len cap, .int .i64 at', .string st, .int .i64 ct] 31)).alloc (.cells #[.slice none 0 0, .int .i64 0, .string ⟨#[]⟩, .int .i64 0] 31)) (.int .i64 0) (.int .i64 0) 45) k1)
  have L0 := hik (show w.heap.size + 3 ≤ W1.heap.size by have := k1.size; simp at this; omega)
  have O3 := hik o3
  have Q3 := hik q3
  obtain ⟨xb, xo, rfl, hxb, E0, E1⟩ := q3.pairs 0 (by omega)
  have e0 : W1.cell? ⟨xb, xo, none⟩ = some (.int .i64 x) := by rw [HX.out]; simpa using E0
  have e1 : W1.cell? ⟨xb, xo + 1, none⟩ = some (.int .i64 y) := by rw [HY.out]; simpa using E1
  have bl : w.heap.size + 3 ≤ xb := by
    rcases q3 with h0 | ⟨b, N, hh, ec, hb, _⟩
    · omega
    · simp at ec hb; omega
  clear k1 o3 q3 E0 E1
  have l1 : w.heap.size + 1 < W1.heap.size := RZ.out.lt
  have l2 : w.heap.size + 1 + 1 < W1.heap.size := RE.out.lt
  have n1 : ¬ xb = w.heap.size + 1 := by omega
  have n2 : ¬ xb = w.heap.size + 1 + 1 := by omega
  have n3 : ¬ xb = W1.heap.size := by omega
  have n4 : ¬ w.heap.size + 1 = W1.heap.size := by have := L0.out; omega
  have n5 : ¬ w.heap.size + 1 + 1 = W1.heap.size := by have := L0.out; omega
  have n6 : ¬ w.heap.size + 1 = xb := by omega
  have n7 : ¬ w.heap.size + 1 + 1 = xb := by omega
  have y0 := RZ.out.cell (i := 0) (by omega)
  have y1 := RZ.out.cell (i := 1) (by omega)
  have y2 := RZ.out.cell (i := 2) (by omega)
  have y3 := RZ.out.cell (i := 3) (by omega)
  have v0 := RZ.out.frozen 0
  have v1 := RZ.out.frozen 1
  have v2 := RZ.out.frozen 2
  have v3 := RZ.out.frozen 3
  have z0 := RE.out.cell (i := 0) (by omega)
  have z1 := RE.out.cell (i := 1) (by omega)
  have r0 := RE.out.frozen 0
  have r1 := RE.out.frozen 1
  go_wp2
  go_region
  go_wp2
  have RX : Hid ((((((((W1.setCell ⟨w.heap.size + 1, 0, none⟩ (.slice c3 len cap3)).setCell ⟨w.heap.size + 1, 1, none⟩ (.int .i64 (dnA len at' 1))).setCell ⟨w.heap.size + 1, 2, none⟩ (.string st)).setCell ⟨w.heap.size + 1, 3, none⟩ (.int .i64 (dnC len ct 1))).setCell ⟨w.heap.size + 1 + 1, 0, none⟩ (.int .i64 x)).setCell ⟨w.heap.size + 1 + 1, 1, none⟩ (.int .i64 y)).alloc (.cells #[.slice c3 len cap3, .int .i64 (dnA len at' 1), .string st, .int .i64 (dnC len ct 1)] 31)).rowIs (w.heap.size + 1) 31 4 (pv4 (.slice c3 len cap3) (.int .i64 (dnA len at' 1)) (.string st) (.int .i64 (dnC len ct 1)))) := hik (World.rowIs.alloc (row2_other (row4_set RZ.out _ _ _ _) (by omega) _ _) _)
  have RY : Hid ((((((((W1.setCell ⟨w.heap.size + 1, 0, none⟩ (.slice c3 len cap3)).setCell ⟨w.heap.size + 1, 1, none⟩ (.int .i64 (dnA len at' 1))).setCell ⟨w.heap.size + 1, 2, none⟩ (.string st)).setCell ⟨w.heap.size + 1, 3, none⟩ (.int .i64 (dnC len ct 1))).setCell ⟨w.heap.size + 1 + 1, 0, none⟩ (.int .i64 x)).setCell ⟨w.heap.size + 1 + 1, 1, none⟩ (.int .i64 y)).alloc (.cells #[.slice c3 len cap3, .int .i64 (dnA len at' 1), .string st, .int .i64 (dnC len ct 1)] 31)).rowIs (w.heap.size + 1 + 1) 45 2 (pv2 (.int .i64 x) (.int .i64 y))) := hik (World.rowIs.alloc (row2_set (row4_other RE.out (by omega) _ _ _ _) _ _) _)
  have u0 : (((((((W1.setCell ⟨w.heap.size + 1, 0, none⟩ (.slice c3 len cap3)).setCell ⟨w.heap.size + 1, 1, none⟩ (.int .i64 (dnA len at' 1))).setCell ⟨w.heap.size + 1, 2, none⟩ (.string st)).setCell ⟨w.heap.size + 1, 3, none⟩ (.int .i64 (dnC len ct 1))).setCell ⟨w.heap.size + 1 + 1, 0, none⟩ (.int .i64 x)).setCell ⟨w.heap.size + 1 + 1, 1, none⟩ (.int .i64 y)).alloc (.cells #[.slice c3 len cap3, .int .i64 (dnA len at' 1), .string st, .int .i64 (dnC len ct 1)] 31)).cell? ⟨w.heap.size + 1, 0, none⟩ = some (.slice c3 len cap3) := RX.out.cell (by omega)
  have u1 : (((((((W1.setCell ⟨w.heap.size + 1, 0, none⟩ (.slice c3 len cap3)).setCell ⟨w.heap.size + 1, 1, none⟩ (.int .i64 (dnA len at' 1))).setCell ⟨w.heap.size + 1, 2, none⟩ (.string st)).setCell ⟨w.heap.size + 1, 3, none⟩ (.int .i64 (dnC len ct 1))).setCell ⟨w.heap.size + 1 + 1, 0, none⟩ (.int .i64 x)).setCell ⟨w.heap.size + 1 + 1, 1, none⟩ (.int .i64 y)).alloc (.cells #[.slice c3 len cap3, .int .i64 (dnA len at' 1), .string st, .int .i64 (dnC len ct 1)] 31)).cell? ⟨w.heap.size + 1, 1, none⟩ = some (.int .i64 (dnA len at' 1)) := RX.out.cell (by omega)
  have u2 : (((((((W1.setCell ⟨w.heap.size + 1, 0, none⟩ (.slice c3 len cap3)).setCell ⟨w.heap.size + 1, 1, none⟩ (.int .i64 (dnA len at' 1))).setCell ⟨w.heap.size + 1, 2, none⟩ (.string st)).setCell ⟨w.heap.size + 1, 3, none⟩ (.int .i64 (dnC len ct 1))).setCell ⟨w.heap.size + 1 + 1, 0, none⟩ (.int .i64 x)).setCell ⟨w.heap.size + 1 + 1, 1, none⟩ (.int .i64 y)).alloc (.cells #[.slice c3 len cap3, .int .i64 (dnA len at' 1), .string st, .int .i64 (dnC len ct 1)] 31)).cell? ⟨w.heap.size + 1, 2, none⟩ = some (.string st) := RX.out.cell (by omega)
  have u3 : (((((((W1.setCell ⟨w.heap.size + 1, 0, none⟩ (.slice c3 len cap3)).setCell ⟨w.heap.size + 1, 1, none⟩ (.int .i64 (dnA len at' 1))).setCell ⟨w.heap.size + 1, 2, none⟩ (.string st)).setCell ⟨w.heap.size + 1, 3, none⟩ (.int .i64 (dnC len ct 1))).setCell ⟨w.heap.size + 1 + 1, 0, none⟩ (.int .i64 x)).setCell ⟨w.heap.size + 1 + 1, 1, none⟩ (.int .i64 y)).alloc (.cells #[.slice c3 len cap3, .int .i64 (dnA len at' 1), .string st, .int .i64 (dnC len ct 1)] 31)).cell? ⟨w.heap.size + 1, 3, none⟩ = some (.int .i64 (dnC len ct 1)) := RX.out.cell (by omega)
  have t0 : (((((((W1.setCell ⟨w.heap.size + 1, 0, none⟩ (.slice c3 len cap3)).setCell ⟨w.heap.size + 1, 1, none⟩ (.int .i64 (dnA len at' 1))).setCell ⟨w.heap.size + 1, 2, none⟩ (.string st)).setCell ⟨w.heap.size + 1, 3, none⟩ (.int .i64 (dnC len ct 1))).setCell ⟨w.heap.size + 1 + 1, 0, none⟩ (.int .i64 x)).setCell ⟨w.heap.size + 1 + 1, 1, none⟩ (.int .i64 y)).alloc (.cells #[.slice c3 len cap3, .int .i64 (dnA len at' 1), .string st, .int .i64 (dnC len ct 1)] 31)).cell? ⟨w.heap.size + 1 + 1, 0, none⟩ = some (.int .i64 x) := RY.out.cell (by omega)
  have t1 : (((((((W1.setCell ⟨w.heap.size + 1, 0, none⟩ (.slice c3 len cap3)).setCell ⟨w.heap.size + 1, 1, none⟩ (.int .i64 (dnA len at' 1))).setCell ⟨w.heap.size + 1, 2, none⟩ (.string st)).setCell ⟨w.heap.size + 1, 3, none⟩ (.int .i64 (dnC len ct 1))).setCell ⟨w.heap.size + 1 + 1, 0, none⟩ (.int .i64 x)).setCell ⟨w.heap.size + 1 + 1, 1, none⟩ (.int .i64 y)).alloc (.cells #[.slice c3 len cap3, .int .i64 (dnA len at' 1), .string st, .int .i64 (dnC len ct 1)] 31)).cell? ⟨w.heap.size + 1 + 1, 1, none⟩ = some (.int .i64 y) := RY.out.cell (by omega)
  have PC : Chg (fun b => b = w.heap.size + 1 ∨ b = w.heap.size + 1 + 1) W1 (((((((W1.setCell ⟨w.heap.size + 1, 0, none⟩ (.slice c3 len cap3)).setCell ⟨w.heap.size + 1, 1, none⟩ (.int .i64 (dnA len at' 1))).setCell ⟨w.heap.size + 1, 2, none⟩ (.string st)).setCell ⟨w.heap.size + 1, 3, none⟩ (.int .i64 (dnC len ct 1))).setCell ⟨w.heap.size + 1 + 1, 0, none⟩ (.int .i64 x)).setCell ⟨w.heap.size + 1 + 1, 1, none⟩ (.int .i64 y)).alloc (.cells #[.slice c3 len cap3, .int .i64 (dnA len at' 1), .string st, .int .i64 (dnC len ct 1)] 31)) := (chg2_set (chg4_set (Chg.refl _ W1) _ (fun _ => .inl rfl) _ _ _ _) _ (fun _ => .inr rfl) _ _).alloc _
  have GF : Chg nob w (((((((W1.setCell ⟨w.heap.size + 1, 0, none⟩ (.slice c3 len cap3)).setCell ⟨w.heap.size + 1, 1, none⟩ (.int .i64 (dnA len at' 1))).setCell ⟨w.heap.size + 1, 2, none⟩ (.string st)).setCell ⟨w.heap.size + 1, 3, none⟩ (.int .i64 (dnC len ct 1))).setCell ⟨w.heap.size + 1 + 1, 0, none⟩ (.int .i64 x)).setCell ⟨w.heap.size + 1 + 1, 1, none⟩ (.int .i64 y)).alloc (.cells #[.slice c3 len cap3, .int .i64 (dnA len at' 1), .string st, .int .i64 (dnC len ct 1)] 31)) := G.out.near PC (fun i e => by omega)
  exact bodyPost_ret (v := .tuple #[.agg #[.slice c3 len cap3, .int .i64 (dnA len at' 1), .string st, .int .i64 (dnC len ct 1)], .agg #[.int .i64 x, .int .i64 y], .int .i64 0]) (by simp [results, Tryz.results59, go_sem, u0, u1, u2, u3, t0, t1]) rfl ⟨_, _, rfl, ((O3.out.chg PC (fun b hb _ hp => (by simp at hb; have := L0.out; omega))).low (by simp; omega)).keep (Chg.refl nob _).drew, GF.drew⟩

end Go.Proofs.YtgiefpipflcbgaqGreatDoor
