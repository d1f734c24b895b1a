/- What the model draws, some at once: contracts. Conditions: right sources with draws left, rows that can be read. -/
import Derived.Test.YtmnakafplpmphabDoorBdh
import Derived.Test.YtmnakafplpmphabDoorSpsZ
import Derived.Test.YtmnakafplpmphabDoorSrcL
namespace Go.Proofs.YtmnakafplpmphabDoor
open Go.ChangeShapes Go.WideShapes Go.ChangeAt Go.RowKit
set_option linter.unusedVariables false
set_option maxRecDepth 100000
set_option linter.unusedSimpArgs false

/-- A source as it was laid, and elements of the call's own. -/
def SmAns (w : World) (c : Option Addr) (len cap : Nat) (at' : Int) (st : ByteArray) (ct : Int) (m : Nat) (p q : Nat → Int) (e : Ending) (w' : World) : Prop :=
  ∃ (d : Option Addr) (cap' : Nat), e = .returned (.tuple #[.agg #[.slice c len cap, .int .i64 at', .string st, .int .i64 ct], .slice d m cap']) ∧ OwnE w' w.heap.size d m p q ∧ Chg nob w w'

set_option maxHeartbeats 4000000 in
theorem sSome_any (c : Option Addr) (len cap n : Nat) (f g : Nat → Int) (at' : Int) (st : ByteArray) (ct : Int) (w : World) (h : Hid (PairV w c len f g)) (hl : len ≤ 64) (hst : st.size = 32) (a0 : 0 ≤ at') (a1 : at' + n ≤ 1000000) (c0 : 0 ≤ ct) (c1 : ct + n ≤ 1000000) (hn : n ≤ 100) :
    Calls Tryd.prog 87 #[.agg #[.slice c len cap, .int .i64 at', .string st, .int .i64 ct], .int .i64 n] w fun e w' => SmAns w c len cap (dnA len at' n) st (dnC len ct n) n (drE f len at' st ct) (drF g len at' st ct) e w' := by
  obtain ⟨i0, hi, hz0, hz1, hz2⟩ := info_parts infoExt
  have HI := hik hi
  have HZ0 := hik hz0
  have HZ1 := hik hz1
  have HZ2 := hik hz2
  clear hi hz0 hz1 hz2
  have HA := hik (show 0 ≤ at' ∧ at' + n ≤ 1000000 ∧ 0 ≤ ct ∧ ct + n ≤ 1000000 from ⟨a0, a1, c0, c1⟩)
  clear a0 a1 c0 c1
  go_enter Tryd.func87, Tryd.ntmps87
  go_wp2
  go_loopw [6, 7] (fun v i W => ∃ k : Nat, k ≤ n ∧ i = .int .i64 k ∧ Hid (W.ownsRow (w.heap.size + 2) 57 2 v k ((List.range (k * 2)).map (pf (drE f len at' st ct) (drF g len at' st ct)))) ∧ Hid (W.rowIs w.heap.size 47 4 (pv4 (.slice c len cap) (.int .i64 (dnA len at' k)) (.string st) (.int .i64 (dnC len ct k)))) ∧ Hid (W.rowIs (w.heap.size + 1) 47 4 (pv4 (.slice none 0 0) (.int .i64 0) (.string ⟨#[]⟩) (.int .i64 0))) ∧ Hid (Chg nob w W)) (fun _ i _ => n - (intOf i).toNat)
  case atStart =>
    refine ⟨0, Nat.zero_le _, rfl, ?_, ?_, ?_, ?_⟩
    · have q := owns_none ((w.alloc (.cells #[.slice c len cap, .int .i64 at', .string st, .int .i64 ct] 47)).alloc (.cells #[.slice none 0 0, .int .i64 0, .string ⟨#[]⟩, .int .i64 0] 47)) (w.heap.size + 2) 57 2 (by simp)
      exact hik (by simpa using q)
    · rw [dnA_zero, dnC_zero]
      exact hik (World.rowIs.alloc (World.rowIs.alloc (row4_new w _ _ _ _ _) _) _)
    · exact hik (by simpa using World.rowIs.alloc (row4_new (w.alloc (.cells #[.slice c len cap, .int .i64 at', .string st, .int .i64 ct] 47)) (.slice none 0 0) (.int .i64 0) (.string ⟨#[]⟩) (.int .i64 0) 47) (.cells #[] 57))
    · exact hik ((((Chg.refl nob w).alloc _).alloc _).alloc _)
  case round =>
    obtain ⟨k, hk, rfl, HW, HS, HZ, HG⟩ := hrel
    by_cases hlt : k < n
    · have hlt' : (k : Int) < (n : Int) := by omega
      have zS : w.heap.size < wr.heap.size := HS.out.lt
      have x0 : (wr).cell? ⟨w.heap.size, 0, none⟩ = some (.slice c len cap) := HS.out.cell (by omega)
      have x1 : (wr).cell? ⟨w.heap.size, 1, none⟩ = some (.int .i64 (dnA len at' k)) := HS.out.cell (by omega)
      have x2 : (wr).cell? ⟨w.heap.size, 2, none⟩ = some (.string st) := HS.out.cell (by omega)
      have x3 : (wr).cell? ⟨w.heap.size, 3, none⟩ = some (.int .i64 (dnC len ct k)) := HS.out.cell (by omega)
      have EA := hik (dnA_add len at' k 1)
      have EC := hik (dnC_add len ct k 1)
      have EE := hik (drE_add f len at' st ct k 0)
      have EF := hik (drF_add g len at' st ct k 0)
      go_wp2_with fail
      refine (sDraw_any c len cap (dnA len at' k) st (dnC len ct k) f g _ (hik (h.out.keep HG.out)) hl hst (by have := HA.out; have := dnA_le len at' k; omega) (by have := HA.out; have := dnA_le len at' k; omega) (by have := HA.out; have := dnC_le len ct k; omega) (by have := HA.out; have := dnC_le len ct k; omega)).mono ?_
      rintro e W1 ⟨he, k1⟩
      rw [EA.out, EC.out, EE.out, EF.out, Nat.add_zero] at he
      subst he
      have W2 := hik (owns_keep HW.out k1)
      have S2 := hik (rowIs_keep HS.out k1)
      have Z2 := hik (rowIs_keep HZ.out k1)
      have G2 := hik (HG.out.trans k1)
      have L2 := hik (show w.heap.size + 1 < W1.heap.size from Z2.out.lt)
      clear k1 x0 x1 x2 x3 zS HW HS HZ HG EA EC EE EF
      have zS : w.heap.size < W1.heap.size := S2.out.lt
      have y0 := S2.out.cell (i := 0) (by omega)
      have y1 := S2.out.cell (i := 1) (by omega)
      have y2 := S2.out.cell (i := 2) (by omega)
      have y3 := S2.out.cell (i := 3) (by omega)
      have v0 := S2.out.frozen 0
      have v1 := S2.out.frozen 1
      have v2 := S2.out.frozen 2
      have v3 := S2.out.frozen 3
      go_upto_region 7 with fail
      clear y0 y1 y2 y3 v0 v1 v2 v3 zS
      go_wp2_with (at_builtin; refine wpList_append_own _ ?g0 (.tmp 22) (.tmp 24) 45 ?g1 (w.heap.size + 2) 57 i0 (.agg #[.int .i64 0, .int .i64 0]) 2 16 Tryd.underlying45 HI.out HZ0.out HZ1.out HZ2.out rfl (by decide) u6 k ((List.range (k * 2)).map (pf (drE f len at' st ct) (drF g len at' st ct))) ?b1 ?b2 ⟨W1.heap.size + 1 + 1, 0, none⟩ 1 1 [.int .i64 (drE f len at' st ct k), .int .i64 (drF g len at' st ct k)] ?b3 ?b4 ?b5 ?b6 ?b7 ?b8 ?b9 ?b10)
      case g0 => rfl
      case g1 => rfl
      case b1 => rfl
      case b2 => exact ((((owns_chg W2.out (chg4_set (Chg.refl (fun i => i = w.heap.size) W1) w.heap.size (fun _ => rfl) (.slice c len cap) (.int .i64 (dnA len at' (k + 1))) (.string st) (.int .i64 (dnC len ct (k + 1)))) (fun i hi e => by omega)).alloc _).alloc _).alloc _)
      case b3 => rfl
      case b4 => rfl
      case b5 =>
        intro j u hj
        have q := news2 ((((((W1.setCell ⟨w.heap.size, 0, none⟩ (.slice c len cap)).setCell ⟨w.heap.size, 1, none⟩ (.int .i64 (dnA len at' (k + 1)))).setCell ⟨w.heap.size, 2, none⟩ (.string st)).setCell ⟨w.heap.size, 3, none⟩ (.int .i64 (dnC len ct (k + 1)))).alloc (.cells #[.slice c len cap, .int .i64 (dnA len at' (k + 1)), .string st, .int .i64 (dnC len ct (k + 1))] 47)).alloc (.cells #[.int .i64 (drE f len at' st ct k), .int .i64 (drF g len at' st ct k)] 57)) (drE f len at' st ct k) (drF g len at' st ct k) 57 j u hj
        rw [show ((((((W1.setCell ⟨w.heap.size, 0, none⟩ (.slice c len cap)).setCell ⟨w.heap.size, 1, none⟩ (.int .i64 (dnA len at' (k + 1)))).setCell ⟨w.heap.size, 2, none⟩ (.string st)).setCell ⟨w.heap.size, 3, none⟩ (.int .i64 (dnC len ct (k + 1)))).alloc (.cells #[.slice c len cap, .int .i64 (dnA len at' (k + 1)), .string st, .int .i64 (dnC len ct (k + 1))] 47)).alloc (.cells #[.int .i64 (drE f len at' st ct k), .int .i64 (drF g len at' st ct k)] 57)).heap.size = W1.heap.size + 1 + 1 by simp] at q
        exact q
      case b6 => exact one2 _ _
      case b7 => unfold maxLen; omega
      case b8 => omega
      case b9 => have := L2.out; simp; omega
      case b10 =>
        intro v' w2 hown hgr _
        have HO : Hid (w2.ownsRow (w.heap.size + 2) 57 2 v' (k + 1) ((List.range ((k + 1) * 2)).map (pf (drE f len at' st ct) (drF g len at' st ct)))) := hik (by rw [← range_pair]; exact hown)
        have KU := (Chg.refl (fun i => w.heap.size + 2 ≤ i) _).grown hgr (fun b e _ => (W2.out.lt b e).1)
        have NS := hik (rowIs_chg (World.rowIs.alloc (World.rowIs.alloc (World.rowIs.alloc (row4_set S2.out (.slice c len cap) (.int .i64 (dnA len at' (k + 1))) (.string st) (.int .i64 (dnC len ct (k + 1)))) _) _) _) KU (by omega))
        have NZ := hik (rowIs_chg (World.rowIs.alloc (World.rowIs.alloc (World.rowIs.alloc (row4_other Z2.out (show w.heap.size + 1 ≠ w.heap.size by omega) (.slice c len cap) (.int .i64 (dnA len at' (k + 1))) (.string st) (.int .i64 (dnC len ct (k + 1)))) _) _) _) KU (by omega))
        have NG := hik (((((chg4_set G2.out w.heap.size (fun l => absurd l (by omega)) (.slice c len cap) (.int .i64 (dnA len at' (k + 1))) (.string st) (.int .i64 (dnC len ct (k + 1)))).alloc _).alloc _).alloc _).near KU (fun i e => by omega))
        clear hown hgr KU W2 S2 Z2 G2
        go_wp2
        go_roundw
        case rel => exact ⟨k + 1, by omega, by go_num, HO, NS, NZ, NG⟩
        case measure => simp [intOf]; omega
    · obtain rfl : k = n := by omega
      obtain ⟨d9, cap9, rfl, hle, ho⟩ := OwnE.of_owns HW.out
      have O9 := hik ho
      have L9 := hik (show w.heap.size + 1 < wr.heap.size from HZ.out.lt)
      clear hle ho
      have zS : w.heap.size < wr.heap.size := HS.out.lt
      have x0 : (wr).cell? ⟨w.heap.size, 0, none⟩ = some (.slice c len cap) := HS.out.cell (by omega)
      have x1 : (wr).cell? ⟨w.heap.size, 1, none⟩ = some (.int .i64 (dnA len at' k)) := HS.out.cell (by omega)
      have x2 : (wr).cell? ⟨w.heap.size, 2, none⟩ = some (.string st) := HS.out.cell (by omega)
      have x3 : (wr).cell? ⟨w.heap.size, 3, none⟩ = some (.int .i64 (dnC len ct k)) := HS.out.cell (by omega)
      have y0 := HZ.out.cell (i := 0) (by omega)
      have y1 := HZ.out.cell (i := 1) (by omega)
      have y2 := HZ.out.cell (i := 2) (by omega)
      have y3 := HZ.out.cell (i := 3) (by omega)
      have v0 := HZ.out.frozen 0
      have v1 := HZ.out.frozen 1
      have v2 := HZ.out.frozen 2
      have v3 := HZ.out.frozen 3
      go_wp2
      exact bodyPost_ret (v := .tuple #[.agg #[.slice c len cap, .int .i64 (dnA len at' k), .string st, .int .i64 (dnC len ct k)], .slice d9 k cap9]) (by simp [results, Tryd.results87, go_sem, row4_s0 HZ.out (.slice c len cap), row4_s1 HZ.out (.slice c len cap) (.int .i64 (dnA len at' k)), row4_s2 HZ.out (.slice c len cap) (.int .i64 (dnA len at' k)) (.string st), row4_s3 HZ.out (.slice c len cap) (.int .i64 (dnA len at' k)) (.string st) (.int .i64 (dnC len ct k))]) rfl ⟨_, _, rfl, (O9.out.chg (P := fun b => b = w.heap.size + 1) (chg4_set (Chg.refl (fun b => b = w.heap.size + 1) wr) (w.heap.size + 1) (fun _ => rfl) _ _ _ _) (fun b hb _ hp => (by omega))).low (B' := w.heap.size) (by omega), chg4_set HG.out _ (fun l => absurd l (by simp)) _ _ _ _⟩

end Go.Proofs.YtmnakafplpmphabDoor
