/- What right sources draw, by the model: contracts. Conditions: right sources with draws left, rows that can be read. -/
import Derived.Test.YtmnakafplpmphabDoorSpsJ
import Derived.Test.YtmnakafplpmphabDoorBdg
namespace Go.Proofs.YtmnakafplpmphabDoor
open Go.ChangeShapes Go.WideShapes Go.ChangeAt Go.RowKit
set_option linter.unusedVariables false
set_option maxRecDepth 100000
set_option linter.unusedSimpArgs false

theorem l01In_c (n a b : Int) (w : World) : Calls Tryd.prog 63 #[.int .i64 n, .int .i64 a, .int .i64 b] w fun e w' => e = .returned (.bool (inW n a b)) ∧ Chg nob w w' := by
  refine (l01In_any n a b w).mono ?_
  rintro e w' ⟨he, hw⟩
  subst hw
  exact ⟨he, Chg.refl _ _⟩

set_option maxHeartbeats 1000000 in
theorem sSpent_ok (c : Option Addr) (len cap : Nat) (f g : Nat → Int) (at' : Int) (st : ByteArray) (ct : Int) (n : Nat) (w : World) (hn : n ≤ 100) (a1 : at' + n ≤ 1000000) (c1 : ct + n ≤ 1000000) :
    Calls Tryd.prog 86 #[.agg #[.slice c len cap, .int .i64 at', .string st, .int .i64 ct], .int .i64 n] w fun e w' => e = .returned (.bool false) ∧ Chg nob w w' := by
  have b1 : decide (1000000 - (n : Int) < at') = false := decide_eq_false (by omega)
  have b2 : decide (1000000 - (n : Int) < ct) = false := decide_eq_false (by omega)
  go_enter Tryd.func86, Tryd.ntmps86
  go_wp2
  go_ret
  exact ⟨by simp [b2], (Chg.refl _ _).alloc _⟩

set_option maxHeartbeats 2000000 in
theorem sTakeSome_ok (c : Option Addr) (len cap : Nat) (f g : Nat → Int) (at' : Int) (st : ByteArray) (ct : Int) (n : Nat) (w : World) (h : Hid (PairV w c len f g)) (hok : sokb f g len at' st ct = true) (hn : n ≤ 100) (a1 : at' + n ≤ 1000000) (c1 : ct + n ≤ 1000000) :
    Calls Tryd.prog 34 #[.agg #[.slice c len cap, .int .i64 at', .string st, .int .i64 ct], .int .i64 n] w fun e w' => STAns w len f g (dnA len at' n) st (dnC len ct n) n (drE f len at' st ct) (drF g len at' st ct) 0 e w' := by
  obtain ⟨p1, p2, p3, p4, p5⟩ := sokb_parts hok
  have hl : (len : Int) ≤ 9223372036854775807 := by omega
  have hs : (st.size : Int) ≤ 9223372036854775807 := by omega
  have P := hik (sokb_parts hok)
  have HI := hik (show inW (n : Int) 0 100 = true from decide_eq_true (by omega))
  have HAC := hik (show at' + n ≤ 1000000 ∧ ct + n ≤ 1000000 from ⟨a1, c1⟩)
  clear a1 c1 p3 p5
  go_enter Tryd.func34, Tryd.ntmps34
  go_wp2_with fail
  refine (sSourceOK_any c len cap at' st ct f g _ (hik (h.out.keep (((Chg.refl nob w).alloc _).alloc _))) hl hs).mono ?_
  rintro e W1 ⟨he, kk⟩
  have K := hik ((((Chg.refl nob w).alloc _).alloc _).trans kk)
  have s1 := hik K.out.size
  have A := hik (rowIs_keep (World.rowIs.alloc (row4_new w (.slice c len cap) (.int .i64 at') (.string st) (.int .i64 ct) 47) _) kk)
  have RZ : Hid (W1.rowIs (w.heap.size + 1) 47 4 (pv4 (.slice none 0 0) (.int .i64 0) (.string ⟨#[]⟩) (.int .i64 0))) := hik (by simpa using rowIs_keep (row4_new _ (.slice none 0 0) (.int .i64 0) (.string ⟨#[]⟩) (.int .i64 0) 47) kk)
  rw [hok] at he
  subst he
  have G := hik K.out
  have L0 : Hid (w.heap.size + 1 < W1.heap.size) := hik RZ.out.lt
  clear kk K
  go_wp2_with fail
  refine (l01In_c _ _ _ _).mono ?_
  rintro e W2 ⟨he, kk⟩
  have K := hik ((Chg.refl nob W1).trans kk)
  have s2 := hik K.out.size
  replace G := hik (G.out.trans K.out)
  replace A := hik (rowIs_keep A.out K.out)
  replace RZ := hik (rowIs_keep RZ.out K.out)
  rw [HI.out] at he
  subst he
  clear kk K
  have zA : w.heap.size < W2.heap.size := A.out.lt
  have xA0 : W2.cell? ⟨w.heap.size, 0, none⟩ = some (.slice c len cap) := A.out.cell (by omega)
  have xA1 : W2.cell? ⟨w.heap.size, 1, none⟩ = some (.int .i64 at') := A.out.cell (by omega)
  have xA2 : W2.cell? ⟨w.heap.size, 2, none⟩ = some (.string st) := A.out.cell (by omega)
  have xA3 : W2.cell? ⟨w.heap.size, 3, none⟩ = some (.int .i64 ct) := A.out.cell (by omega)
  go_wp2_with fail
  refine (sSpent_ok c len cap f g at' st ct n _ hn HAC.out.1 HAC.out.2).mono ?_
  rintro e W3 ⟨rfl, kk⟩
  clear zA xA0 xA1 xA2 xA3
  have K := hik ((Chg.refl nob W2).trans kk)
  have s3 := hik K.out.size
  replace G := hik (G.out.trans K.out)
  replace A := hik (rowIs_keep A.out K.out)
  replace RZ := hik (rowIs_keep RZ.out K.out)
  clear kk K
  have zA : w.heap.size < W3.heap.size := A.out.lt
  have xA0 : W3.cell? ⟨w.heap.size, 0, none⟩ = some (.slice c len cap) := A.out.cell (by omega)
  have xA1 : W3.cell? ⟨w.heap.size, 1, none⟩ = some (.int .i64 at') := A.out.cell (by omega)
  have xA2 : W3.cell? ⟨w.heap.size, 2, none⟩ = some (.string st) := A.out.cell (by omega)
  have xA3 : W3.cell? ⟨w.heap.size, 3, none⟩ = some (.int .i64 ct) := A.out.cell (by omega)
  go_wp2_with fail
  refine (sSome_any c len cap n f g at' st ct _ (hik (h.out.keep G.out)) p1 p4 P.out.2.2.1.1 HAC.out.1 P.out.2.2.2.2.1 HAC.out.2 hn).mono ?_
  rintro e W4 ⟨d3, cap3', rfl, q3, kk⟩
  clear zA xA0 xA1 xA2 xA3
  have K := hik ((Chg.refl nob W3).trans kk)
  have s4 := hik K.out.size
  replace G := hik (G.out.trans K.out)
  replace A := hik (rowIs_keep A.out K.out)
  replace RZ := hik (rowIs_keep RZ.out K.out)
  have D3 := hik (q3.low (B' := W3.heap.size) (Nat.le_refl _))
  clear q3
  clear kk K
  go_wp2_with fail
  refine (sOwn_any c len cap f g (dnA len at' n) st (dnC len ct n) _ (hik (h.out.keep (G.out.alloc _))) (by omega)).mono ?_
  rintro e W5 ⟨c4, cap4, rfl, o4, kk⟩
  have K := hik (((Chg.refl nob W4).alloc _).trans kk)
  have s5 := hik K.out.size
  replace G := hik (G.out.trans K.out)
  replace A := hik (rowIs_keep A.out K.out)
  replace RZ := hik (rowIs_keep RZ.out K.out)
  replace D3 := hik (D3.out.keep K.out)
  have RO := hik (rowIs_keep (row4_new W4 (.slice c len cap) (.int .i64 (dnA len at' n)) (.string st) (.int .i64 (dnC len ct n)) 47) kk)
  have O4 := hik (o4.low (B' := W4.heap.size) (by simp))
  clear o4
  clear kk K
  have hz9 : w.heap.size + 1 < W5.heap.size := RZ.out.lt
  have y0 := RZ.out.cell (i := 0) (by omega)
  have v0 := RZ.out.frozen 0
  have y1 := RZ.out.cell (i := 1) (by omega)
  have v1 := RZ.out.frozen 1
  have y2 := RZ.out.cell (i := 2) (by omega)
  have v2 := RZ.out.frozen 2
  have y3 := RZ.out.cell (i := 3) (by omega)
  have v3 := RZ.out.frozen 3
  go_wp2
  exact bodyPost_ret (v := .tuple #[.agg #[.slice c4 len cap4, .int .i64 (dnA len at' n), .string st, .int .i64 (dnC len ct n)], .slice d3 n cap3', .int .i64 0]) (by simp [results, Tryd.results34, go_sem, row4_s0 RZ.out (.slice c4 len cap4), row4_s1 RZ.out (.slice c4 len cap4) (.int .i64 (dnA len at' n)), row4_s2 RZ.out (.slice c4 len cap4) (.int .i64 (dnA len at' n)) (.string st), row4_s3 RZ.out (.slice c4 len cap4) (.int .i64 (dnA len at' n)) (.string st) (.int .i64 (dnC len ct n))]) rfl ⟨_, _, _, _, rfl, ((O4.out.chg (P := fun b => b = w.heap.size + 1) (chg4_set (Chg.refl (fun b => b = w.heap.size + 1) W5) (w.heap.size + 1) (fun _ => rfl) _ _ _ _) (fun b hb _ hp => (by have := s1.out; have := L0.out; have := s2.out; have := s3.out; have := s4.out; have := s5.out; omega))).low (B' := w.heap.size) (by have := s1.out; have := L0.out; have := s2.out; have := s3.out; have := s4.out; have := s5.out; omega)), ((D3.out.chg (P := fun b => b = w.heap.size + 1) (chg4_set (Chg.refl (fun b => b = w.heap.size + 1) W5) (w.heap.size + 1) (fun _ => rfl) _ _ _ _) (fun b hb _ hp => (by have := s1.out; have := L0.out; have := s2.out; have := s3.out; have := s4.out; have := s5.out; omega))).low (B' := w.heap.size) (by have := s1.out; have := L0.out; have := s2.out; have := s3.out; have := s4.out; have := s5.out; omega)), chg4_set G.out _ (fun l => absurd l (by simp)) _ _ _ _⟩

end Go.Proofs.YtmnakafplpmphabDoor
