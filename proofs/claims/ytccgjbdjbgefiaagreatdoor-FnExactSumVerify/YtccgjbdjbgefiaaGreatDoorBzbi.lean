/- Several texts in one: What right sources draw, by the program: contracts. Conditions: right sources with draws left, rows that can be read; the tables hold the shifts and the rounds' constants. · What the program's polynomial through values answers: contracts. Conditions: elements of the greater field, at most eight values that can be read. -/
import Derived.Test.YtccgjbdjbgefiaaGreatDoorBzbh
import Derived.Test.YtccgjbdjbgefiaaGreatDoorBzak
import Derived.Test.YtccgjbdjbgefiaaGreatDoorBzam
import Derived.Test.YtccgjbdjbgefiaaGreatDoorBzai
import Derived.Test.YtccgjbdjbgefiaaGreatDoorBzaj
namespace Go.Proofs.YtccgjbdjbgefiaaGreatDoor
open Go.ChangeShapes Go.WideShapes Go.ChangeAt Go.RowKit
set_option linter.unusedVariables false
set_option maxRecDepth 100000
set_option linter.unusedSimpArgs false

/-- A source of the call's own, elements, and a code. -/
def STAns (w : World) (n : Nat) (f g : Nat → Int) (at' : Int) (st : ByteArray) (ct : Int) (m : Nat) (p q : Nat → Int) (code : Int) (e : Ending) (w' : World) : Prop :=
  ∃ (c : Option Addr) (cap : Nat) (d : Option Addr) (cap' : Nat), e = .returned (.tuple #[.agg #[.slice c n cap, .int .i64 at', .string st, .int .i64 ct], .slice d m cap', .int .i64 code]) ∧ OwnE w' w.heap.size c n f g ∧ OwnE w' w.heap.size d m p q ∧ Chg nob w w'

set_option maxHeartbeats 1000000 in
theorem drawsLeft_any (c : Option Addr) (len cap : Nat) (f g : Nat → Int) (at' : Int) (st : ByteArray) (ct : Int) (w : World) (a0 : 0 ≤ at') (a1 : at' ≤ 1000000) (c0 : 0 ≤ ct) (c1 : ct ≤ 1000000) :
    Calls Tryz.prog 46 #[.agg #[.slice c len cap, .int .i64 at', .string st, .int .i64 ct]] w fun e w' => (∃ lf : Int, e = .returned (.int .i64 lf) ∧ (lf = 1000000 - at' ∨ lf = 1000000 - ct)) ∧ Chg nob w w' := by
  go_enter Tryz.func46, Tryz.ntmps46
  go_wp2
  all_goals
    go_ret
    exact ⟨⟨_, rfl, by omega⟩, (Chg.refl _ _).alloc _⟩

set_option maxHeartbeats 2000000 in
theorem takeSome_ok (c : Option Addr) (len cap : Nat) (f g : Nat → Int) (at' : Int) (st : ByteArray) (ct : Int) (n : Nat) (w : World) (htb : Hid (Tabs w)) (h : Hid (PairV w c len f g)) (hok : sokb f g len at' st ct = true) (hn : n ≤ 100) (a1 : at' + n ≤ 1000000) (c1 : ct + n ≤ 1000000) :
    Calls Tryz.prog 72 #[.agg #[.slice c len cap, .int .i64 at', .string st, .int .i64 ct], .int .i64 n] w fun e w' => STAns w len f g (dnA len at' n) st (dnC len ct n) n (drE f len at' st ct) (drF g len at' st ct) 0 e w' := by
  obtain ⟨p1, p2, p3, p4, p5⟩ := sokb_parts hok
  have hl : (len : Int) ≤ 9223372036854775807 := by omega
  have hs : (st.size : Int) ≤ 9223372036854775807 := by omega
  have P := hik (sokb_parts hok)
  have b0 : decide ((n : Int) < 0) = false := decide_eq_false (by omega)
  have b1 : decide ((100 : Int) < (n : Int)) = false := decide_eq_false (by omega)
  have HAC := hik (show at' + n ≤ 1000000 ∧ ct + n ≤ 1000000 from ⟨a1, c1⟩)
  have HP := hik (sokb_parts hok)
  clear a1 c1 p3 p5
  go_enter Tryz.func72, Tryz.ntmps72
  go_wp2_with fail
  refine (sourceOK_any c len cap at' st ct f g _ (hik (h.out.keep (((Chg.refl nob w).alloc _).alloc _))) hl hs).mono ?_
  rintro e W1 ⟨he, kk⟩
  have K := hik ((((Chg.refl nob w).alloc _).alloc _).trans kk)
  have s1 := hik K.out.size
  have A := hik (rowIs_keep (World.rowIs.alloc (row4_new w (.slice c len cap) (.int .i64 at') (.string st) (.int .i64 ct) 33) _) kk)
  have RZ : Hid (W1.rowIs (w.heap.size + 1) 33 4 (pv4 (.slice none 0 0) (.int .i64 0) (.string ⟨#[]⟩) (.int .i64 0))) := hik (by simpa using rowIs_keep (row4_new _ (.slice none 0 0) (.int .i64 0) (.string ⟨#[]⟩) (.int .i64 0) 33) kk)
  rw [hok] at he
  subst he
  have G := hik K.out
  have L0 : Hid (w.heap.size + 1 < W1.heap.size) := hik RZ.out.lt
  clear kk K
  have zA : w.heap.size < W1.heap.size := A.out.lt
  have xA0 : W1.cell? ⟨w.heap.size, 0, none⟩ = some (.slice c len cap) := A.out.cell (by omega)
  have xA1 : W1.cell? ⟨w.heap.size, 1, none⟩ = some (.int .i64 at') := A.out.cell (by omega)
  have xA2 : W1.cell? ⟨w.heap.size, 2, none⟩ = some (.string st) := A.out.cell (by omega)
  have xA3 : W1.cell? ⟨w.heap.size, 3, none⟩ = some (.int .i64 ct) := A.out.cell (by omega)
  go_wp2_with fail
  refine (drawsLeft_any c len cap f g at' st ct _ HP.out.2.2.1.1 HP.out.2.2.1.2 HP.out.2.2.2.2.1 HP.out.2.2.2.2.2).mono ?_
  rintro e W2 ⟨⟨lf, he, hlf⟩, kk⟩
  clear zA xA0 xA1 xA2 xA3
  have K := hik ((Chg.refl nob W1).trans kk)
  have s2 := hik K.out.size
  replace G := hik (G.out.trans K.out)
  replace A := hik (rowIs_keep A.out K.out)
  replace RZ := hik (rowIs_keep RZ.out K.out)
  subst he
  have b2 : ¬ lf < (n : Int) := by have := HAC.out; omega
  clear hlf
  clear kk K
  have zA : w.heap.size < W2.heap.size := A.out.lt
  have xA0 : W2.cell? ⟨w.heap.size, 0, none⟩ = some (.slice c len cap) := A.out.cell (by omega)
  have xA1 : W2.cell? ⟨w.heap.size, 1, none⟩ = some (.int .i64 at') := A.out.cell (by omega)
  have xA2 : W2.cell? ⟨w.heap.size, 2, none⟩ = some (.string st) := A.out.cell (by omega)
  have xA3 : W2.cell? ⟨w.heap.size, 3, none⟩ = some (.int .i64 ct) := A.out.cell (by omega)
  go_wp2_with fail
  refine (drawing_any c len cap n f g at' st ct _ (hik (htb.out.keep G.out)) (hik (h.out.keep G.out)) p1 p4 HP.out.2.2.1.1 HAC.out.1 HP.out.2.2.2.2.1 HAC.out.2 hn).mono ?_
  rintro e W3 ⟨c3, cap3, d3, cap3', rfl, o3, q3, kk⟩
  clear zA xA0 xA1 xA2 xA3
  have K := hik ((Chg.refl nob W2).trans kk)
  have s3 := hik K.out.size
  replace G := hik (G.out.trans K.out)
  replace A := hik (rowIs_keep A.out K.out)
  replace RZ := hik (rowIs_keep RZ.out K.out)
  have O3 := hik (o3.low (B' := W2.heap.size) (Nat.le_refl _))
  have D3 := hik (q3.low (B' := W2.heap.size) (Nat.le_refl _))
  clear o3 q3
  clear kk K
  have hz9 : w.heap.size + 1 < W3.heap.size := RZ.out.lt
  have y0 := RZ.out.cell (i := 0) (by omega)
  have v0 := RZ.out.frozen 0
  have y1 := RZ.out.cell (i := 1) (by omega)
  have v1 := RZ.out.frozen 1
  have y2 := RZ.out.cell (i := 2) (by omega)
  have v2 := RZ.out.frozen 2
  have y3 := RZ.out.cell (i := 3) (by omega)
  have v3 := RZ.out.frozen 3
  go_wp2
  have RX : Hid ((((((W3.setCell ⟨w.heap.size + 1, 0, none⟩ (.slice c3 len cap3)).setCell ⟨w.heap.size + 1, 1, none⟩ (.int .i64 (dnA len at' n))).setCell ⟨w.heap.size + 1, 2, none⟩ (.string st)).setCell ⟨w.heap.size + 1, 3, none⟩ (.int .i64 (dnC len ct n))).alloc (.cells #[.slice c3 len cap3, .int .i64 (dnA len at' n), .string st, .int .i64 (dnC len ct n)] 33)).rowIs (w.heap.size + 1) 33 4 (pv4 (.slice c3 len cap3) (.int .i64 (dnA len at' n)) (.string st) (.int .i64 (dnC len ct n)))) := hik (World.rowIs.alloc (row4_set RZ.out _ _ _ _) _)
  have u0 : (((((W3.setCell ⟨w.heap.size + 1, 0, none⟩ (.slice c3 len cap3)).setCell ⟨w.heap.size + 1, 1, none⟩ (.int .i64 (dnA len at' n))).setCell ⟨w.heap.size + 1, 2, none⟩ (.string st)).setCell ⟨w.heap.size + 1, 3, none⟩ (.int .i64 (dnC len ct n))).alloc (.cells #[.slice c3 len cap3, .int .i64 (dnA len at' n), .string st, .int .i64 (dnC len ct n)] 33)).cell? ⟨w.heap.size + 1, 0, none⟩ = some (.slice c3 len cap3) := RX.out.cell (by omega)
  have u1 : (((((W3.setCell ⟨w.heap.size + 1, 0, none⟩ (.slice c3 len cap3)).setCell ⟨w.heap.size + 1, 1, none⟩ (.int .i64 (dnA len at' n))).setCell ⟨w.heap.size + 1, 2, none⟩ (.string st)).setCell ⟨w.heap.size + 1, 3, none⟩ (.int .i64 (dnC len ct n))).alloc (.cells #[.slice c3 len cap3, .int .i64 (dnA len at' n), .string st, .int .i64 (dnC len ct n)] 33)).cell? ⟨w.heap.size + 1, 1, none⟩ = some (.int .i64 (dnA len at' n)) := RX.out.cell (by omega)
  have u2 : (((((W3.setCell ⟨w.heap.size + 1, 0, none⟩ (.slice c3 len cap3)).setCell ⟨w.heap.size + 1, 1, none⟩ (.int .i64 (dnA len at' n))).setCell ⟨w.heap.size + 1, 2, none⟩ (.string st)).setCell ⟨w.heap.size + 1, 3, none⟩ (.int .i64 (dnC len ct n))).alloc (.cells #[.slice c3 len cap3, .int .i64 (dnA len at' n), .string st, .int .i64 (dnC len ct n)] 33)).cell? ⟨w.heap.size + 1, 2, none⟩ = some (.string st) := RX.out.cell (by omega)
  have u3 : (((((W3.setCell ⟨w.heap.size + 1, 0, none⟩ (.slice c3 len cap3)).setCell ⟨w.heap.size + 1, 1, none⟩ (.int .i64 (dnA len at' n))).setCell ⟨w.heap.size + 1, 2, none⟩ (.string st)).setCell ⟨w.heap.size + 1, 3, none⟩ (.int .i64 (dnC len ct n))).alloc (.cells #[.slice c3 len cap3, .int .i64 (dnA len at' n), .string st, .int .i64 (dnC len ct n)] 33)).cell? ⟨w.heap.size + 1, 3, none⟩ = some (.int .i64 (dnC len ct n)) := RX.out.cell (by omega)
  exact bodyPost_ret (v := .tuple #[.agg #[.slice c3 len cap3, .int .i64 (dnA len at' n), .string st, .int .i64 (dnC len ct n)], .slice d3 n cap3', .int .i64 0]) (by simp [results, Tryz.results72, go_sem, u0, u1, u2, u3, row4_s0 RZ.out (.slice c3 len cap3), row4_s1 RZ.out (.slice c3 len cap3) (.int .i64 (dnA len at' n)), row4_s2 RZ.out (.slice c3 len cap3) (.int .i64 (dnA len at' n)) (.string st), row4_s3 RZ.out (.slice c3 len cap3) (.int .i64 (dnA len at' n)) (.string st) (.int .i64 (dnC len ct n))]) rfl ⟨_, _, _, _, rfl, (((O3.out.chg (P := fun b => b = w.heap.size + 1) (chg4_set (Chg.refl (fun b => b = w.heap.size + 1) W3) (w.heap.size + 1) (fun _ => rfl) _ _ _ _) (fun b hb _ hp => (by have := s1.out; have := L0.out; have := s2.out; have := s3.out; omega))).low (B' := w.heap.size) (by have := s1.out; have := L0.out; have := s2.out; have := s3.out; omega)).keep ((Chg.refl nob _).alloc _)), (((D3.out.chg (P := fun b => b = w.heap.size + 1) (chg4_set (Chg.refl (fun b => b = w.heap.size + 1) W3) (w.heap.size + 1) (fun _ => rfl) _ _ _ _) (fun b hb _ hp => (by have := s1.out; have := L0.out; have := s2.out; have := s3.out; omega))).low (B' := w.heap.size) (by have := s1.out; have := L0.out; have := s2.out; have := s3.out; omega)).keep ((Chg.refl nob _).alloc _)), (chg4_set G.out _ (fun l => absurd l (by simp)) _ _ _ _).alloc _⟩

/-- A source of the call's own, an element, and a code. -/
def OTAns (w : World) (n : Nat) (f g : Nat → Int) (at' : Int) (st : ByteArray) (ct x y code : Int) (e : Ending) (w' : World) : Prop :=
  ∃ (c : Option Addr) (cap : Nat), e = .returned (.tuple #[.agg #[.slice c n cap, .int .i64 at', .string st, .int .i64 ct], .agg #[.int .i64 x, .int .i64 y], .int .i64 code]) ∧ OwnE w' w.heap.size c n f g ∧ Chg nob w w'

set_option maxHeartbeats 2000000 in
theorem takeOne_ok (c : Option Addr) (len cap : Nat) (f g : Nat → Int) (at' : Int) (st : ByteArray) (ct : Int) (w : World) (htb : Hid (Tabs w)) (h : Hid (PairV w c len f g)) (hok : sokb f g len at' st ct = true) (a1 : at' + 1 ≤ 1000000) (c1 : ct + 1 ≤ 1000000) :
    Calls Tryz.prog 50 #[.agg #[.slice c len cap, .int .i64 at', .string st, .int .i64 ct]] w fun e w' => OTAns w len f g (dnA len at' 1) st (dnC len ct 1) (drE f len at' st ct 0) (drF g len at' st ct 0) 0 e w' := by
  obtain ⟨p1, p2, p3, p4, p5⟩ := sokb_parts hok
  have hl : (len : Int) ≤ 9223372036854775807 := by omega
  have hs : (st.size : Int) ≤ 9223372036854775807 := by omega
  have P := hik (sokb_parts hok)
  obtain ⟨x, hx⟩ : ∃ x, x = drE f len at' st ct 0 := ⟨_, rfl⟩
  obtain ⟨y, hy⟩ : ∃ y, y = drF g len at' st ct 0 := ⟨_, rfl⟩
  rw [← hx, ← hy]
  have HX := hik hx
  have HY := hik hy
  clear hx hy
  go_enter Tryz.func50, Tryz.ntmps50
  go_wp2_with fail
  refine (takeSome_ok c len cap f g at' st ct 1 _ (hik (htb.out.keep ((((Chg.refl nob w).alloc _).alloc _).alloc _))) (hik (h.out.keep ((((Chg.refl nob w).alloc _).alloc _).alloc _))) hok (by omega) a1 c1).mono ?_
  rintro e W1 ⟨c3, cap3, d3, cap3', rfl, o3, q3, k1⟩
  have G := hik (((((Chg.refl nob w).alloc _).alloc _).alloc _).trans k1)
  have RZ : Hid (W1.rowIs (w.heap.size + 1) 33 4 (pv4 (.slice none 0 0) (.int .i64 0) (.string ⟨#[]⟩) (.int .i64 0))) := hik (by simpa using rowIs_keep (World.rowIs.alloc (row4_new (w.alloc (.cells #[.slice c len cap, .int .i64 at', .string st, .int .i64 ct] 33)) (.slice none 0 0) (.int .i64 0) (.string ⟨#[]⟩) (.int .i64 0) 33) (.cells #[.int .i64 0, .int .i64 0] 31)) k1)
  have RE : Hid (W1.rowIs (w.heap.size + 1 + 1) 31 2 (pv2 (.int .i64 0) (.int .i64 0))) := hik (by simpa using rowIs_keep (row2_new ((w.alloc (.cells #[.slice c len cap, .int .i64 at', .string st, .int .i64 ct] 33)).alloc (.cells #[.slice none 0 0, .int .i64 0, .string ⟨#[]⟩, .int .i64 0] 33)) (.int .i64 0) (.int .i64 0) 31) k1)
  have L0 := hik (show w.heap.size + 3 ≤ W1.heap.size by have := k1.size; simp at this; omega)
  have O3 := hik o3
  have Q3 := hik q3
  obtain ⟨xb, xo, rfl, hxb, E0, E1⟩ := q3.pairs 0 (by omega)
  have e0 : W1.cell? ⟨xb, xo, none⟩ = some (.int .i64 x) := by rw [HX.out]; simpa using E0
  have e1 : W1.cell? ⟨xb, xo + 1, none⟩ = some (.int .i64 y) := by rw [HY.out]; simpa using E1
  have bl : w.heap.size + 3 ≤ xb := by
    rcases q3 with h0 | ⟨b, N, hh, ec, hb, _⟩
    · omega
    · simp at ec hb; omega
  clear k1 o3 q3 E0 E1
  have l1 : w.heap.size + 1 < W1.heap.size := RZ.out.lt
  have l2 : w.heap.size + 1 + 1 < W1.heap.size := RE.out.lt
  have n1 : ¬ xb = w.heap.size + 1 := by omega
  have n2 : ¬ xb = w.heap.size + 1 + 1 := by omega
  have n3 : ¬ xb = W1.heap.size := by omega
  have n4 : ¬ w.heap.size + 1 = W1.heap.size := by have := L0.out; omega
  have n5 : ¬ w.heap.size + 1 + 1 = W1.heap.size := by have := L0.out; omega
  have n6 : ¬ w.heap.size + 1 = xb := by omega
  have n7 : ¬ w.heap.size + 1 + 1 = xb := by omega
  have y0 := RZ.out.cell (i := 0) (by omega)
  have y1 := RZ.out.cell (i := 1) (by omega)
  have y2 := RZ.out.cell (i := 2) (by omega)
  have y3 := RZ.out.cell (i := 3) (by omega)
  have v0 := RZ.out.frozen 0
  have v1 := RZ.out.frozen 1
  have v2 := RZ.out.frozen 2
  have v3 := RZ.out.frozen 3
  have z0 := RE.out.cell (i := 0) (by omega)
  have z1 := RE.out.cell (i := 1) (by omega)
  have r0 := RE.out.frozen 0
  have r1 := RE.out.frozen 1
  go_wp2
  go_region
  go_wp2
  have RX : Hid ((((((((W1.setCell ⟨w.heap.size + 1, 0, none⟩ (.slice c3 len cap3)).setCell ⟨w.heap.size + 1, 1, none⟩ (.int .i64 (dnA len at' 1))).setCell ⟨w.heap.size + 1, 2, none⟩ (.string st)).setCell ⟨w.heap.size + 1, 3, none⟩ (.int .i64 (dnC len ct 1))).setCell ⟨w.heap.size + 1 + 1, 0, none⟩ (.int .i64 x)).setCell ⟨w.heap.size + 1 + 1, 1, none⟩ (.int .i64 y)).alloc (.cells #[.slice c3 len cap3, .int .i64 (dnA len at' 1), .string st, .int .i64 (dnC len ct 1)] 33)).rowIs (w.heap.size + 1) 33 4 (pv4 (.slice c3 len cap3) (.int .i64 (dnA len at' 1)) (.string st) (.int .i64 (dnC len ct 1)))) := hik (World.rowIs.alloc (row2_other (row4_set RZ.out _ _ _ _) (by omega) _ _) _)
  have RY : Hid ((((((((W1.setCell ⟨w.heap.size + 1, 0, none⟩ (.slice c3 len cap3)).setCell ⟨w.heap.size + 1, 1, none⟩ (.int .i64 (dnA len at' 1))).setCell ⟨w.heap.size + 1, 2, none⟩ (.string st)).setCell ⟨w.heap.size + 1, 3, none⟩ (.int .i64 (dnC len ct 1))).setCell ⟨w.heap.size + 1 + 1, 0, none⟩ (.int .i64 x)).setCell ⟨w.heap.size + 1 + 1, 1, none⟩ (.int .i64 y)).alloc (.cells #[.slice c3 len cap3, .int .i64 (dnA len at' 1), .string st, .int .i64 (dnC len ct 1)] 33)).rowIs (w.heap.size + 1 + 1) 31 2 (pv2 (.int .i64 x) (.int .i64 y))) := hik (World.rowIs.alloc (row2_set (row4_other RE.out (by omega) _ _ _ _) _ _) _)
  have u0 : (((((((W1.setCell ⟨w.heap.size + 1, 0, none⟩ (.slice c3 len cap3)).setCell ⟨w.heap.size + 1, 1, none⟩ (.int .i64 (dnA len at' 1))).setCell ⟨w.heap.size + 1, 2, none⟩ (.string st)).setCell ⟨w.heap.size + 1, 3, none⟩ (.int .i64 (dnC len ct 1))).setCell ⟨w.heap.size + 1 + 1, 0, none⟩ (.int .i64 x)).setCell ⟨w.heap.size + 1 + 1, 1, none⟩ (.int .i64 y)).alloc (.cells #[.slice c3 len cap3, .int .i64 (dnA len at' 1), .string st, .int .i64 (dnC len ct 1)] 33)).cell? ⟨w.heap.size + 1, 0, none⟩ = some (.slice c3 len cap3) := RX.out.cell (by omega)
  have u1 : (((((((W1.setCell ⟨w.heap.size + 1, 0, none⟩ (.slice c3 len cap3)).setCell ⟨w.heap.size + 1, 1, none⟩ (.int .i64 (dnA len at' 1))).setCell ⟨w.heap.size + 1, 2, none⟩ (.string st)).setCell ⟨w.heap.size + 1, 3, none⟩ (.int .i64 (dnC len ct 1))).setCell ⟨w.heap.size + 1 + 1, 0, none⟩ (.int .i64 x)).setCell ⟨w.heap.size + 1 + 1, 1, none⟩ (.int .i64 y)).alloc (.cells #[.slice c3 len cap3, .int .i64 (dnA len at' 1), .string st, .int .i64 (dnC len ct 1)] 33)).cell? ⟨w.heap.size + 1, 1, none⟩ = some (.int .i64 (dnA len at' 1)) := RX.out.cell (by omega)
  have u2 : (((((((W1.setCell ⟨w.heap.size + 1, 0, none⟩ (.slice c3 len cap3)).setCell ⟨w.heap.size + 1, 1, none⟩ (.int .i64 (dnA len at' 1))).setCell ⟨w.heap.size + 1, 2, none⟩ (.string st)).setCell ⟨w.heap.size + 1, 3, none⟩ (.int .i64 (dnC len ct 1))).setCell ⟨w.heap.size + 1 + 1, 0, none⟩ (.int .i64 x)).setCell ⟨w.heap.size + 1 + 1, 1, none⟩ (.int .i64 y)).alloc (.cells #[.slice c3 len cap3, .int .i64 (dnA len at' 1), .string st, .int .i64 (dnC len ct 1)] 33)).cell? ⟨w.heap.size + 1, 2, none⟩ = some (.string st) := RX.out.cell (by omega)
  have u3 : (((((((W1.setCell ⟨w.heap.size + 1, 0, none⟩ (.slice c3 len cap3)).setCell ⟨w.heap.size + 1, 1, none⟩ (.int .i64 (dnA len at' 1))).setCell ⟨w.heap.size + 1, 2, none⟩ (.string st)).setCell ⟨w.heap.size + 1, 3, none⟩ (.int .i64 (dnC len ct 1))).setCell ⟨w.heap.size + 1 + 1, 0, none⟩ (.int .i64 x)).setCell ⟨w.heap.size + 1 + 1, 1, none⟩ (.int .i64 y)).alloc (.cells #[.slice c3 len cap3, .int .i64 (dnA len at' 1), .string st, .int .i64 (dnC len ct 1)] 33)).cell? ⟨w.heap.size + 1, 3, none⟩ = some (.int .i64 (dnC len ct 1)) := RX.out.cell (by omega)
  have t0 : (((((((W1.setCell ⟨w.heap.size + 1, 0, none⟩ (.slice c3 len cap3)).setCell ⟨w.heap.size + 1, 1, none⟩ (.int .i64 (dnA len at' 1))).setCell ⟨w.heap.size + 1, 2, none⟩ (.string st)).setCell ⟨w.heap.size + 1, 3, none⟩ (.int .i64 (dnC len ct 1))).setCell ⟨w.heap.size + 1 + 1, 0, none⟩ (.int .i64 x)).setCell ⟨w.heap.size + 1 + 1, 1, none⟩ (.int .i64 y)).alloc (.cells #[.slice c3 len cap3, .int .i64 (dnA len at' 1), .string st, .int .i64 (dnC len ct 1)] 33)).cell? ⟨w.heap.size + 1 + 1, 0, none⟩ = some (.int .i64 x) := RY.out.cell (by omega)
  have t1 : (((((((W1.setCell ⟨w.heap.size + 1, 0, none⟩ (.slice c3 len cap3)).setCell ⟨w.heap.size + 1, 1, none⟩ (.int .i64 (dnA len at' 1))).setCell ⟨w.heap.size + 1, 2, none⟩ (.string st)).setCell ⟨w.heap.size + 1, 3, none⟩ (.int .i64 (dnC len ct 1))).setCell ⟨w.heap.size + 1 + 1, 0, none⟩ (.int .i64 x)).setCell ⟨w.heap.size + 1 + 1, 1, none⟩ (.int .i64 y)).alloc (.cells #[.slice c3 len cap3, .int .i64 (dnA len at' 1), .string st, .int .i64 (dnC len ct 1)] 33)).cell? ⟨w.heap.size + 1 + 1, 1, none⟩ = some (.int .i64 y) := RY.out.cell (by omega)
  have PC : Chg (fun b => b = w.heap.size + 1 ∨ b = w.heap.size + 1 + 1) W1 (((((((W1.setCell ⟨w.heap.size + 1, 0, none⟩ (.slice c3 len cap3)).setCell ⟨w.heap.size + 1, 1, none⟩ (.int .i64 (dnA len at' 1))).setCell ⟨w.heap.size + 1, 2, none⟩ (.string st)).setCell ⟨w.heap.size + 1, 3, none⟩ (.int .i64 (dnC len ct 1))).setCell ⟨w.heap.size + 1 + 1, 0, none⟩ (.int .i64 x)).setCell ⟨w.heap.size + 1 + 1, 1, none⟩ (.int .i64 y)).alloc (.cells #[.slice c3 len cap3, .int .i64 (dnA len at' 1), .string st, .int .i64 (dnC len ct 1)] 33)) := (chg2_set (chg4_set (Chg.refl _ W1) _ (fun _ => .inl rfl) _ _ _ _) _ (fun _ => .inr rfl) _ _).alloc _
  have GF : Chg nob w (((((((W1.setCell ⟨w.heap.size + 1, 0, none⟩ (.slice c3 len cap3)).setCell ⟨w.heap.size + 1, 1, none⟩ (.int .i64 (dnA len at' 1))).setCell ⟨w.heap.size + 1, 2, none⟩ (.string st)).setCell ⟨w.heap.size + 1, 3, none⟩ (.int .i64 (dnC len ct 1))).setCell ⟨w.heap.size + 1 + 1, 0, none⟩ (.int .i64 x)).setCell ⟨w.heap.size + 1 + 1, 1, none⟩ (.int .i64 y)).alloc (.cells #[.slice c3 len cap3, .int .i64 (dnA len at' 1), .string st, .int .i64 (dnC len ct 1)] 33)) := G.out.near PC (fun i e => by omega)
  exact bodyPost_ret (v := .tuple #[.agg #[.slice c3 len cap3, .int .i64 (dnA len at' 1), .string st, .int .i64 (dnC len ct 1)], .agg #[.int .i64 x, .int .i64 y], .int .i64 0]) (by simp [results, Tryz.results50, go_sem, u0, u1, u2, u3, t0, t1]) rfl ⟨_, _, rfl, ((O3.out.chg PC (fun b hb _ hp => (by simp at hb; have := L0.out; omega))).low (by simp; omega)).keep (Chg.refl nob _).drew, GF.drew⟩

end Go.Proofs.YtccgjbdjbgefiaaGreatDoor

namespace Go.Proofs.YtccgjbdjbgefiaaGreatDoor
open Go.ChangeShapes Go.WideShapes Go.ChangeAt Go.RowKit
set_option linter.unusedVariables false
set_option maxRecDepth 100000
set_option linter.unusedSimpArgs false

set_option maxHeartbeats 4000000 in
theorem diffs_any (c : Option Addr) (n cap : Nat) (v : Nat → El) (w : World) (h : Hid (PairE w c n v)) (hn : n ≤ 8) (hn1 : 1 ≤ n) : Calls Tryz.prog 51 #[.slice c n cap] w fun e w' => ∃ t, e = .returned (.agg (a8 t)) ∧ (∀ i, i < n → t i = El.dif v i 0) ∧ Chg nob w w' := by
  have hz := (zero_of_info info8).1
  go_enter Tryz.func51, Tryz.ntmps51
  go_wp2_with (first
    | ((with_reducible refine wpList_copy_a8 (.tmp 7) (.tmp 8) rfl rfl (w.heap.size + 1) c n cap ?hd ?hs (ArE.at_ (w.alloc (.cells (a8 zE) 80)) (w.heap.size + 1) (by simp) zE) (PairE.keep h.out (((Chg.refl nob w).alloc _).alloc _)) hn ?_); (case hd => rfl); (case hs => rfl); intro W1 r1 g1; have R1 := hik r1; have Z1 := hik (ArE.chg ((ArE.new w zE).keep ((Chg.refl nob _).alloc (.cells (a8 zE) 80))) g1 (by omega)); have G1 := hik (Chg.near (((Chg.refl nob w).alloc (.cells (a8 zE) 80)).alloc (.cells (a8 zE) 80)) g1 (fun i e => by omega)); clear r1 g1))
  clear hz
  go_loopw [5] (fun i W => ∃ (k K : Nat) (t : Nat → El), k < n ∧ i = .int .i64 (K : Int) ∧ Hid (K = k + 1) ∧ Hid (∀ i, i < n → t i = dfK v k i) ∧ Hid (ArE W (w.heap.size + 1) t) ∧ Hid (ArE W w.heap.size zE) ∧ Hid (Chg nob w W)) (fun i _ => n + 1 - (intOf i).toNat)
  case atStart => exact ⟨0, 1, fitE v n zE, by omega, rfl, hik rfl, hik (fun i hi => by unfold fitE; rw [if_pos hi, dfK_zero]), R1, Z1, G1⟩
  case round =>
    clear R1 Z1 G1
    obtain ⟨k, K, t, hk, rfl, HK, HT, HS, HZ, HG⟩ := hrel
    rename World => wo
    by_cases hlt : K < n
    · have hlt' : (K : Int) < (n : Int) := by omega
      have hwn : IntKind.i64.wrap ((n : Int) - 1) = (n : Int) - 1 := by rw [IntKind.wrap_i64]; omega
      go_wp2
      go_loopw [6] (fun i W => ∃ (q : Nat) (t : Nat → El), K ≤ q ∧ q ≤ n ∧ i = .int .i64 ((q : Int) - 1) ∧ Hid (∀ i, i < n → t i = dfQ v n k q i) ∧ Hid (ArE W (w.heap.size + 1) t) ∧ Hid (ArE W w.heap.size zE) ∧ Hid (Chg nob w W)) (fun i _ => (intOf i).toNat + 1)
      case atStart => exact ⟨n, t, Nat.le_of_lt hlt, Nat.le_refl _, rfl, hik (fun i hi => by rw [dfQ_start]; exact HT.out i hi), HS, HZ, HG⟩
      case round =>
        clear HT HS HZ HG
        obtain ⟨q, t, hq1, hq2, rfl, HT, HS, HZ, HG⟩ := hrel
        rename World => wi
        by_cases hql : K + 1 ≤ q
        · obtain ⟨j, rfl⟩ : ∃ j, q = j + 1 := ⟨q - 1, by omega⟩
          obtain ⟨p, rfl⟩ : ∃ p, j = p + 1 := ⟨j - 1, by have := HK.out; omega⟩
          obtain ⟨j, hj⟩ : ∃ j, j = p + 1 := ⟨_, rfl⟩
          rw [← hj] at HT hq1 hq2 hql ⊢
          rw [show (((j + 1 : Nat) : Int) - 1) = (j : Int) by omega]
          have HJ := hik hj
          have hjk : (K : Int) ≤ (j : Int) := by omega
          have hpj : p < j := by omega
          have hj8 : (j : Int) < 8 := by omega
          have hj0 : (0 : Int) ≤ (j : Int) := by omega
          have hp8 : (p : Int) < 8 := by omega
          have hp0 : (0 : Int) ≤ (p : Int) := by omega
          have hwp : IntKind.i64.wrap ((j : Int) - 1) = (p : Int) := by rw [IntKind.wrap_i64]; omega
          have hjn : j < n := by omega
          have hpn : p < n := by omega
          have hkj : k < j := by have := HK.out; omega
          clear hj
          have ej : t j = dfK v k j := by rw [HT.out j hjn]; exact dfQ_own (by omega)
          have ep : t p = dfK v k p := by rw [HT.out p hpn]; exact dfQ_own (by have := HJ.out; omega)
          have HN := hik (show El.sb (t j) (t p) = dfK v (k + 1) j by rw [ej, ep]; have e := dfK_step (v := v) hkj; rw [show j - 1 = p by have := HJ.out; omega] at e; exact e)
          clear ej ep
          have x0 := HS.out.c0 (k := j) (by omega)
          have x1 := HS.out.c1 (k := j) (by omega)
          have y0 := HS.out.c0 (k := p) (by omega)
          have y1 := HS.out.c1 (k := p) (by omega)
          go_wp2
          have KW := hik ((Chg.refl nob wi).drew1)
          have SA := hik (fun (WW : World) (kW : Chg nob wi WW) => (show (WW.cell? ⟨w.heap.size + 1, j * 2, none⟩ = some (.int .i64 (t j).v.1) ∧ WW.cell? ⟨w.heap.size + 1, j * 2 + 1, none⟩ = some (.int .i64 (t j).v.2) ∧ WW.cell? ⟨w.heap.size + 1, p * 2, none⟩ = some (.int .i64 (t p).v.1) ∧ WW.cell? ⟨w.heap.size + 1, p * 2 + 1, none⟩ = some (.int .i64 (t p).v.2)) from ⟨kW.see x0, kW.see x1, kW.see y0, kW.see y1⟩))
          refine wp_regionL (L := 10) (S := fun w' => w'.cell? ⟨w.heap.size + 1, j * 2, none⟩ = some (.int .i64 (t j).v.1) ∧ w'.cell? ⟨w.heap.size + 1, j * 2 + 1, none⟩ = some (.int .i64 (t j).v.2) ∧ w'.cell? ⟨w.heap.size + 1, p * 2, none⟩ = some (.int .i64 (t p).v.1) ∧ w'.cell? ⟨w.heap.size + 1, p * 2 + 1, none⟩ = some (.int .i64 (t p).v.2)) (by kernel_rfl) ⟨x0, x1, y0, y1⟩ (fun hHeld => ?_)
          refine wpAnyL_take (i := 0) (v := ?_) rfl (by kernel_rfl) (by kernel_rfl) (by kernel_rfl) (fun _ _ _ h => h) (by rfl) (by kernel_rfl) (by kernel_rfl) (Or.inl ⟨by rfl, ?_⟩) (by assumption) ?_
          rotate_left 1
          · (intro w' hSw; (try dsimp only at hSw); go_simp; try with_reducible rfl)
          try simp only [Act.put, List.setIfInBounds_toArray, List.set_cons_zero, List.set_cons_succ, List.getElem_toArray, List.getElem_cons_zero, List.getElem_cons_succ]
          refine wpAnyL_take (i := 1) (v := ?_) rfl (by kernel_rfl) (by kernel_rfl) (by kernel_rfl) (fun _ _ _ h => h) (by rfl) (by kernel_rfl) (by kernel_rfl) (Or.inl ⟨by rfl, ?_⟩) (by assumption) ?_
          rotate_left 1
          · (intro w' hSw; (try dsimp only at hSw); go_simp; try with_reducible rfl)
          try simp only [Act.put, List.setIfInBounds_toArray, List.set_cons_zero, List.set_cons_succ, List.getElem_toArray, List.getElem_cons_zero, List.getElem_cons_succ]
          refine wpAnyL_take (i := 2) (v := ?_) rfl (by kernel_rfl) (by kernel_rfl) (by kernel_rfl) (fun _ _ _ h => h) (by rfl) (by kernel_rfl) (by kernel_rfl) (Or.inl ⟨by rfl, ?_⟩) (by assumption) ?_
          rotate_left 1
          · (intro w' hSw; (try dsimp only at hSw); go_simp; try with_reducible rfl)
          try simp only [Act.put, List.setIfInBounds_toArray, List.set_cons_zero, List.set_cons_succ, List.getElem_toArray, List.getElem_cons_zero, List.getElem_cons_succ]
          refine wpAnyL_take (i := 3) (v := ?_) rfl (by kernel_rfl) (by kernel_rfl) (by kernel_rfl) (fun _ _ _ h => h) (by rfl) (by kernel_rfl) (by kernel_rfl) (Or.inl ⟨by rfl, ?_⟩) (by assumption) ?_
          rotate_left 1
          · (intro w' hSw; (try dsimp only at hSw); go_simp; try with_reducible rfl)
          try simp only [Act.put, List.setIfInBounds_toArray, List.set_cons_zero, List.set_cons_succ, List.getElem_toArray, List.getElem_cons_zero, List.getElem_cons_succ]
          refine wpAnyL_take (i := 4) (v := ?_) rfl (by kernel_rfl) (by kernel_rfl) (by kernel_rfl) (fun _ _ _ h => h) (by rfl) (by kernel_rfl) (by kernel_rfl) (Or.inl ⟨by rfl, ?_⟩) (by assumption) ?_
          rotate_left 1
          · (intro w' hSw; (try dsimp only at hSw); go_simp; try with_reducible rfl)
          try simp only [Act.put, List.setIfInBounds_toArray, List.set_cons_zero, List.set_cons_succ, List.getElem_toArray, List.getElem_cons_zero, List.getElem_cons_succ]
          refine wpAnyL_take (i := 5) (v := .int .i64 (p : Int)) rfl (by kernel_rfl) (by kernel_rfl) (by kernel_rfl) (fun _ _ _ h => h) (by rfl) (by kernel_rfl) (by kernel_rfl) (Or.inl ⟨by rfl, ?_⟩) (by assumption) ?_
          · (intro w' hSw; (try dsimp only at hSw); go_simp; first | done | exact hwp)
          try simp only [Act.put, List.setIfInBounds_toArray, List.set_cons_zero, List.set_cons_succ, List.getElem_toArray, List.getElem_cons_zero, List.getElem_cons_succ]
          refine wpAnyL_take (i := 6) (v := ?_) rfl (by kernel_rfl) (by kernel_rfl) (by kernel_rfl) (fun _ _ _ h => h) (by rfl) (by kernel_rfl) (by kernel_rfl) (Or.inl ⟨by rfl, ?_⟩) (by assumption) ?_
          rotate_left 1
          · (intro w' hSw; (try dsimp only at hSw); go_simp; try with_reducible rfl)
          try simp only [Act.put, List.setIfInBounds_toArray, List.set_cons_zero, List.set_cons_succ, List.getElem_toArray, List.getElem_cons_zero, List.getElem_cons_succ]
          refine wpAnyL_take (i := 7) (v := ?_) rfl (by kernel_rfl) (by kernel_rfl) (by kernel_rfl) (fun _ _ _ h => h) (by rfl) (by kernel_rfl) (by kernel_rfl) (Or.inl ⟨by rfl, ?_⟩) (by assumption) ?_
          rotate_left 1
          · (intro w' hSw; (try dsimp only at hSw); go_simp; try with_reducible rfl)
          try simp only [Act.put, List.setIfInBounds_toArray, List.set_cons_zero, List.set_cons_succ, List.getElem_toArray, List.getElem_cons_zero, List.getElem_cons_succ]
          refine wpAnyL_ready (rs := [8]) (by kernel_rfl) (by simp) ?_
          refine AllReadyL.cons rfl (fun K hK => ?_) AllReadyL.nil
          refine stepL_callN 52 #[.tmp 25, .tmp 29] #[31, 31] (by rfl) (by rfl) #[.agg #[.int .i64 (t j).v.1, .int .i64 (t j).v.2], .agg #[.int .i64 (t p).v.1, .int .i64 (t p).v.2]] (by simp only [List.map_toArray, List.map_cons, List.map_nil] <;> rfl) (run_go Tryz.func52 (by kernel_rfl) (by kernel_rfl) _ _) (sb_el (t j) (t p) _) ?_
          rintro e U1 ⟨he, kk⟩
          refine ⟨_, he, ?_⟩
          replace KW := hik (KW.out.trans kk)
          refine hK.out _ _ (SA.out _ KW.out) (fun hHeld => ?_)
          clear hK K
          try simp only [Act.put, List.setIfInBounds_toArray, List.set_cons_zero, List.set_cons_succ, List.getElem_toArray, List.getElem_cons_zero, List.getElem_cons_succ]
          clear he kk
          refine wpAnyL_take (i := 9) (v := ?_) rfl (by kernel_rfl) (by kernel_rfl) (by kernel_rfl) (fun _ _ _ h => h) (by rfl) (by kernel_rfl) (by kernel_rfl) (Or.inl ⟨by rfl, ?_⟩) (by assumption) ?_
          rotate_left 1
          · (intro w' hSw; (try dsimp only at hSw); go_simp; try with_reducible rfl)
          try simp only [Act.put, List.setIfInBounds_toArray, List.set_cons_zero, List.set_cons_succ, List.getElem_toArray, List.getElem_cons_zero, List.getElem_cons_succ]
          refine wpAnyL_ready (rs := [10]) (by kernel_rfl) (by simp) ?_
          refine AllReadyL.last rfl (by kernel_rfl) (fun K hK => ?_)
          have SN := hik (HS.out.keep KW.out)
          have g0 := SN.out.c0 (k := j) (by omega)
          have g1 := SN.out.c1 (k := j) (by omega)
          have f0 := SN.out.fz (j * 2)
          have f1 := SN.out.fz (j * 2 + 1)
          have ln : w.heap.size + 1 < U1.heap.size := SN.out.lt
          simp only [List.getElem_toArray, List.getElem_cons_zero, List.getElem_cons_succ]
          go_simp
          refine hK.out _ _ ?_
          clear hK K
          try simp only [Act.put, List.setIfInBounds_toArray, List.set_cons_zero, List.set_cons_succ, List.getElem_toArray, List.getElem_cons_zero, List.getElem_cons_succ]
          clear g0 g1 f0 f1 ln
          refine wpAnyL_done (by kernel_rfl) ?_ _
          have S2 := hik (SN.out.set j (El.sb (t j) (t p)))
          have Z2 := hik (ArE.other (HZ.out.keep KW.out) (g := w.heap.size + 1) (by omega) (j * 2) (j * 2 + 1) (.int .i64 (El.sb (t j) (t p)).v.1) (.int .i64 (El.sb (t j) (t p)).v.2))
          have G2 := hik (chg2_at (HG.out.trans KW.out) (w.heap.size + 1) (fun l => absurd l (by omega)) (j * 2) (j * 2 + 1) (.int .i64 (El.sb (t j) (t p)).v.1) (.int .i64 (El.sb (t j) (t p)).v.2))
          generalize hE : ((U1.setCell ⟨w.heap.size + 1, j * 2, none⟩ (.int .i64 (El.sb (t j) (t p)).v.1)).setCell ⟨w.heap.size + 1, j * 2 + 1, none⟩ (.int .i64 (El.sb (t j) (t p)).v.2)) = W2 at S2 Z2 G2 ⊢
          clear hE SN KW SA hHeld x0 x1 y0 y1 HS HZ HG
          have HT2 := hik (show ∀ i, i < n → upE t j (El.sb (t j) (t p)) i = dfQ v n k j i from fun i hi => by
            rw [HN.out, ← dfQ_step hkj hjn i]
            unfold upE
            by_cases e : i = j
            · rw [if_pos e, if_pos e]
            · rw [if_neg e, if_neg e]; exact HT.out i hi)
          go_wp2
          go_roundw
          case rel => exact ⟨j, _, by omega, by omega, by first | rfl | (have := HJ.out; congr 1; omega) | go_num, HT2, S2, Z2, G2⟩
          case measure => simp [intOf]; omega
        · obtain rfl : q = K := by omega
          have hc1 : ¬ (q : Int) ≤ ((q : Int) - 1) := by omega
          obtain ⟨K2, hK2⟩ : ∃ K2, K2 = q + 1 := ⟨_, rfl⟩
          have HK2 := hik hK2
          have hw2 : IntKind.i64.wrap ((q : Int) + 1) = (K2 : Int) := by rw [IntKind.wrap_i64]; omega
          have hm2 : n + 1 - K2 < n + 1 - q := by omega
          clear hK2
          go_wp2
          go_roundw
          case rel => exact ⟨k + 1, K2, t, by have := HK.out; omega, by first | rfl | go_num, hik (by rw [HK2.out, HK.out]), hik (fun i hi => by rw [HT.out i hi, HK.out]; exact dfQ_end hi), HS, HZ, HG⟩
          case measure => simp [intOf]; omega
    · have hc : ¬ (K : Int) < (n : Int) := by omega
      go_wp2_with (first
        | ((with_reducible refine wpList_load_a8 (.tmp 3) rfl rfl (w.heap.size + 1) ?hx HS.out ?_); (case hx => rfl))
        | ((with_reducible refine wpList_store_a8 (t := t) (.tmp 2) (.tmp 32) rfl rfl w.heap.size ?hx ?hy HZ.out ?_); (case hx => rfl); (case hy => rfl); intro W3 r3 g3; have R3 := hik r3; have G3 := hik (Chg.near HG.out g3 (fun i e => by omega)); clear r3 g3))
      exact bodyPost_ret (results_a8 rfl _ _ w.heap.size rfl R3.out) rfl ⟨t, rfl, fun i hi => by
        rw [HT.out i hi]
        unfold dfK
        by_cases e : i < k
        · rw [if_pos e]
        · obtain rfl : i = k := by have := HK.out; omega
          rw [if_neg e, Nat.sub_self], G3.out⟩

theorem sb_nb (x : El) (j : Nat) (hj : j < 100) (w : World) : Calls Tryz.prog 52 #[.agg #[.int .i64 x.v.1, .int .i64 x.v.2], .agg #[.int .i64 (j : Int), .int .i64 0]] w fun e w' => e = .returned (.agg #[.int .i64 (El.sb x (El.nb j)).v.1, .int .i64 (El.sb x (El.nb j)).v.2]) ∧ Chg nob w w' := by
  have h := sb_el x (El.nb j) w
  rw [nb_v hj, nb_w] at h
  exact h

theorem inv_nb (j : Nat) (hj : j < 100) (w : World) : Calls Tryz.prog 54 #[.agg #[.int .i64 (j : Int), .int .i64 0]] w fun e w' => e = .returned (.agg #[.int .i64 (El.inv (El.nb j)).v.1, .int .i64 (El.inv (El.nb j)).v.2]) ∧ Chg nob w w' := by
  have x := El.nb j
  have h := extInv_any (El.nb j).v.1 (El.nb j).v.2 w (El.nb j).lo1 (El.nb j).hi1 (El.nb j).lo2 (El.nb j).hi2
  have e1 : (El.inv (El.nb j)).v.1 = Fld.iA (El.nb j).v.1 (El.nb j).v.2 := rfl
  have e2 : (El.inv (El.nb j)).v.2 = Fld.iB (El.nb j).v.1 (El.nb j).v.2 := rfl
  rw [← e1, ← e2, nb_v hj, nb_w] at h
  exact h

set_option maxHeartbeats 4000000 in
theorem lineAt_any (x : El) (c : Option Addr) (n cap : Nat) (v : Nat → El) (w : World) (h : Hid (PairE w c n v)) (hn : n ≤ 8) (hn1 : 1 ≤ n) : Calls Tryz.prog 34 #[.agg #[.int .i64 x.v.1, .int .i64 x.v.2], .slice c n cap] w fun e w' => e = .returned (.agg #[.int .i64 (El.lag v x n).v.1, .int .i64 (El.lag v x n).v.2]) ∧ Chg nob w w' := by
  have hz := (zero_of_info info8).1
  obtain ⟨D, hD⟩ : ∃ D, D = fun s => El.dif v s 0 := ⟨_, rfl⟩
  have HV := hik (show El.lag v x n = El.nwt D x 0 n by rw [hD]; exact (El.nwt_lag v x (by omega)).symm)
  rw [HV.out]
  have HD := hik (show ∀ i, El.dif v i 0 = D i from fun i => by rw [hD])
  clear hD
  have hwn : IntKind.i64.wrap ((n : Int) - 1) = (n : Int) - 1 := by rw [IntKind.wrap_i64]; omega
  go_enter Tryz.func34, Tryz.ntmps34
  go_wp2_with (first
    | (go_at_call 51; refine (diffs_any c n cap v _ (hik (PairE.keep h.out ((((Chg.refl nob w).alloc _).alloc _).alloc _))) hn hn1).mono ?_; rintro e W1 ⟨t, rfl, ht, k1⟩; have HT := hik ht; have X1 := hik ((((ElB.new w x).keep ((Chg.refl nob _).alloc (.cells #[.int .i64 0, .int .i64 0] 31))).keep ((Chg.refl nob _).alloc (.cells #[.int .i64 0, .int .i64 0] 31))).keep k1); have R1 := hik (ElB.keep (ElB.keep (by simpa using ElB.zero (w.alloc (.cells #[.int .i64 x.v.1, .int .i64 x.v.2] 31)) : ElB ((w.alloc (.cells #[.int .i64 x.v.1, .int .i64 x.v.2] 31)).alloc (.cells #[.int .i64 0, .int .i64 0] 31)) (w.heap.size + 1) El.zr) ((Chg.refl nob _).alloc (.cells #[.int .i64 0, .int .i64 0] 31))) k1); have Y1 := hik (ElB.keep (by simpa using ElB.zero ((w.alloc (.cells #[.int .i64 x.v.1, .int .i64 x.v.2] 31)).alloc (.cells #[.int .i64 0, .int .i64 0] 31)) : ElB (((w.alloc (.cells #[.int .i64 x.v.1, .int .i64 x.v.2] 31)).alloc (.cells #[.int .i64 0, .int .i64 0] 31)).alloc (.cells #[.int .i64 0, .int .i64 0] 31)) (w.heap.size + 1 + 1) El.zr) k1); have G1 := hik (((((Chg.refl nob w).alloc _).alloc _).alloc _).trans k1); clear k1 ht)
    | ((with_reducible refine wpList_store_a8 (t := t) (.tmp 6) (.tmp 11) rfl rfl W1.heap.size ?hx ?hy (ArE.new W1 zE) ?_); (case hx => rfl); (case hy => rfl); intro W2 r2 g2; have D2 := hik r2; have hl1 : w.heap.size + 1 + 1 < W1.heap.size := Y1.out.lt; have X2 := hik ((X1.out.keep ((Chg.refl nob _).alloc (.cells (a8 zE) 80))).chg g2 (by omega)); have R2 := hik ((R1.out.keep ((Chg.refl nob _).alloc (.cells (a8 zE) 80))).chg g2 (by omega)); have Y2 := hik ((Y1.out.keep ((Chg.refl nob _).alloc (.cells (a8 zE) 80))).chg g2 (by omega)); have G2 := hik (Chg.near (G1.out.alloc (.cells (a8 zE) 80)) g2 (fun i e => by omega)); clear r2 g2))
  clear hz
  go_loopw [7] (fun i W => ∃ m : Nat, m ≤ n ∧ i = .int .i64 ((m : Int) - 1) ∧ Hid (ElB W (w.heap.size + 1 + 1) (El.nwt D x m (n - m))) ∧ Hid (ElB W w.heap.size x) ∧ Hid (ElB W (w.heap.size + 1) El.zr) ∧ Hid (ArE W W1.heap.size t) ∧ Hid (Chg nob w W)) (fun i _ => (intOf i + 1).toNat)
  case atStart => exact ⟨n, Nat.le_refl _, rfl, hik (by rw [Nat.sub_self]; exact Y2.out), X2, R2, D2, G2⟩
  case round =>
    clear X1 R1 Y1 G1 X2 R2 Y2 D2 G2
    obtain ⟨m, hm, rfl, HY, HX, HR, HA, HG⟩ := hrel
    rename World => wi
    by_cases hm0 : 0 < m
    · obtain ⟨j, rfl⟩ : ∃ j, m = j + 1 := ⟨m - 1, by omega⟩
      rw [show (((j + 1 : Nat) : Int) - 1) = (j : Int) by omega]
      obtain ⟨J, hJ⟩ : ∃ J, J = j + 1 := ⟨_, rfl⟩
      rw [← hJ] at HY hm hm0
      have HJ := hik hJ
      have hj0 : (0 : Int) ≤ (j : Int) := by omega
      have hj8 : (j : Int) < 8 := by omega
      have hwJ : IntKind.i64.wrap ((j : Int) + 1) = (J : Int) := by rw [IntKind.wrap_i64]; omega
      have hwj : IntKind.i64.wrap ((j : Int) - 1) = (j : Int) - 1 := by rw [IntKind.wrap_i64]; omega
      have hjn : j < n := by omega
      have hJ100 : J < 100 := by omega
      have hmj : j < J := by omega
      have hsub : n - j = (n - J) + 1 := by omega
      have HSUB := hik hsub
      clear hJ hsub
      have x0 := HX.out.c0
      have x1 := HX.out.c1
      go_wp2_with fail
      refine (sb_nb x j (by omega) _).mono ?_
      rintro e U1 ⟨rfl, k1⟩
      go_wp2_with fail
      refine (inv_nb J hJ100 _).mono ?_
      rintro e U2 ⟨rfl, k2⟩
      go_wp2_with fail
      refine (ml_el (El.sb x (El.nb j)) (El.inv (El.nb J)) _).mono ?_
      rintro e U3 ⟨rfl, k3⟩
      have kA := hik (((k1.trans k2).trans k3).alloc (.cells #[.int .i64 (El.ml (El.sb x (El.nb j)) (El.inv (El.nb J))).v.1, .int .i64 (El.ml (El.sb x (El.nb j)) (El.inv (El.nb J))).v.2] 31))
      have S3 := hik (ElB.new U3 (El.ml (El.sb x (El.nb j)) (El.inv (El.nb J))))
      have Y3 := hik (HY.out.keep kA.out)
      have X3 := hik (HX.out.keep kA.out)
      have R3 := hik (HR.out.keep kA.out)
      have A3 := hik (HA.out.keep kA.out)
      have G3 := hik (HG.out.trans kA.out)
      have hl3 : w.heap.size + 1 + 1 < U3.heap.size := (HY.out.keep ((k1.trans k2).trans k3)).lt
      have hl4 : W1.heap.size < U3.heap.size := (HA.out.keep ((k1.trans k2).trans k3)).lt
      clear k1 k2 k3 kA HY HX HR HA HG x0 x1
      obtain ⟨V3, hV3⟩ : ∃ V3, V3 = U3.alloc (.cells #[.int .i64 (El.ml (El.sb x (El.nb j)) (El.inv (El.nb J))).v.1, .int .i64 (El.ml (El.sb x (El.nb j)) (El.inv (El.nb J))).v.2] 31) := ⟨_, rfl⟩
      rw [← hV3] at S3 Y3 X3 R3 A3 G3
      have y0 := Y3.out.c0
      have y1 := Y3.out.c1
      have s0 := S3.out.c0
      have s1 := S3.out.c1
      have d0 := A3.out.c0 (k := j) (by omega)
      have d1 := A3.out.c1 (k := j) (by omega)
      have hgo := hV3.symm
      clear hV3
      go_wp2
      have KW := hik ((Chg.refl nob V3).drew1)
      have SA := hik (fun (WW : World) (kW : Chg nob V3 WW) => (show (WW.cell? ⟨w.heap.size + 1 + 1, 0, none⟩ = some (.int .i64 (El.nwt D x J (n - J)).v.1) ∧ WW.cell? ⟨w.heap.size + 1 + 1, 1, none⟩ = some (.int .i64 (El.nwt D x J (n - J)).v.2) ∧ WW.cell? ⟨U3.heap.size, 0, none⟩ = some (.int .i64 (El.ml (El.sb x (El.nb j)) (El.inv (El.nb J))).v.1) ∧ WW.cell? ⟨U3.heap.size, 1, none⟩ = some (.int .i64 (El.ml (El.sb x (El.nb j)) (El.inv (El.nb J))).v.2) ∧ WW.cell? ⟨W1.heap.size, j * 2, none⟩ = some (.int .i64 (t j).v.1) ∧ WW.cell? ⟨W1.heap.size, j * 2 + 1, none⟩ = some (.int .i64 (t j).v.2)) from ⟨kW.see y0, kW.see y1, kW.see s0, kW.see s1, kW.see d0, kW.see d1⟩))
      refine wp_regionL (L := 7) (S := fun w' => w'.cell? ⟨w.heap.size + 1 + 1, 0, none⟩ = some (.int .i64 (El.nwt D x J (n - J)).v.1) ∧ w'.cell? ⟨w.heap.size + 1 + 1, 1, none⟩ = some (.int .i64 (El.nwt D x J (n - J)).v.2) ∧ w'.cell? ⟨U3.heap.size, 0, none⟩ = some (.int .i64 (El.ml (El.sb x (El.nb j)) (El.inv (El.nb J))).v.1) ∧ w'.cell? ⟨U3.heap.size, 1, none⟩ = some (.int .i64 (El.ml (El.sb x (El.nb j)) (El.inv (El.nb J))).v.2) ∧ w'.cell? ⟨W1.heap.size, j * 2, none⟩ = some (.int .i64 (t j).v.1) ∧ w'.cell? ⟨W1.heap.size, j * 2 + 1, none⟩ = some (.int .i64 (t j).v.2)) (by kernel_rfl) ⟨y0, y1, s0, s1, d0, d1⟩ (fun hHeld => ?_)
      refine wpAnyL_take (i := 0) (v := ?_) rfl (by kernel_rfl) (by kernel_rfl) (by kernel_rfl) (fun _ _ _ h => h) (by rfl) (by kernel_rfl) (by kernel_rfl) (Or.inl ⟨by rfl, ?_⟩) (by assumption) ?_
      rotate_left 1
      · (intro w' hSw; (try dsimp only at hSw); go_simp; try with_reducible rfl)
      try simp only [Act.put, List.setIfInBounds_toArray, List.set_cons_zero, List.set_cons_succ, List.getElem_toArray, List.getElem_cons_zero, List.getElem_cons_succ]
      refine wpAnyL_take (i := 1) (v := ?_) rfl (by kernel_rfl) (by kernel_rfl) (by kernel_rfl) (fun _ _ _ h => h) (by rfl) (by kernel_rfl) (by kernel_rfl) (Or.inl ⟨by rfl, ?_⟩) (by assumption) ?_
      rotate_left 1
      · (intro w' hSw; (try dsimp only at hSw); go_simp; try with_reducible rfl)
      try simp only [Act.put, List.setIfInBounds_toArray, List.set_cons_zero, List.set_cons_succ, List.getElem_toArray, List.getElem_cons_zero, List.getElem_cons_succ]
      refine wpAnyL_take (i := 2) (v := ?_) rfl (by kernel_rfl) (by kernel_rfl) (by kernel_rfl) (fun _ _ _ h => h) (by rfl) (by kernel_rfl) (by kernel_rfl) (Or.inl ⟨by rfl, ?_⟩) (by assumption) ?_
      rotate_left 1
      · (intro w' hSw; (try dsimp only at hSw); go_simp; try with_reducible rfl)
      try simp only [Act.put, List.setIfInBounds_toArray, List.set_cons_zero, List.set_cons_succ, List.getElem_toArray, List.getElem_cons_zero, List.getElem_cons_succ]
      refine wpAnyL_take (i := 3) (v := ?_) rfl (by kernel_rfl) (by kernel_rfl) (by kernel_rfl) (fun _ _ _ h => h) (by rfl) (by kernel_rfl) (by kernel_rfl) (Or.inl ⟨by rfl, ?_⟩) (by assumption) ?_
      rotate_left 1
      · (intro w' hSw; (try dsimp only at hSw); go_simp; try with_reducible rfl)
      try simp only [Act.put, List.setIfInBounds_toArray, List.set_cons_zero, List.set_cons_succ, List.getElem_toArray, List.getElem_cons_zero, List.getElem_cons_succ]
      refine wpAnyL_take (i := 4) (v := ?_) rfl (by kernel_rfl) (by kernel_rfl) (by kernel_rfl) (fun _ _ _ h => h) (by rfl) (by kernel_rfl) (by kernel_rfl) (Or.inl ⟨by rfl, ?_⟩) (by assumption) ?_
      rotate_left 1
      · (intro w' hSw; (try dsimp only at hSw); go_simp; try with_reducible rfl)
      try simp only [Act.put, List.setIfInBounds_toArray, List.set_cons_zero, List.set_cons_succ, List.getElem_toArray, List.getElem_cons_zero, List.getElem_cons_succ]
      refine wpAnyL_ready (rs := [5]) (by kernel_rfl) (by simp) ?_
      refine AllReadyL.cons rfl (fun K hK => ?_) AllReadyL.nil
      refine stepL_callN 53 #[.tmp 31, .tmp 32] #[31, 31] (by rfl) (by rfl) #[.agg #[.int .i64 (El.ml (El.sb x (El.nb j)) (El.inv (El.nb J))).v.1, .int .i64 (El.ml (El.sb x (El.nb j)) (El.inv (El.nb J))).v.2], .agg #[.int .i64 (El.nwt D x J (n - J)).v.1, .int .i64 (El.nwt D x J (n - J)).v.2]] (by simp only [List.map_toArray, List.map_cons, List.map_nil] <;> rfl) (run_go Tryz.func53 (by kernel_rfl) (by kernel_rfl) _ _) (ml_el (El.ml (El.sb x (El.nb j)) (El.inv (El.nb J))) (El.nwt D x J (n - J)) _) ?_
      rintro e Q1 ⟨he, kk⟩
      refine ⟨_, he, ?_⟩
      replace KW := hik (KW.out.trans kk)
      refine hK.out _ _ (SA.out _ KW.out) (fun hHeld => ?_)
      clear hK K
      try simp only [Act.put, List.setIfInBounds_toArray, List.set_cons_zero, List.set_cons_succ, List.getElem_toArray, List.getElem_cons_zero, List.getElem_cons_succ]
      clear he kk
      refine wpAnyL_ready (rs := [6]) (by kernel_rfl) (by simp) ?_
      refine AllReadyL.cons rfl (fun K hK => ?_) AllReadyL.nil
      refine stepL_callN 32 #[.tmp 30, .tmp 33] #[31, 31] (by rfl) (by rfl) #[.agg #[.int .i64 (t j).v.1, .int .i64 (t j).v.2], .agg #[.int .i64 (El.ml (El.ml (El.sb x (El.nb j)) (El.inv (El.nb J))) (El.nwt D x J (n - J))).v.1, .int .i64 (El.ml (El.ml (El.sb x (El.nb j)) (El.inv (El.nb J))) (El.nwt D x J (n - J))).v.2]] (by simp only [List.map_toArray, List.map_cons, List.map_nil] <;> rfl) (run_go Tryz.func32 (by kernel_rfl) (by kernel_rfl) _ _) (ad_el (t j) (El.ml (El.ml (El.sb x (El.nb j)) (El.inv (El.nb J))) (El.nwt D x J (n - J))) _) ?_
      rintro e Q2 ⟨he, kk⟩
      refine ⟨_, he, ?_⟩
      replace KW := hik (KW.out.trans kk)
      refine hK.out _ _ (SA.out _ KW.out) (fun hHeld => ?_)
      clear hK K
      try simp only [Act.put, List.setIfInBounds_toArray, List.set_cons_zero, List.set_cons_succ, List.getElem_toArray, List.getElem_cons_zero, List.getElem_cons_succ]
      clear he kk
      refine wpAnyL_ready (rs := [7]) (by kernel_rfl) (by simp) ?_
      refine AllReadyL.last rfl (by kernel_rfl) (fun K hK => ?_)
      have EN := hik (Y3.out.keep KW.out)
      have g0 := EN.out.c0
      have g1 := EN.out.c1
      have f0 := EN.out.fz 0
      have f1 := EN.out.fz 1
      have ln : w.heap.size + 1 + 1 < Q2.heap.size := EN.out.lt
      simp only [List.getElem_toArray, List.getElem_cons_zero, List.getElem_cons_succ]
      go_simp
      refine hK.out _ _ ?_
      clear hK K
      try simp only [Act.put, List.setIfInBounds_toArray, List.set_cons_zero, List.set_cons_succ, List.getElem_toArray, List.getElem_cons_zero, List.getElem_cons_succ]
      clear g0 g1 f0 f1 ln
      refine wpAnyL_done (by kernel_rfl) ?_ _
      have E2 := hik (show ElB ((Q2.setCell ⟨w.heap.size + 1 + 1, 0, none⟩ (.int .i64 (El.ad (t j) (El.ml (El.ml (El.sb x (El.nb j)) (El.inv (El.nb J))) (El.nwt D x J (n - J)))).v.1)).setCell ⟨w.heap.size + 1 + 1, 1, none⟩ (.int .i64 (El.ad (t j) (El.ml (El.ml (El.sb x (El.nb j)) (El.inv (El.nb J))) (El.nwt D x J (n - J)))).v.2)) (w.heap.size + 1 + 1) (El.nwt D x j (n - j)) by
        have q := EN.out.set (El.ad (t j) (El.ml (El.ml (El.sb x (El.nb j)) (El.inv (El.nb J))) (El.nwt D x J (n - J))))
        rw [HSUB.out, El.nwt, ← HD.out j, ← HT.out j hjn, ← HJ.out]
        exact q)
      have X5 := hik (ElB.other (X3.out.keep KW.out) (g := w.heap.size + 1 + 1) (by omega) 0 1 (.int .i64 (El.ad (t j) (El.ml (El.ml (El.sb x (El.nb j)) (El.inv (El.nb J))) (El.nwt D x J (n - J)))).v.1) (.int .i64 (El.ad (t j) (El.ml (El.ml (El.sb x (El.nb j)) (El.inv (El.nb J))) (El.nwt D x J (n - J)))).v.2))
      have R5 := hik (ElB.other (R3.out.keep KW.out) (g := w.heap.size + 1 + 1) (by omega) 0 1 (.int .i64 (El.ad (t j) (El.ml (El.ml (El.sb x (El.nb j)) (El.inv (El.nb J))) (El.nwt D x J (n - J)))).v.1) (.int .i64 (El.ad (t j) (El.ml (El.ml (El.sb x (El.nb j)) (El.inv (El.nb J))) (El.nwt D x J (n - J)))).v.2))
      have A5 := hik (ArE.other (A3.out.keep KW.out) (g := w.heap.size + 1 + 1) (by omega) 0 1 (.int .i64 (El.ad (t j) (El.ml (El.ml (El.sb x (El.nb j)) (El.inv (El.nb J))) (El.nwt D x J (n - J)))).v.1) (.int .i64 (El.ad (t j) (El.ml (El.ml (El.sb x (El.nb j)) (El.inv (El.nb J))) (El.nwt D x J (n - J)))).v.2))
      have G5 := hik (chg2_at (G3.out.trans KW.out) (w.heap.size + 1 + 1) (fun l => absurd l (by omega)) 0 1 (.int .i64 (El.ad (t j) (El.ml (El.ml (El.sb x (El.nb j)) (El.inv (El.nb J))) (El.nwt D x J (n - J)))).v.1) (.int .i64 (El.ad (t j) (El.ml (El.ml (El.sb x (El.nb j)) (El.inv (El.nb J))) (El.nwt D x J (n - J)))).v.2))
      generalize hE : ((Q2.setCell ⟨w.heap.size + 1 + 1, 0, none⟩ (.int .i64 (El.ad (t j) (El.ml (El.ml (El.sb x (El.nb j)) (El.inv (El.nb J))) (El.nwt D x J (n - J)))).v.1)).setCell ⟨w.heap.size + 1 + 1, 1, none⟩ (.int .i64 (El.ad (t j) (El.ml (El.ml (El.sb x (El.nb j)) (El.inv (El.nb J))) (El.nwt D x J (n - J)))).v.2)) = W5 at E2 X5 R5 A5 G5 ⊢
      clear hE EN KW SA hHeld y0 y1 s0 s1 d0 d1 S3 Y3 X3 R3 A3 G3 hgo
      go_wp2
      go_roundw
      case rel => exact ⟨j, by omega, by first | rfl | go_num, E2, X5, R5, A5, G5⟩
      case measure => simp [intOf]
    · obtain rfl : m = 0 := by omega
      have HY2 := hik (show ElB wi (w.heap.size + 1 + 1) (El.nwt D x 0 n) from HY.out)
      clear HY
      have e0 := HY2.out.c0
      have e1 := HY2.out.c1
      have c0 : wi.cell? ⟨w.heap.size + 1, 0, none⟩ = some (.int .i64 0) := HR.out.c0
      have c1 : wi.cell? ⟨w.heap.size + 1, 1, none⟩ = some (.int .i64 0) := HR.out.c1
      have f0 := HR.out.fz 0
      have f1 := HR.out.fz 1
      go_wp2
      have u0 := (HR.out.set (El.nwt D x 0 n)).c0
      have u1 := (HR.out.set (El.nwt D x 0 n)).c1
      exact bodyPost_ret (v := .agg #[.int .i64 (El.nwt D x 0 n).v.1, .int .i64 (El.nwt D x 0 n).v.2]) (by simp [results, Tryz.results34, go_sem, u0, u1]) rfl ⟨rfl, chg2_at HG.out (w.heap.size + 1) (fun l => absurd l (by omega)) 0 1 _ _⟩

end Go.Proofs.YtccgjbdjbgefiaaGreatDoor
