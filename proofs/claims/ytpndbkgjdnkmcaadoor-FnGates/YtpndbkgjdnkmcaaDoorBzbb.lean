/- Several texts in one: Gates and circuits: which are right, how many of a kind there are: the program's contracts. Conditions: the table of shapes holds what the program's text lays. · A gate's text: the program's contract. Conditions: the table of shapes and the library's table of powers of ten hold what the program's text lays. -/
import Derived.Test.YtpndbkgjdnkmcaaDoorBzaa
import Derived.Test.YtpndbkgjdnkmcaaDoorBzac
import Derived.Test.YtpndbkgjdnkmcaaDoorBzad
import Derived.WalkKit
import Derived.Deep.DeepCutAuto
import Derived.Test.YtpndbkgjdnkmcaaDoorRows
import Derived.Test.YtpndbkgjdnkmcaaDoorBzbc
import Derived.Test.YtpndbkgjdnkmcaaDoorBzbd
import Derived.Deep.RegionHeld
import Derived.Test.YtpndbkgjdnkmcaaDoorBzab
import Derived.Test.YtpndbkgjdnkmcaaDoorBzav
import Derived.Lib.LaidTab
import Derived.Lib.AppendIntMem
import Derived.ChangeVars
namespace Go.Proofs.YtpndbkgjdnkmcaaDoor
open Go.ChangeShapes Go.WideShapes Go.ChangeAt Go.RowKit
set_option linter.unusedVariables false
set_option maxRecDepth 100000
set_option linter.unusedSimpArgs false

/-- The words of the shapes. -/
def shWs : List (List UInt8) := [[105, 110, 112, 117, 116], [112, 117, 98, 108, 105, 99], [99, 111, 110, 115, 116], [97, 100, 100], [115, 117, 98], [109, 117, 108], [101, 113, 117, 97, 108], [98, 105, 116]]
def shw (i : Nat) : ByteArray := ⟨(shWs.getD i []).toArray⟩
/-- Their places. -/
def shp (i : Nat) : Int := ([0, 0, 0, 2, 2, 2, 2, 1] : List Int).getD i 0
/-- Whether they have a number. -/
def shn (i : Nat) : Bool := i == 2
/-- The table of shapes holds what the program's text lays. -/
structure Shp (w : World) : Prop where
  w0 : ∀ i, i < 8 → w.cell? ⟨0, i * 3, none⟩ = some (.string (shw i))
  w1 : ∀ i, i < 8 → w.cell? ⟨0, i * 3 + 1, none⟩ = some (.int .i64 (shp i))
  w2 : ∀ i, i < 8 → w.cell? ⟨0, i * 3 + 2, none⟩ = some (.bool (shn i))
theorem Shp.keep {w w' : World} (h : Shp w) (k : Chg nob w w') : Shp w' :=
  ⟨fun i hi => k.see (h.w0 i hi), fun i hi => k.see (h.w1 i hi), fun i hi => k.see (h.w2 i hi)⟩
theorem gtb_sh (i : Nat) (hi : i < 8) (m a b k : Int) : gtb m ((i : Int) + 1, a, b, k) = (ptb a (decide (0 < shp i)) m && (ptb b (decide (1 < shp i)) m && ptb k (shn i) 2130706433)) := by
  rcases (show i = 0 ∨ i = 1 ∨ i = 2 ∨ i = 3 ∨ i = 4 ∨ i = 5 ∨ i = 6 ∨ i = 7 by omega) with rfl | rfl | rfl | rfl | rfl | rfl | rfl | rfl <;> simp [gtb, usg, shp, shn]
theorem gtb_out (m : Int) (x : Gt) (h : ¬ (1 ≤ x.1 ∧ x.1 ≤ 8)) : gtb m x = false := by
  unfold gtb
  rw [show (decide (1 ≤ x.1) && decide (x.1 ≤ 8)) = false by simp; omega]
  rfl

set_option maxHeartbeats 1000000 in
theorem isOp_any (o : Int) (w : World) : Calls Tryd.prog 32 #[.int .i64 o] w fun e w' => e = .returned (.bool (decide (1 ≤ o) && decide (o ≤ 8))) ∧ w' = w := by
  by_cases h0 : 1 ≤ o
  · go_enter Tryd.func32, Tryd.ntmps32
    go_wp2
    go_ret
    exact ⟨ret_bool (by simp [h0]), rfl⟩
  · go_enter Tryd.func32, Tryd.ntmps32
    go_wp2
    go_ret
    exact ⟨ret_bool (by simp; omega), rfl⟩

set_option maxHeartbeats 1000000 in
theorem partOK_any (n : Int) (has : Bool) (m : Int) (w : World) : Calls Tryd.prog 33 #[.int .i64 n, .bool has, .int .i64 m] w fun e w' => e = .returned (.bool (ptb n has m)) ∧ w' = w := by
  by_cases h0 : 0 ≤ n
  · cases has with
    | true =>
      go_enter Tryd.func33, Tryd.ntmps33
      go_wp2
      go_ret
      exact ⟨ret_bool (by simp [ptb, h0]), rfl⟩
    | false =>
      go_enter Tryd.func33, Tryd.ntmps33
      go_wp2
      go_ret
      exact ⟨ret_bool (by simp [ptb, h0]), rfl⟩
  · cases has with
    | true =>
      go_enter Tryd.func33, Tryd.ntmps33
      go_wp2
      go_ret
      exact ⟨ret_bool (by simp [ptb]; omega), rfl⟩
    | false =>
      go_enter Tryd.func33, Tryd.ntmps33
      go_wp2
      go_ret
      exact ⟨ret_bool (by simp [ptb]; omega), rfl⟩

set_option maxHeartbeats 2000000 in
theorem shapeOf_any (i : Nat) (hi : i < 8) (w : World) (h : Hid (Shp w)) : Calls Tryd.prog 15 #[.int .i64 ((i : Int) + 1)] w fun e w' => e = .returned (.agg #[.string (shw i), .int .i64 (shp i), .bool (shn i)]) ∧ Chg nob w w' := by
  have KB := hik ((Chg.refl nob w).alloc (.cells #[.string ⟨#[]⟩, .int .i64 0, .bool false] 45))
  have KC := hik ((Chg.refl nob w).alloc (.cells #[.string (shw i), .int .i64 (shp i), .bool (shn i)] 45))
  have c0 := KB.out.see (h.out.w0 i hi)
  have c1 := KB.out.see (h.out.w1 i hi)
  have c2 := KB.out.see (h.out.w2 i hi)
  have n2 : (i : Int) < 8 := by omega
  go_enter Tryd.func15, Tryd.ntmps15
  go_wp2
  exact bodyPost_ret (v := .agg #[.string (shw i), .int .i64 (shp i), .bool (shn i)]) (by simp [results, Tryd.results15, go_sem, *]) rfl ⟨rfl, KC.out⟩

set_option maxHeartbeats 4000000 in
theorem right_any (x : Gt) (m : Int) (w : World) (h : Hid (Shp w)) : Calls Tryd.prog 18 #[.agg #[.int .i64 x.1, .int .i64 x.2.1, .int .i64 x.2.2.1, .int .i64 x.2.2.2], .int .i64 m] w fun e w' => e = .returned (.bool (gtb m x)) ∧ Chg nob w w' := by
  obtain ⟨o, a, b, k⟩ := x
  have KB := hik ((Chg.refl nob w).alloc (.cells #[.int .i64 o, .int .i64 a, .int .i64 b, .int .i64 k] 23))
  by_cases ho : 1 ≤ o ∧ o ≤ 8
  · obtain ⟨i, hi, rfl⟩ : ∃ i : Nat, i < 8 ∧ o = (i : Int) + 1 := ⟨(o - 1).toNat, by omega, by omega⟩
    have HG := hik (gtb_sh i hi m a b k)
    have hop : (decide (1 ≤ (i : Int) + 1) && decide ((i : Int) + 1 ≤ 8)) = true := by simp; omega
    have hio := isOp_any ((i : Int) + 1) (w.alloc (.cells #[.int .i64 ((i : Int) + 1), .int .i64 a, .int .i64 b, .int .i64 k] 23))
    rw [hop] at hio
    have hsh := shapeOf_any i hi (w.alloc (.cells #[.int .i64 ((i : Int) + 1), .int .i64 a, .int .i64 b, .int .i64 k] 23)) (hik (h.out.keep KB.out))
    generalize gtb m ((i : Int) + 1, a, b, k) = ans at HG ⊢
    generalize shp i = S at HG hsh
    generalize shn i = N at HG hsh
    generalize shw i = Wd at hsh
    have x1 : World.cell? (w.alloc (.cells #[.int .i64 ((i : Int) + 1), .int .i64 a, .int .i64 b, .int .i64 k] 23)) ⟨w.heap.size, 1, none⟩ = some (.int .i64 a) := by go_simp
    have x2 : World.cell? (w.alloc (.cells #[.int .i64 ((i : Int) + 1), .int .i64 a, .int .i64 b, .int .i64 k] 23)) ⟨w.heap.size, 2, none⟩ = some (.int .i64 b) := by go_simp
    have x3 : World.cell? (w.alloc (.cells #[.int .i64 ((i : Int) + 1), .int .i64 a, .int .i64 b, .int .i64 k] 23)) ⟨w.heap.size, 3, none⟩ = some (.int .i64 k) := by go_simp
    clear hop h ho hi
    go_enter Tryd.func18, Tryd.ntmps18
    go_wp2_with fail
    refine hio.mono ?_
    rintro e w' ⟨rfl, hw⟩
    have hw := hw.symm
    subst hw
    go_wp2_with fail
    refine hsh.mono ?_
    rintro e W1 ⟨rfl, k1⟩
    have K1 := hik ((KB.out.trans k1).alloc (.cells #[.string Wd, .int .i64 S, .bool N] 45))
    have y1 := ((Chg.refl nob W1).alloc (.cells #[.string Wd, .int .i64 S, .bool N] 45)).look (k1.look x1)
    have y2 := ((Chg.refl nob W1).alloc (.cells #[.string Wd, .int .i64 S, .bool N] 45)).look (k1.look x2)
    have y3 := ((Chg.refl nob W1).alloc (.cells #[.string Wd, .int .i64 S, .bool N] 45)).look (k1.look x3)
    clear k1 x1 x2 x3 hio hsh KB
    cases b1 : ptb a (decide (0 < S)) m with
    | false =>
      go_wp2_with (go_at_call 33; refine (partOK_any _ _ _ _).mono ?_; rintro e w' ⟨rfl, hw⟩; have hw := hw.symm; subst hw)
      go_ret
      exact ⟨ret_bool (by rw [HG.out, b1]; rfl), K1.out⟩
    | true =>
    cases b2 : ptb b (decide (1 < S)) m with
    | false =>
      go_wp2_with (go_at_call 33; refine (partOK_any _ _ _ _).mono ?_; rintro e w' ⟨rfl, hw⟩; have hw := hw.symm; subst hw)
      go_ret
      exact ⟨ret_bool (by rw [HG.out, b1, b2]; rfl), K1.out⟩
    | true =>
      go_wp2_with (go_at_call 33; refine (partOK_any _ _ _ _).mono ?_; rintro e w' ⟨rfl, hw⟩; have hw := hw.symm; subst hw)
      go_ret
      exact ⟨ret_bool (by rw [HG.out, b1, b2]; simp), K1.out⟩
  · have hop : (decide (1 ≤ o) && decide (o ≤ 8)) = false := by simp; omega
    have hio := isOp_any o (w.alloc (.cells #[.int .i64 o, .int .i64 a, .int .i64 b, .int .i64 k] 23))
    rw [hop] at hio
    have HG := hik (gtb_out m (o, a, b, k) ho)
    go_enter Tryd.func18, Tryd.ntmps18
    go_wp2_with (go_at_call 32; refine hio.mono ?_; rintro e w' ⟨rfl, hw⟩; have hw := hw.symm; subst hw)
    go_ret
    exact ⟨ret_bool HG.out.symm, KB.out⟩


end Go.Proofs.YtpndbkgjdnkmcaaDoor

namespace Go.Proofs.YtpndbkgjdnkmcaaDoor
open Go.ChangeShapes Go.WideShapes Go.ChangeAt Go.RowKit
set_option linter.unusedVariables false
set_option maxRecDepth 100000
set_option linter.unusedSimpArgs false

def NmAns (w : World) (g : Gt) (e : Ending) (w' : World) : Prop := ∃ b cap, e = .returned (.slice (some ⟨b, 0, none⟩) (gnn g.1) cap) ∧ RowV w' (some ⟨b, 0, none⟩) (gnn g.1) (iv (gnv g)) ∧ Chg nob w w'
theorem gnn_sh (i : Nat) (hi : i < 8) : gnn ((i : Int) + 1) = if shn i = true then 1 else (shp i).toNat := by
  rcases (show i = 0 ∨ i = 1 ∨ i = 2 ∨ i = 3 ∨ i = 4 ∨ i = 5 ∨ i = 6 ∨ i = 7 by omega) with rfl | rfl | rfl | rfl | rfl | rfl | rfl | rfl <;> rfl
set_option maxHeartbeats 2000000 in
theorem numbers_any (i : Nat) (hi : i < 8) (a b k : Int) (w : World) (h : Hid (Shp w)) : Calls Tryd.prog 22 #[.agg #[.int .i64 ((i : Int) + 1), .int .i64 a, .int .i64 b, .int .i64 k]] w fun e w' => NmAns w ((i : Int) + 1, a, b, k) e w' := by
  have KB := hik ((Chg.refl nob w).alloc (.cells #[.int .i64 ((i : Int) + 1), .int .i64 a, .int .i64 b, .int .i64 k] 23))
  have hsh := shapeOf_any i hi (w.alloc (.cells #[.int .i64 ((i : Int) + 1), .int .i64 a, .int .i64 b, .int .i64 k] 23)) (hik (h.out.keep KB.out))
  have x1 : World.cell? (w.alloc (.cells #[.int .i64 ((i : Int) + 1), .int .i64 a, .int .i64 b, .int .i64 k] 23)) ⟨w.heap.size, 1, none⟩ = some (.int .i64 a) := by go_simp
  have x2 : World.cell? (w.alloc (.cells #[.int .i64 ((i : Int) + 1), .int .i64 a, .int .i64 b, .int .i64 k] 23)) ⟨w.heap.size, 2, none⟩ = some (.int .i64 b) := by go_simp
  have x3 : World.cell? (w.alloc (.cells #[.int .i64 ((i : Int) + 1), .int .i64 a, .int .i64 b, .int .i64 k] 23)) ⟨w.heap.size, 3, none⟩ = some (.int .i64 k) := by go_simp
  have HN := hik (gnn_sh i hi)
  have HS := hik (show (shp i = 0 ∨ shp i = 1 ∨ shp i = 2) ∧ (shn i = true ↔ (i : Int) + 1 = 3) by
    rcases (show i = 0 ∨ i = 1 ∨ i = 2 ∨ i = 3 ∨ i = 4 ∨ i = 5 ∨ i = 6 ∨ i = 7 by omega) with rfl | rfl | rfl | rfl | rfl | rfl | rfl | rfl <;> decide)
  generalize shw i = Wd at hsh
  generalize shp i = S at hsh HN HS
  generalize shn i = N at hsh HN HS
  have HO := hik hi
  clear hi h
  go_enter Tryd.func22, Tryd.ntmps22
  go_wp2_with fail
  refine hsh.mono ?_
  rintro e W1 ⟨rfl, k1⟩
  have K1 := hik ((KB.out.trans k1).alloc (.cells #[.string Wd, .int .i64 S, .bool N] 45))
  have y1 := ((Chg.refl nob W1).alloc (.cells #[.string Wd, .int .i64 S, .bool N] 45)).look (k1.look x1)
  have y2 := ((Chg.refl nob W1).alloc (.cells #[.string Wd, .int .i64 S, .bool N] 45)).look (k1.look x2)
  have y3 := ((Chg.refl nob W1).alloc (.cells #[.string Wd, .int .i64 S, .bool N] 45)).look (k1.look x3)
  clear k1 x1 x2 x3 hsh KB
  cases N with
  | true =>
    have EG := hik (show gnn ((i : Int) + 1) = 1 by rw [HN.out]; rfl)
    have EO := hik (HS.out.2.1 rfl)
    go_wp2
    go_ret
    refine ⟨W1.heap.size + 1, 1, by rw [EG.out]; rfl, ?_, K1.out.alloc _⟩
    rw [EG.out]
    intro j hj
    obtain rfl : j = 0 := by omega
    exact ⟨_, 0, rfl, by simp, by simp [iv, gnv, EO.out]⟩
  | false =>
    have EO := hik (show ¬ (i : Int) + 1 = 3 from fun q => by have := HS.out.2.2 q; cases this)
    have EG := hik (show gnn ((i : Int) + 1) = S.toNat by rw [HN.out]; rfl)
    have RR := hik (show RowV ((W1.alloc (.cells #[.string Wd, .int .i64 S, .bool false] 45)).alloc (.cells #[.int .i64 a, .int .i64 b] 3)) (some ⟨W1.heap.size + 1, 0, none⟩) 2 (iv (gnv ((i : Int) + 1, a, b, k))) from fun j hj => by
      rcases (show j = 0 ∨ j = 1 by omega) with rfl | rfl
      · exact ⟨_, 0, rfl, by simp, by simp [iv, gnv, EO.out]⟩
      · exact ⟨_, 0, rfl, by simp, by simp [iv, gnv, EO.out]⟩)
    rcases HS.out.1 with rfl | rfl | rfl
    · go_wp2
      go_ret
      exact ⟨W1.heap.size + 1, 2, by rw [EG.out]; rfl, by rw [EG.out]; exact fun j hj => RR.out j (by have : j < 0 := hj; omega), K1.out.alloc _⟩
    · go_wp2
      go_ret
      exact ⟨W1.heap.size + 1, 2, by rw [EG.out]; rfl, by rw [EG.out]; exact fun j hj => RR.out j (by have : j < 1 := hj; omega), K1.out.alloc _⟩
    · go_wp2
      go_ret
      exact ⟨W1.heap.size + 1, 2, by rw [EG.out]; rfl, by rw [EG.out]; exact fun j hj => RR.out j (by have : j < 2 := hj; omega), K1.out.alloc _⟩
theorem field_sh0 (x : ByteArray) (n : Int) (b : Bool) (W : World) : (Instr.field 45 (.agg #[.string x, .int .i64 n, .bool b]) 0).run Tryd.prog W = .ok (.string x) W := by
  first | kernel_rfl | (simp [Instr.field, Tryd.underlying45]; rfl)
set_option maxHeartbeats 2000000 in
theorem gateText_any (op ga gb gk : Int) (w : World) (h : Hid (Shp w)) (ht : Hid (Pw10 w)) : Calls Tryd.prog 9 #[.agg #[.int .i64 op, .int .i64 ga, .int .i64 gb, .int .i64 gk]] w fun e w' => e = .returned (.tuple #[.string ⟨(gxt (op, ga, gb, gk)).toArray⟩, .int .i64 (gxc (op, ga, gb, gk))]) ∧ Chg nob w w' := by
  have KB := hik ((Chg.refl nob w).alloc (.cells #[.int .i64 op, .int .i64 ga, .int .i64 gb, .int .i64 gk] 23))
  have hr := right_any (op, ga, gb, gk) 15 (w.alloc (.cells #[.int .i64 op, .int .i64 ga, .int .i64 gb, .int .i64 gk] 23)) (hik (h.out.keep KB.out))
  dsimp only at hr
  have x0 : World.cell? (w.alloc (.cells #[.int .i64 op, .int .i64 ga, .int .i64 gb, .int .i64 gk] 23)) ⟨w.heap.size, 0, none⟩ = some (.int .i64 op) := by go_simp
  have x1 : World.cell? (w.alloc (.cells #[.int .i64 op, .int .i64 ga, .int .i64 gb, .int .i64 gk] 23)) ⟨w.heap.size, 1, none⟩ = some (.int .i64 ga) := by go_simp
  have x2 : World.cell? (w.alloc (.cells #[.int .i64 op, .int .i64 ga, .int .i64 gb, .int .i64 gk] 23)) ⟨w.heap.size, 2, none⟩ = some (.int .i64 gb) := by go_simp
  have x3 : World.cell? (w.alloc (.cells #[.int .i64 op, .int .i64 ga, .int .i64 gb, .int .i64 gk] 23)) ⟨w.heap.size, 3, none⟩ = some (.int .i64 gk) := by go_simp
  cases hg : gtb 15 (op, ga, gb, gk) with
  | false =>
    have HX := hik (show gxt (op, ga, gb, gk) = [] by unfold gxt; rw [hg]; rfl)
    have HC := hik (show gxc (op, ga, gb, gk) = 1 by unfold gxc; rw [hg]; rfl)
    rw [hg] at hr
    rw [HX.out, HC.out]
    go_enter Tryd.func9, Tryd.ntmps9
    go_wp2_with (go_at_call 18; refine hr.mono ?_; rintro e W1 ⟨rfl, k1⟩; have K1 := hik (KB.out.trans k1); clear k1)
    go_ret2
    exact ⟨rfl, K1.out⟩
  | true =>
    have HX := hik (show gxt (op, ga, gb, gk) = txl (gwd op) (gnv (op, ga, gb, gk)) (gnn op) by unfold gxt; rw [hg]; exact gtl_txl _ _)
    have HC := hik (show gxc (op, ga, gb, gk) = 0 by unfold gxc; rw [hg]; rfl)
    have HNM := hik (gtb_nums hg)
    have ho : 1 ≤ op ∧ op ≤ 8 := by
      have h2 := hg
      unfold gtb at h2
      simp only [Bool.and_eq_true, decide_eq_true_eq] at h2
      exact h2.1
    rw [hg] at hr
    rw [HX.out, HC.out]
    obtain ⟨i, hi, eo⟩ : ∃ i : Nat, i < 8 ∧ op = (i : Int) + 1 := ⟨(op - 1).toNat, by omega, by omega⟩
    have HSH := hik (fun W (k : Chg nob w W) => shapeOf_any i hi W (hik (h.out.keep k)))
    have HNB := hik (fun W (k : Chg nob w W) => numbers_any i hi ga gb gk W (hik (h.out.keep k)))
    have HW := hik (show shw i = ⟨(gwd ((i : Int) + 1)).toArray⟩ by
      rcases (show i = 0 ∨ i = 1 ∨ i = 2 ∨ i = 3 ∨ i = 4 ∨ i = 5 ∨ i = 6 ∨ i = 7 by omega) with rfl | rfl | rfl | rfl | rfl | rfl | rfl | rfl <;> rfl)
    rw [HW.out] at HSH
    unfold NmAns at HNB
    dsimp only at HNB
    rw [← eo] at HSH HNB
    have hn2 : gnn op ≤ 2 := by unfold gnn usg; split <;> (try split) <;> (try split) <;> omega
    have hw2 := gwd_len op
    generalize gwd op = Wd at HSH hw2 ⊢
    generalize gnv (op, ga, gb, gk) = NV at HNB HNM ⊢
    generalize gnn op = nn at HNB hn2 ⊢
    clear eo hg ho HW HX HC hi
    generalize shp i = S at HSH
    generalize shn i = N at HSH
    have hfl := fun W => field_sh0 ⟨Wd.toArray⟩ S N W
    have HWD := hik (And.intro hn2 hw2)
    clear hn2 hw2
    go_enter Tryd.func9, Tryd.ntmps9
    go_wp2_with (go_at_call 18; refine hr.mono ?_; rintro e W1 ⟨rfl, k1⟩; have K1 := hik (KB.out.trans k1); have y0 := k1.look x0; have y1 := k1.look x1; have y2 := k1.look x2; have y3 := k1.look x3; clear k1)
    clear x0 x1 x2 x3 KB hr
    have KW := hik ((Chg.refl nob W1).drew1)
    have SA := hik (fun (WW : World) (kW : Chg nob W1 WW) => (show (WW.cell? ⟨w.heap.size, 0, none⟩ = some (.int .i64 op) ∧ WW.cell? ⟨w.heap.size, 1, none⟩ = some (.int .i64 ga) ∧ WW.cell? ⟨w.heap.size, 2, none⟩ = some (.int .i64 gb) ∧ WW.cell? ⟨w.heap.size, 3, none⟩ = some (.int .i64 gk)) from ⟨kW.see y0, kW.see y1, kW.see y2, kW.see y3⟩))
    refine wp_region_held_drew (S := fun w' => w'.cell? ⟨w.heap.size, 0, none⟩ = some (.int .i64 op) ∧ w'.cell? ⟨w.heap.size, 1, none⟩ = some (.int .i64 ga) ∧ w'.cell? ⟨w.heap.size, 2, none⟩ = some (.int .i64 gb) ∧ w'.cell? ⟨w.heap.size, 3, none⟩ = some (.int .i64 gk)) (by kernel_rfl) ⟨y0, y1, y2, y3⟩ (fun hHeld => ?_)
    refine wpAnyH_take (i := 0) (v := ?_) rfl (by kernel_rfl) (by kernel_rfl) (by kernel_rfl) (fun _ _ _ h => h) (Or.inl ⟨by rfl, ?_⟩) (by assumption) ?_
    rotate_left 1
    · (intro w' hSw; (try dsimp only at hSw); go_simp; try with_reducible rfl)
    try simp only [Act.put, List.setIfInBounds_toArray, List.set_cons_zero, List.set_cons_succ, List.getElem_toArray, List.getElem_cons_zero, List.getElem_cons_succ]
    refine wpAnyH_take (i := 1) (v := ?_) rfl (by kernel_rfl) (by kernel_rfl) (by kernel_rfl) (fun _ _ _ h => h) (Or.inl ⟨by rfl, ?_⟩) (by assumption) ?_
    rotate_left 1
    · (intro w' hSw; (try dsimp only at hSw); go_simp; try with_reducible rfl)
    try simp only [Act.put, List.setIfInBounds_toArray, List.set_cons_zero, List.set_cons_succ, List.getElem_toArray, List.getElem_cons_zero, List.getElem_cons_succ]
    refine wpAnyH_take (i := 4) (v := ?_) rfl (by kernel_rfl) (by kernel_rfl) (by kernel_rfl) (fun _ _ _ h => h) (Or.inl ⟨by rfl, ?_⟩) (by assumption) ?_
    rotate_left 1
    · (intro w' hSw; (try dsimp only at hSw); go_simp; try with_reducible rfl)
    try simp only [Act.put, List.setIfInBounds_toArray, List.set_cons_zero, List.set_cons_succ, List.getElem_toArray, List.getElem_cons_zero, List.getElem_cons_succ]
    refine wpAnyH_ready (rs := [2]) (by kernel_rfl) (by simp) ?_
    refine AllReadyH.cons rfl (fun K hK => ?_) AllReadyH.nil
    refine stepL_callN 15 #[.tmp 8] #[3] (by rfl) (by rfl) #[.int .i64 op] (by simp only [List.map_toArray, List.map_cons, List.map_nil] <;> rfl) (run_go Tryd.func15 (by kernel_rfl) (by kernel_rfl) _ _) (HSH.out _ (K1.out.trans KW.out)) ?_
    rintro e U1 ⟨he, kk⟩
    refine ⟨_, he, ?_⟩
    replace KW := hik (KW.out.trans kk)
    refine hK.out _ _ (SA.out _ KW.out) (fun hHeld => ?_)
    clear hK K
    try simp only [Act.put, List.setIfInBounds_toArray, List.set_cons_zero, List.set_cons_succ, List.getElem_toArray, List.getElem_cons_zero, List.getElem_cons_succ]
    clear he kk
    refine wpAnyH_take (i := 3) (v := ?_) rfl (by kernel_rfl) (by kernel_rfl) (by kernel_rfl) (fun _ _ _ h => h) (Or.inl ⟨by rfl, ?_⟩) (by assumption) ?_
    rotate_left 1
    · (intro w' hSw; (try dsimp only at hSw); go_simp; try with_reducible rfl)
    try simp only [Act.put, List.setIfInBounds_toArray, List.set_cons_zero, List.set_cons_succ, List.getElem_toArray, List.getElem_cons_zero, List.getElem_cons_succ]
    refine wpAnyH_ready (rs := [5]) (by kernel_rfl) (by simp) ?_
    refine AllReadyH.cons rfl (fun K hK => ?_) AllReadyH.nil
    refine stepL_callN 22 #[.tmp 11] #[23] (by rfl) (by rfl) #[.agg #[.int .i64 op, .int .i64 ga, .int .i64 gb, .int .i64 gk]] (by simp only [List.map_toArray, List.map_cons, List.map_nil] <;> rfl) (run_go Tryd.func22 (by kernel_rfl) (by kernel_rfl) _ _) (HNB.out _ (K1.out.trans KW.out)) ?_
    rintro e U2 ⟨nb, ncap, he, rn, kk⟩
    have RN := hik rn
    clear rn
    refine ⟨_, he, ?_⟩
    replace KW := hik (KW.out.trans kk)
    refine hK.out _ _ (SA.out _ KW.out) (fun hHeld => ?_)
    clear hK K
    try simp only [Act.put, List.setIfInBounds_toArray, List.set_cons_zero, List.set_cons_succ, List.getElem_toArray, List.getElem_cons_zero, List.getElem_cons_succ]
    clear he kk
    refine wpAnyH_ready (rs := [6]) (by kernel_rfl) (by simp) ?_
    refine AllReadyH.cons rfl (fun K hK => ?_) AllReadyH.nil
    refine stepL_callN 21 #[.tmp 10, .tmp 12] #[9, 41] (by rfl) (by rfl) #[.string ⟨Wd.toArray⟩, .slice (some ⟨nb, 0, none⟩) nn ncap] (by simp only [List.map_toArray, List.map_cons, List.map_nil] <;> rfl) (run_go Tryd.func21 (by kernel_rfl) (by kernel_rfl) _ _) (textOf_any Wd _ nn ncap NV _ RN (hik (fun k _ => HNM.out k)) (by have := HWD.out.1; omega) (by have := HWD.out.2; omega) (hik (ht.out.keep (K1.out.trans KW.out)))) ?_
    rintro e U3 ⟨he, kk⟩
    refine ⟨_, he, ?_⟩
    replace KW := hik (KW.out.trans kk)
    refine hK.out _ _ (SA.out _ KW.out) (fun hHeld => ?_)
    clear hK K
    try simp only [Act.put, List.setIfInBounds_toArray, List.set_cons_zero, List.set_cons_succ, List.getElem_toArray, List.getElem_cons_zero, List.getElem_cons_succ]
    clear he kk
    refine wpAnyH_take (i := 7) (v := ?_) rfl (by kernel_rfl) (by kernel_rfl) (by kernel_rfl) (fun _ _ _ h => h) (Or.inl ⟨by rfl, ?_⟩) (by assumption) ?_
    rotate_left 1
    · (intro w' hSw; (try dsimp only at hSw); go_simp; try with_reducible rfl)
    try simp only [Act.put, List.setIfInBounds_toArray, List.set_cons_zero, List.set_cons_succ, List.getElem_toArray, List.getElem_cons_zero, List.getElem_cons_succ]
    refine wpAnyH_take (i := 8) (v := ?_) rfl (by kernel_rfl) (by kernel_rfl) (by kernel_rfl) (fun _ _ _ h => h) (Or.inl ⟨by rfl, ?_⟩) (by assumption) ?_
    rotate_left 1
    · (intro w' hSw; (try dsimp only at hSw); go_simp; try with_reducible rfl)
    try simp only [Act.put, List.setIfInBounds_toArray, List.set_cons_zero, List.set_cons_succ, List.getElem_toArray, List.getElem_cons_zero, List.getElem_cons_succ]
    refine wpAnyH_done (by kernel_rfl) ?_ _
    clear SA hHeld
    go_wp2
    go_ret2
    exact ⟨rfl, K1.out.trans KW.out⟩

end Go.Proofs.YtpndbkgjdnkmcaaDoor
