/- Gates and circuits: which are right, how many of a kind there are: the program's contracts. Conditions: the table of shapes holds what the program's text lays. -/
import Derived.Test.YtgimmmmiodlepabDoorGatE
import Derived.Test.YtgimmmmiodlepabDoorWalks
import Derived.Test.YtgimmmmiodlepabDoorLook
import Derived.WalkKit
import Derived.Deep.DeepCutAuto
namespace Go.Proofs.YtgimmmmiodlepabDoor
open Go.ChangeShapes Go.WideShapes Go.ChangeAt Go.RowKit
set_option linter.unusedVariables false
set_option maxRecDepth 100000
set_option linter.unusedSimpArgs false

/-- The words of the shapes. -/
def shWs : List (List UInt8) := [[105, 110, 112, 117, 116], [112, 117, 98, 108, 105, 99], [99, 111, 110, 115, 116], [97, 100, 100], [115, 117, 98], [109, 117, 108], [101, 113, 117, 97, 108], [98, 105, 116]]
def shw (i : Nat) : ByteArray := ⟨(shWs.getD i []).toArray⟩
/-- Their places. -/
def shp (i : Nat) : Int := ([0, 0, 0, 2, 2, 2, 2, 1] : List Int).getD i 0
/-- Whether they have a number. -/
def shn (i : Nat) : Bool := i == 2
/-- The table of shapes holds what the program's text lays. -/
structure Shp (w : World) : Prop where
  w0 : ∀ i, i < 8 → w.cell? ⟨0, i * 3, none⟩ = some (.string (shw i))
  w1 : ∀ i, i < 8 → w.cell? ⟨0, i * 3 + 1, none⟩ = some (.int .i64 (shp i))
  w2 : ∀ i, i < 8 → w.cell? ⟨0, i * 3 + 2, none⟩ = some (.bool (shn i))
theorem Shp.keep {w w' : World} (h : Shp w) (k : Chg nob w w') : Shp w' :=
  ⟨fun i hi => k.see (h.w0 i hi), fun i hi => k.see (h.w1 i hi), fun i hi => k.see (h.w2 i hi)⟩
theorem gtb_sh (i : Nat) (hi : i < 8) (m a b k : Int) : gtb m ((i : Int) + 1, a, b, k) = (ptb a (decide (0 < shp i)) m && (ptb b (decide (1 < shp i)) m && ptb k (shn i) 2130706433)) := by
  rcases (show i = 0 ∨ i = 1 ∨ i = 2 ∨ i = 3 ∨ i = 4 ∨ i = 5 ∨ i = 6 ∨ i = 7 by omega) with rfl | rfl | rfl | rfl | rfl | rfl | rfl | rfl <;> simp [gtb, usg, shp, shn]
theorem gtb_out (m : Int) (x : Gt) (h : ¬ (1 ≤ x.1 ∧ x.1 ≤ 8)) : gtb m x = false := by
  unfold gtb
  rw [show (decide (1 ≤ x.1) && decide (x.1 ≤ 8)) = false by simp; omega]
  rfl

set_option maxHeartbeats 1000000 in
theorem isOp_any (o : Int) (w : World) : Calls Tryd.prog 89 #[.int .i64 o] w fun e w' => e = .returned (.bool (decide (1 ≤ o) && decide (o ≤ 8))) ∧ w' = w := by
  by_cases h0 : 1 ≤ o
  · go_enter Tryd.func89, Tryd.ntmps89
    go_wp2
    go_ret
    exact ⟨ret_bool (by simp [h0]), rfl⟩
  · go_enter Tryd.func89, Tryd.ntmps89
    go_wp2
    go_ret
    exact ⟨ret_bool (by simp; omega), rfl⟩

set_option maxHeartbeats 1000000 in
theorem partOK_any (n : Int) (has : Bool) (m : Int) (w : World) : Calls Tryd.prog 90 #[.int .i64 n, .bool has, .int .i64 m] w fun e w' => e = .returned (.bool (ptb n has m)) ∧ w' = w := by
  by_cases h0 : 0 ≤ n
  · cases has with
    | true =>
      go_enter Tryd.func90, Tryd.ntmps90
      go_wp2
      go_ret
      exact ⟨ret_bool (by simp [ptb, h0]), rfl⟩
    | false =>
      go_enter Tryd.func90, Tryd.ntmps90
      go_wp2
      go_ret
      exact ⟨ret_bool (by simp [ptb, h0]), rfl⟩
  · cases has with
    | true =>
      go_enter Tryd.func90, Tryd.ntmps90
      go_wp2
      go_ret
      exact ⟨ret_bool (by simp [ptb]; omega), rfl⟩
    | false =>
      go_enter Tryd.func90, Tryd.ntmps90
      go_wp2
      go_ret
      exact ⟨ret_bool (by simp [ptb]; omega), rfl⟩

set_option maxHeartbeats 2000000 in
theorem shapeOf_any (i : Nat) (hi : i < 8) (w : World) (h : Hid (Shp w)) : Calls Tryd.prog 56 #[.int .i64 ((i : Int) + 1)] w fun e w' => e = .returned (.agg #[.string (shw i), .int .i64 (shp i), .bool (shn i)]) ∧ Chg nob w w' := by
  have KB := hik ((Chg.refl nob w).alloc (.cells #[.string ⟨#[]⟩, .int .i64 0, .bool false] 95))
  have KC := hik ((Chg.refl nob w).alloc (.cells #[.string (shw i), .int .i64 (shp i), .bool (shn i)] 95))
  have c0 := KB.out.see (h.out.w0 i hi)
  have c1 := KB.out.see (h.out.w1 i hi)
  have c2 := KB.out.see (h.out.w2 i hi)
  have n2 : (i : Int) < 8 := by omega
  go_enter Tryd.func56, Tryd.ntmps56
  go_wp2
  exact bodyPost_ret (v := .agg #[.string (shw i), .int .i64 (shp i), .bool (shn i)]) (by simp [results, Tryd.results56, go_sem, *]) rfl ⟨rfl, KC.out⟩

set_option maxHeartbeats 4000000 in
theorem right_any (x : Gt) (m : Int) (w : World) (h : Hid (Shp w)) : Calls Tryd.prog 55 #[.agg #[.int .i64 x.1, .int .i64 x.2.1, .int .i64 x.2.2.1, .int .i64 x.2.2.2], .int .i64 m] w fun e w' => e = .returned (.bool (gtb m x)) ∧ Chg nob w w' := by
  obtain ⟨o, a, b, k⟩ := x
  have KB := hik ((Chg.refl nob w).alloc (.cells #[.int .i64 o, .int .i64 a, .int .i64 b, .int .i64 k] 51))
  by_cases ho : 1 ≤ o ∧ o ≤ 8
  · obtain ⟨i, hi, rfl⟩ : ∃ i : Nat, i < 8 ∧ o = (i : Int) + 1 := ⟨(o - 1).toNat, by omega, by omega⟩
    have HG := hik (gtb_sh i hi m a b k)
    have hop : (decide (1 ≤ (i : Int) + 1) && decide ((i : Int) + 1 ≤ 8)) = true := by simp; omega
    have hio := isOp_any ((i : Int) + 1) (w.alloc (.cells #[.int .i64 ((i : Int) + 1), .int .i64 a, .int .i64 b, .int .i64 k] 51))
    rw [hop] at hio
    have hsh := shapeOf_any i hi (w.alloc (.cells #[.int .i64 ((i : Int) + 1), .int .i64 a, .int .i64 b, .int .i64 k] 51)) (hik (h.out.keep KB.out))
    generalize gtb m ((i : Int) + 1, a, b, k) = ans at HG ⊢
    generalize shp i = S at HG hsh
    generalize shn i = N at HG hsh
    generalize shw i = Wd at hsh
    have x1 : World.cell? (w.alloc (.cells #[.int .i64 ((i : Int) + 1), .int .i64 a, .int .i64 b, .int .i64 k] 51)) ⟨w.heap.size, 1, none⟩ = some (.int .i64 a) := by go_simp
    have x2 : World.cell? (w.alloc (.cells #[.int .i64 ((i : Int) + 1), .int .i64 a, .int .i64 b, .int .i64 k] 51)) ⟨w.heap.size, 2, none⟩ = some (.int .i64 b) := by go_simp
    have x3 : World.cell? (w.alloc (.cells #[.int .i64 ((i : Int) + 1), .int .i64 a, .int .i64 b, .int .i64 k] 51)) ⟨w.heap.size, 3, none⟩ = some (.int .i64 k) := by go_simp
    clear hop h ho hi
    go_enter Tryd.func55, Tryd.ntmps55
    go_wp2_with fail
    refine hio.mono ?_
    rintro e w' ⟨rfl, hw⟩
    have hw := hw.symm
    subst hw
    go_wp2_with fail
    refine hsh.mono ?_
    rintro e W1 ⟨rfl, k1⟩
    have K1 := hik ((KB.out.trans k1).alloc (.cells #[.string Wd, .int .i64 S, .bool N] 95))
    have y1 := ((Chg.refl nob W1).alloc (.cells #[.string Wd, .int .i64 S, .bool N] 95)).look (k1.look x1)
    have y2 := ((Chg.refl nob W1).alloc (.cells #[.string Wd, .int .i64 S, .bool N] 95)).look (k1.look x2)
    have y3 := ((Chg.refl nob W1).alloc (.cells #[.string Wd, .int .i64 S, .bool N] 95)).look (k1.look x3)
    clear k1 x1 x2 x3 hio hsh KB
    cases b1 : ptb a (decide (0 < S)) m with
    | false =>
      go_wp2_with (go_at_call 90; refine (partOK_any _ _ _ _).mono ?_; rintro e w' ⟨rfl, hw⟩; have hw := hw.symm; subst hw)
      go_ret
      exact ⟨ret_bool (by rw [HG.out, b1]; rfl), K1.out⟩
    | true =>
    cases b2 : ptb b (decide (1 < S)) m with
    | false =>
      go_wp2_with (go_at_call 90; refine (partOK_any _ _ _ _).mono ?_; rintro e w' ⟨rfl, hw⟩; have hw := hw.symm; subst hw)
      go_ret
      exact ⟨ret_bool (by rw [HG.out, b1, b2]; rfl), K1.out⟩
    | true =>
      go_wp2_with (go_at_call 90; refine (partOK_any _ _ _ _).mono ?_; rintro e w' ⟨rfl, hw⟩; have hw := hw.symm; subst hw)
      go_ret
      exact ⟨ret_bool (by rw [HG.out, b1, b2]; simp), K1.out⟩
  · have hop : (decide (1 ≤ o) && decide (o ≤ 8)) = false := by simp; omega
    have hio := isOp_any o (w.alloc (.cells #[.int .i64 o, .int .i64 a, .int .i64 b, .int .i64 k] 51))
    rw [hop] at hio
    have HG := hik (gtb_out m (o, a, b, k) ho)
    go_enter Tryd.func55, Tryd.ntmps55
    go_wp2_with (go_at_call 89; refine hio.mono ?_; rintro e w' ⟨rfl, hw⟩; have hw := hw.symm; subst hw)
    go_ret
    exact ⟨ret_bool HG.out.symm, KB.out⟩

set_option maxHeartbeats 4000000 in
theorem count_any (c : Option Addr) (n cap : Nat) (G : Nat → Gt) (o : Int) (w : World) (hv : Hid (GatV w c n G)) (hn : n ≤ 1099511627776) :
    Calls Tryd.prog 33 #[.agg #[.slice c n cap], .int .i64 o] w fun e w' => e = .returned (.int .i64 (ctg o n G : Nat)) ∧ Chg nob w w' := by
  have KB := hik ((Chg.refl nob w).alloc (.cells #[.slice c n cap] 33))
  go_enter Tryd.func33, Tryd.ntmps33
  go_wp2
  go_loopw [5, 11] (fun v i W => ∃ k : Nat, k ≤ n ∧ i = .int .i64 k ∧ v = .int .i64 (ctg o k G : Nat) ∧ Hid (Chg nob w W)) (fun _ i _ => n - (intOf i).toNat)
  case atStart => exact ⟨0, Nat.zero_le _, rfl, rfl, KB⟩
  case round =>
    obtain ⟨k, hk, rfl, rfl, HC⟩ := hrel
    by_cases hlt : k < n
    · obtain ⟨xb, xo, rfl, hxb, c0, c1, c2, c3⟩ := (hv.out.keep HC.out) k hlt
      have hkn : ((k : Nat) : Int) < n := by omega
      have hcb := ctg_le o G k
      have HST := hik (ctg_s o k G)
      generalize hx0 : (G k).1 = x0 at c0 HST
      generalize (G k).2.1 = x1 at c1
      generalize (G k).2.2.1 = x2 at c2
      generalize (G k).2.2.2 = x3 at c3
      clear hx0
      generalize ctg o k G = C at hcb HST
      have HC2 := hik (HC.out.alloc (.cells #[.int .i64 x0, .int .i64 x1, .int .i64 x2, .int .i64 x3] 51))
      by_cases he : x0 = o
      · subst he
        rw [if_pos rfl] at HST
        go_wp2
        go_roundw
        case rel => exact ⟨k + 1, by omega, by go_num, by rw [HST.out]; go_num, HC2⟩
        case measure => simp [intOf]; omega
      · rw [if_neg he] at HST
        go_wp2
        go_roundw
        case rel => exact ⟨k + 1, by omega, by go_num, by rw [HST.out]; go_num, HC2⟩
        case measure => simp [intOf]; omega
    · obtain rfl : k = n := by omega
      go_wp2
      go_ret
      exact ⟨rfl, HC.out⟩

set_option maxHeartbeats 4000000 in
theorem circuitOK_any (c : Option Addr) (n cap : Nat) (G : Nat → Gt) (w : World) (hv : Hid (GatV w c n G)) (h : Hid (Shp w)) (hn : n ≤ 1099511627776) :
    Calls Tryd.prog 32 #[.agg #[.slice c n cap]] w fun e w' => e = .returned (.bool (crb n G)) ∧ Chg nob w w' := by
  have KB := hik ((Chg.refl nob w).alloc (.cells #[.slice c n cap] 33))
  have x0 : World.cell? (w.alloc (.cells #[.slice c n cap] 33)) ⟨w.heap.size, 0, none⟩ = some (.slice c n cap) := by go_simp
  by_cases h1 : n < 1
  · have HC := hik (show crb n G = false by unfold crb; rw [decide_eq_false (by omega)]; rfl)
    obtain rfl : n = 0 := by omega
    go_enter Tryd.func32, Tryd.ntmps32
    go_wp2
    go_ret
    exact ⟨ret_bool HC.out.symm, KB.out⟩
  have h1' : ¬ (n : Int) < 1 := by omega
  by_cases h2 : 15 < n
  · have HC := hik (show crb n G = false by unfold crb; rw [decide_eq_false (by omega)]; rfl)
    have h2' : (15 : Int) < n := by omega
    go_enter Tryd.func32, Tryd.ntmps32
    go_wp2
    go_ret
    exact ⟨ret_bool HC.out.symm, KB.out⟩
  have h2' : ¬ (15 : Int) < n := by omega
  have HC := hik (show crb n G = (gsb n G && decide (ctg 2 n G ≤ 7)) by unfold crb; rw [decide_eq_true (by omega)]; rfl)
  generalize crb n G = ans at HC ⊢
  have XB := hik x0
  go_enter Tryd.func32, Tryd.ntmps32
  go_wp2
  clear x0
  go_loopw [18] (fun i W => ∃ k : Nat, k ≤ n ∧ i = .int .i64 k ∧ Hid (gsb k G = true) ∧ Hid (Chg nob w W) ∧ Hid (W.cell? ⟨w.heap.size, 0, none⟩ = some (.slice c n cap))) (fun i _ => n - (intOf i).toNat)
  case atStart => exact ⟨0, Nat.zero_le _, rfl, hik rfl, KB, XB⟩
  case round =>
    clear KB XB
    obtain ⟨k, hk, rfl, GS, HK, XC⟩ := hrel
    rename World => wi
    by_cases hlt : k < n
    · obtain ⟨xb, xo, rfl, hxb, c0, c1, c2, c3⟩ := (hv.out.keep HK.out) k hlt
      have hkn : ((k : Nat) : Int) < n := by omega
      have HST := hik (gsb_s k G)
      have KA := hik (HK.out.alloc (.cells #[.int .i64 (G k).1, .int .i64 (G k).2.1, .int .i64 (G k).2.2.1, .int .i64 (G k).2.2.2] 51))
      have XA := hik (((Chg.refl nob wi).alloc (.cells #[.int .i64 (G k).1, .int .i64 (G k).2.1, .int .i64 (G k).2.2.1, .int .i64 (G k).2.2.2] 51)).look XC.out)
      have hr := right_any (G k) k _ (hik (h.out.keep KA.out))
      cases hg : gtb k (G k) with
      | false =>
        have HN := hik (gsb_no hlt hg)
        rw [hg] at hr
        go_wp2_with (go_at_call 55; refine hr.mono ?_; rintro e W1 ⟨rfl, k1⟩; have K1 := hik (KA.out.trans k1); clear k1)
        go_ret
        exact ⟨ret_bool (by rw [HC.out, HN.out]; rfl), K1.out⟩
      | true =>
        rw [hg] at hr
        rw [hg, GS.out] at HST
        go_wp2_with (go_at_call 55; refine hr.mono ?_; rintro e W1 ⟨rfl, k1⟩; have K1 := hik (KA.out.trans k1); have X1 := hik (k1.look XA.out); clear k1)
        go_roundw
        case rel => exact ⟨k + 1, by omega, by go_num, hik HST.out, K1, X1⟩
        case measure => simp [intOf]; omega
    · obtain rfl : k = n := by omega
      have hcb := ctg_le 2 G k
      have hct := count_any c k cap G 2 wi (hik (hv.out.keep HK.out)) hn
      have x0 := XC.out
      generalize ctg 2 k G = C at HC hct hcb
      go_wp2_with (go_at_call 33; refine hct.mono ?_; rintro e W1 ⟨rfl, k1⟩; have K1 := hik (HK.out.trans k1); clear k1)
      go_ret
      exact ⟨ret_bool (by rw [HC.out, GS.out]; simp; omega), K1.out⟩
end Go.Proofs.YtgimmmmiodlepabDoor
