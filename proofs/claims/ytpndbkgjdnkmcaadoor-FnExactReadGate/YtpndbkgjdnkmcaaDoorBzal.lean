/- Several texts in one: Gates in memory, four cells each. · Gates and circuits: which are right, how many of a kind there are: the program's contracts. Conditions: the table of shapes holds what the program's text lays. -/
import Derived.Test.YtpndbkgjdnkmcaaDoorBzac
import Derived.Test.YtpndbkgjdnkmcaaDoorBzaa
import Derived.Test.YtpndbkgjdnkmcaaDoorProg
import Derived.Test.YtpndbkgjdnkmcaaDoorBzad
import Derived.Test.YtpndbkgjdnkmcaaDoorBzam
import Derived.WalkKit
import Derived.Deep.DeepCutAuto
namespace Go.Proofs.YtpndbkgjdnkmcaaDoor
open Go.RowKit
set_option linter.unusedVariables false
set_option linter.unusedSimpArgs false
set_option maxRecDepth 100000

/-- n gates that can be read behind c. -/
def GatV (w : World) (c : Option Addr) (n : Nat) (G : Nat → Gt) : Prop :=
  ∀ i, i < n → ∃ xb xo : Nat, c = some ⟨xb, xo, none⟩ ∧ xb < w.heap.size ∧ w.cell? ⟨xb, xo + i * 4, none⟩ = some (.int .i64 (G i).1) ∧ w.cell? ⟨xb, xo + i * 4 + 1, none⟩ = some (.int .i64 (G i).2.1) ∧ w.cell? ⟨xb, xo + i * 4 + 2, none⟩ = some (.int .i64 (G i).2.2.1) ∧ w.cell? ⟨xb, xo + i * 4 + 3, none⟩ = some (.int .i64 (G i).2.2.2)
theorem GatV.chg {P : Nat → Prop} {w w' : World} {c : Option Addr} {n : Nat} {G : Nat → Gt} (h : GatV w c n G) (k : Chg P w w') (hp : ∀ xb xo, c = some ⟨xb, xo, none⟩ → 0 < n → xb < w.heap.size → ¬ P xb) : GatV w' c n G := by
  intro i hi
  obtain ⟨xb, xo, e, l, h1, h2, h3, h4⟩ := h i hi
  have np := hp xb xo e (by omega) l
  exact ⟨xb, xo, e, Nat.lt_of_lt_of_le l k.size, by rw [k.cell l np, h1], by rw [k.cell l np, h2], by rw [k.cell l np, h3], by rw [k.cell l np, h4]⟩
theorem GatV.keep {w w' : World} {c : Option Addr} {n : Nat} {G : Nat → Gt} (h : GatV w c n G) (k : Chg nob w w') : GatV w' c n G := h.chg k (fun _ _ _ _ _ x => x)
theorem GatV.low {w : World} {c : Option Addr} {n m : Nat} {G : Nat → Gt} (h : GatV w c n G) (hm : m ≤ n) : GatV w c m G := fun i hi => h i (by omega)
/-- Gates, cell by cell. -/
def gf (G : Nat → Gt) (i : Nat) : Value := .int .i64 (if i % 4 = 0 then (G (i / 4)).1 else if i % 4 = 1 then (G (i / 4)).2.1 else if i % 4 = 2 then (G (i / 4)).2.2.1 else (G (i / 4)).2.2.2)
theorem gf_0 (G : Nat → Gt) (k : Nat) : gf G (k * 4) = .int .i64 (G k).1 := by
  unfold gf; rw [if_pos (by omega), show k * 4 / 4 = k by omega]
theorem gf_1 (G : Nat → Gt) (k : Nat) : gf G (k * 4 + 1) = .int .i64 (G k).2.1 := by
  unfold gf; rw [if_neg (by omega), if_pos (by omega), show (k * 4 + 1) / 4 = k by omega]
theorem gf_2 (G : Nat → Gt) (k : Nat) : gf G (k * 4 + 2) = .int .i64 (G k).2.2.1 := by
  unfold gf; rw [if_neg (by omega), if_neg (by omega), if_pos (by omega), show (k * 4 + 2) / 4 = k by omega]
theorem gf_3 (G : Nat → Gt) (k : Nat) : gf G (k * 4 + 3) = .int .i64 (G k).2.2.2 := by
  unfold gf; rw [if_neg (by omega), if_neg (by omega), if_neg (by omega), show (k * 4 + 3) / 4 = k by omega]
theorem GatV.of_row {w : World} {b : Nat} {t : TypeId} {n N : Nat} {G : Nat → Gt} {h : Nat → Value} (r : w.rowIs b t N h) (hm : n * 4 ≤ N) (e : ∀ i, i < n * 4 → h i = gf G i) : GatV w (some ⟨b, 0, none⟩) n G := by
  intro i hi
  refine ⟨b, 0, rfl, r.lt, ?_, ?_, ?_, ?_⟩
  · rw [Nat.zero_add, r.cell (by omega), e _ (by omega), gf_0]
  · rw [Nat.zero_add, r.cell (by omega), e _ (by omega), gf_1]
  · rw [Nat.zero_add, r.cell (by omega), e _ (by omega), gf_2]
  · rw [Nat.zero_add, r.cell (by omega), e _ (by omega), gf_3]

end Go.Proofs.YtpndbkgjdnkmcaaDoor

namespace Go.Proofs.YtpndbkgjdnkmcaaDoor
open Go.ChangeShapes Go.WideShapes Go.ChangeAt Go.RowKit
set_option linter.unusedVariables false
set_option maxRecDepth 100000
set_option linter.unusedSimpArgs false

/-- The words of the shapes. -/
def shWs : List (List UInt8) := [[105, 110, 112, 117, 116], [112, 117, 98, 108, 105, 99], [99, 111, 110, 115, 116], [97, 100, 100], [115, 117, 98], [109, 117, 108], [101, 113, 117, 97, 108], [98, 105, 116]]
def shw (i : Nat) : ByteArray := ⟨(shWs.getD i []).toArray⟩
/-- Their places. -/
def shp (i : Nat) : Int := ([0, 0, 0, 2, 2, 2, 2, 1] : List Int).getD i 0
/-- Whether they have a number. -/
def shn (i : Nat) : Bool := i == 2
/-- The table of shapes holds what the program's text lays. -/
structure Shp (w : World) : Prop where
  w0 : ∀ i, i < 8 → w.cell? ⟨0, i * 3, none⟩ = some (.string (shw i))
  w1 : ∀ i, i < 8 → w.cell? ⟨0, i * 3 + 1, none⟩ = some (.int .i64 (shp i))
  w2 : ∀ i, i < 8 → w.cell? ⟨0, i * 3 + 2, none⟩ = some (.bool (shn i))
theorem Shp.keep {w w' : World} (h : Shp w) (k : Chg nob w w') : Shp w' :=
  ⟨fun i hi => k.see (h.w0 i hi), fun i hi => k.see (h.w1 i hi), fun i hi => k.see (h.w2 i hi)⟩
theorem gtb_sh (i : Nat) (hi : i < 8) (m a b k : Int) : gtb m ((i : Int) + 1, a, b, k) = (ptb a (decide (0 < shp i)) m && (ptb b (decide (1 < shp i)) m && ptb k (shn i) 2130706433)) := by
  rcases (show i = 0 ∨ i = 1 ∨ i = 2 ∨ i = 3 ∨ i = 4 ∨ i = 5 ∨ i = 6 ∨ i = 7 by omega) with rfl | rfl | rfl | rfl | rfl | rfl | rfl | rfl <;> simp [gtb, usg, shp, shn]
theorem gtb_out (m : Int) (x : Gt) (h : ¬ (1 ≤ x.1 ∧ x.1 ≤ 8)) : gtb m x = false := by
  unfold gtb
  rw [show (decide (1 ≤ x.1) && decide (x.1 ≤ 8)) = false by simp; omega]
  rfl

set_option maxHeartbeats 1000000 in
theorem isOp_any (o : Int) (w : World) : Calls Tryd.prog 32 #[.int .i64 o] w fun e w' => e = .returned (.bool (decide (1 ≤ o) && decide (o ≤ 8))) ∧ w' = w := by
  by_cases h0 : 1 ≤ o
  · go_enter Tryd.func32, Tryd.ntmps32
    go_wp2
    go_ret
    exact ⟨ret_bool (by simp [h0]), rfl⟩
  · go_enter Tryd.func32, Tryd.ntmps32
    go_wp2
    go_ret
    exact ⟨ret_bool (by simp; omega), rfl⟩

set_option maxHeartbeats 1000000 in
theorem partOK_any (n : Int) (has : Bool) (m : Int) (w : World) : Calls Tryd.prog 33 #[.int .i64 n, .bool has, .int .i64 m] w fun e w' => e = .returned (.bool (ptb n has m)) ∧ w' = w := by
  by_cases h0 : 0 ≤ n
  · cases has with
    | true =>
      go_enter Tryd.func33, Tryd.ntmps33
      go_wp2
      go_ret
      exact ⟨ret_bool (by simp [ptb, h0]), rfl⟩
    | false =>
      go_enter Tryd.func33, Tryd.ntmps33
      go_wp2
      go_ret
      exact ⟨ret_bool (by simp [ptb, h0]), rfl⟩
  · cases has with
    | true =>
      go_enter Tryd.func33, Tryd.ntmps33
      go_wp2
      go_ret
      exact ⟨ret_bool (by simp [ptb]; omega), rfl⟩
    | false =>
      go_enter Tryd.func33, Tryd.ntmps33
      go_wp2
      go_ret
      exact ⟨ret_bool (by simp [ptb]; omega), rfl⟩

set_option maxHeartbeats 2000000 in
theorem shapeOf_any (i : Nat) (hi : i < 8) (w : World) (h : Hid (Shp w)) : Calls Tryd.prog 15 #[.int .i64 ((i : Int) + 1)] w fun e w' => e = .returned (.agg #[.string (shw i), .int .i64 (shp i), .bool (shn i)]) ∧ Chg nob w w' := by
  have KB := hik ((Chg.refl nob w).alloc (.cells #[.string ⟨#[]⟩, .int .i64 0, .bool false] 45))
  have KC := hik ((Chg.refl nob w).alloc (.cells #[.string (shw i), .int .i64 (shp i), .bool (shn i)] 45))
  have c0 := KB.out.see (h.out.w0 i hi)
  have c1 := KB.out.see (h.out.w1 i hi)
  have c2 := KB.out.see (h.out.w2 i hi)
  have n2 : (i : Int) < 8 := by omega
  go_enter Tryd.func15, Tryd.ntmps15
  go_wp2
  exact bodyPost_ret (v := .agg #[.string (shw i), .int .i64 (shp i), .bool (shn i)]) (by simp [results, Tryd.results15, go_sem, *]) rfl ⟨rfl, KC.out⟩

set_option maxHeartbeats 4000000 in
theorem right_any (x : Gt) (m : Int) (w : World) (h : Hid (Shp w)) : Calls Tryd.prog 18 #[.agg #[.int .i64 x.1, .int .i64 x.2.1, .int .i64 x.2.2.1, .int .i64 x.2.2.2], .int .i64 m] w fun e w' => e = .returned (.bool (gtb m x)) ∧ Chg nob w w' := by
  obtain ⟨o, a, b, k⟩ := x
  have KB := hik ((Chg.refl nob w).alloc (.cells #[.int .i64 o, .int .i64 a, .int .i64 b, .int .i64 k] 23))
  by_cases ho : 1 ≤ o ∧ o ≤ 8
  · obtain ⟨i, hi, rfl⟩ : ∃ i : Nat, i < 8 ∧ o = (i : Int) + 1 := ⟨(o - 1).toNat, by omega, by omega⟩
    have HG := hik (gtb_sh i hi m a b k)
    have hop : (decide (1 ≤ (i : Int) + 1) && decide ((i : Int) + 1 ≤ 8)) = true := by simp; omega
    have hio := isOp_any ((i : Int) + 1) (w.alloc (.cells #[.int .i64 ((i : Int) + 1), .int .i64 a, .int .i64 b, .int .i64 k] 23))
    rw [hop] at hio
    have hsh := shapeOf_any i hi (w.alloc (.cells #[.int .i64 ((i : Int) + 1), .int .i64 a, .int .i64 b, .int .i64 k] 23)) (hik (h.out.keep KB.out))
    generalize gtb m ((i : Int) + 1, a, b, k) = ans at HG ⊢
    generalize shp i = S at HG hsh
    generalize shn i = N at HG hsh
    generalize shw i = Wd at hsh
    have x1 : World.cell? (w.alloc (.cells #[.int .i64 ((i : Int) + 1), .int .i64 a, .int .i64 b, .int .i64 k] 23)) ⟨w.heap.size, 1, none⟩ = some (.int .i64 a) := by go_simp
    have x2 : World.cell? (w.alloc (.cells #[.int .i64 ((i : Int) + 1), .int .i64 a, .int .i64 b, .int .i64 k] 23)) ⟨w.heap.size, 2, none⟩ = some (.int .i64 b) := by go_simp
    have x3 : World.cell? (w.alloc (.cells #[.int .i64 ((i : Int) + 1), .int .i64 a, .int .i64 b, .int .i64 k] 23)) ⟨w.heap.size, 3, none⟩ = some (.int .i64 k) := by go_simp
    clear hop h ho hi
    go_enter Tryd.func18, Tryd.ntmps18
    go_wp2_with fail
    refine hio.mono ?_
    rintro e w' ⟨rfl, hw⟩
    have hw := hw.symm
    subst hw
    go_wp2_with fail
    refine hsh.mono ?_
    rintro e W1 ⟨rfl, k1⟩
    have K1 := hik ((KB.out.trans k1).alloc (.cells #[.string Wd, .int .i64 S, .bool N] 45))
    have y1 := ((Chg.refl nob W1).alloc (.cells #[.string Wd, .int .i64 S, .bool N] 45)).look (k1.look x1)
    have y2 := ((Chg.refl nob W1).alloc (.cells #[.string Wd, .int .i64 S, .bool N] 45)).look (k1.look x2)
    have y3 := ((Chg.refl nob W1).alloc (.cells #[.string Wd, .int .i64 S, .bool N] 45)).look (k1.look x3)
    clear k1 x1 x2 x3 hio hsh KB
    cases b1 : ptb a (decide (0 < S)) m with
    | false =>
      go_wp2_with (go_at_call 33; refine (partOK_any _ _ _ _).mono ?_; rintro e w' ⟨rfl, hw⟩; have hw := hw.symm; subst hw)
      go_ret
      exact ⟨ret_bool (by rw [HG.out, b1]; rfl), K1.out⟩
    | true =>
    cases b2 : ptb b (decide (1 < S)) m with
    | false =>
      go_wp2_with (go_at_call 33; refine (partOK_any _ _ _ _).mono ?_; rintro e w' ⟨rfl, hw⟩; have hw := hw.symm; subst hw)
      go_ret
      exact ⟨ret_bool (by rw [HG.out, b1, b2]; rfl), K1.out⟩
    | true =>
      go_wp2_with (go_at_call 33; refine (partOK_any _ _ _ _).mono ?_; rintro e w' ⟨rfl, hw⟩; have hw := hw.symm; subst hw)
      go_ret
      exact ⟨ret_bool (by rw [HG.out, b1, b2]; simp), K1.out⟩
  · have hop : (decide (1 ≤ o) && decide (o ≤ 8)) = false := by simp; omega
    have hio := isOp_any o (w.alloc (.cells #[.int .i64 o, .int .i64 a, .int .i64 b, .int .i64 k] 23))
    rw [hop] at hio
    have HG := hik (gtb_out m (o, a, b, k) ho)
    go_enter Tryd.func18, Tryd.ntmps18
    go_wp2_with (go_at_call 32; refine hio.mono ?_; rintro e w' ⟨rfl, hw⟩; have hw := hw.symm; subst hw)
    go_ret
    exact ⟨ret_bool HG.out.symm, KB.out⟩


end Go.Proofs.YtpndbkgjdnkmcaaDoor
