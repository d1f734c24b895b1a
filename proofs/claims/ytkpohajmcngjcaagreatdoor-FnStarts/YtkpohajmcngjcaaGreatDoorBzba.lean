/- Several texts in one: What looks at settings answer, the program's and the model's: contracts. No condition but those that each theorem states. · Lists of lists of elements: words on memory. No condition but those that each theorem states. · What the model's look at rounds answers, and whether a source has draws left: contracts. Conditions: lists that can be read, of at most 2 to the 40. · What a proof begins with: plain. No condition but those that each theorem states. -/
import Derived.Test.YtkpohajmcngjcaaGreatDoorBzac
import Derived.Test.YtkpohajmcngjcaaGreatDoorBzaa
import Derived.Test.YtkpohajmcngjcaaGreatDoorBzar
import Derived.Test.YtkpohajmcngjcaaGreatDoorBzae
import Derived.Test.YtkpohajmcngjcaaGreatDoorBzav
import Derived.Test.YtkpohajmcngjcaaGreatDoorBzaj
import Derived.Test.YtkpohajmcngjcaaGreatDoorBzbb
import Derived.Test.YtkpohajmcngjcaaGreatDoorBzaw
namespace Go.Proofs.YtkpohajmcngjcaaGreatDoor
open Go.ChangeShapes Go.WideShapes Go.ChangeAt Go.RowKit
set_option linter.unusedVariables false
set_option maxRecDepth 100000
set_option linter.unusedSimpArgs false

/-- A setting's rate is in its bounds. -/
def rtB (r : Int) : Bool := decide (1 ≤ r ∧ r ≤ 3)
/-- A setting's numbers are in their bounds. -/
def stb (r q g : Int) : Bool := decide ((1 ≤ r ∧ r ≤ 3) ∧ (1 ≤ q ∧ q ≤ 8) ∧ (0 ≤ g ∧ g ≤ 12))
theorem stb_parts {r q g : Int} (h : stb r q g = true) : (1 ≤ r ∧ r ≤ 3) ∧ (1 ≤ q ∧ q ≤ 8) ∧ (0 ≤ g ∧ g ≤ 12) := of_decide_eq_true h

set_option maxHeartbeats 1000000 in
theorem sSettingOK_any (r q g : Int) (w : World) :
    Calls Tryz.prog 64 #[.agg #[.int .i64 r, .int .i64 q, .int .i64 g]] w fun e w' => e = .returned (.bool (stb r q g)) ∧ Chg nob w w' := by
  cases h1 : inW r 1 3
  · have H := hik (show stb r q g = false from decide_eq_false (fun x => by have y := of_decide_eq_false h1; exact y x.1))
    go_enter Tryz.func64, Tryz.ntmps64
    go_wp2_with (go_at_call 99; refine (l01In_any _ _ _ _).mono ?_; rintro e w' ⟨rfl, rfl⟩)
    go_ret
    exact ⟨ret_bool H.out.symm, (Chg.refl _ _).alloc _⟩
  · cases h2 : inW q 1 8
    · have H := hik (show stb r q g = false from decide_eq_false (fun x => by have y := of_decide_eq_false h2; exact y x.2.1))
      go_enter Tryz.func64, Tryz.ntmps64
      go_wp2_with (go_at_call 99; refine (l01In_any _ _ _ _).mono ?_; rintro e w' ⟨rfl, rfl⟩)
      go_ret
      exact ⟨ret_bool H.out.symm, (Chg.refl _ _).alloc _⟩
    · have H := hik (show stb r q g = inW g 0 12 from by
        have y1 := of_decide_eq_true h1
        have y2 := of_decide_eq_true h2
        unfold stb inW
        rw [decide_eq_decide]
        exact ⟨fun x => x.2.2, fun x => ⟨y1, y2, x⟩⟩)
      go_enter Tryz.func64, Tryz.ntmps64
      go_wp2_with (go_at_call 99; refine (l01In_any _ _ _ _).mono ?_; rintro e w' ⟨rfl, rfl⟩)
      go_ret
      exact ⟨ret_bool H.out.symm, (Chg.refl _ _).alloc _⟩

set_option maxHeartbeats 1000000 in
theorem isOpenRate_any (r : Int) (w : World) :
    Calls Tryz.prog 104 #[.int .i64 r] w fun e w' => e = .returned (.bool (rtB r)) ∧ w' = w := by
  by_cases h1 : 1 ≤ r
  · by_cases h2 : r ≤ 3
    · have H := hik (show rtB r = true from decide_eq_true ⟨h1, h2⟩)
      go_enter Tryz.func104, Tryz.ntmps104
      go_wp2
      go_ret
      exact ⟨ret_bool H.out.symm, rfl⟩
    · have H := hik (show rtB r = false from decide_eq_false (fun x => h2 x.2))
      go_enter Tryz.func104, Tryz.ntmps104
      go_wp2
      go_ret
      exact ⟨ret_bool H.out.symm, rfl⟩
  · have H := hik (show rtB r = false from decide_eq_false (fun x => h1 x.1))
    go_enter Tryz.func104, Tryz.ntmps104
    go_wp2
    go_ret
    exact ⟨ret_bool H.out.symm, rfl⟩

set_option maxHeartbeats 2000000 in
theorem settingOK_any (r q g : Int) (w : World) :
    Calls Tryz.prog 73 #[.agg #[.int .i64 r, .int .i64 q, .int .i64 g]] w fun e w' => e = .returned (.bool (stb r q g)) ∧ Chg nob w w' := by
  cases h1 : rtB r
  · have H := hik (show stb r q g = false from decide_eq_false (fun x => by have y := of_decide_eq_false h1; exact y x.1))
    go_enter Tryz.func73, Tryz.ntmps73
    go_wp2_with (go_at_call 104; refine (isOpenRate_any _ _).mono ?_; rintro e w' ⟨rfl, rfl⟩)
    go_ret
    exact ⟨ret_bool H.out.symm, (Chg.refl _ _).alloc _⟩
  · by_cases h2 : 1 ≤ q
    · by_cases h3 : q ≤ 8
      · by_cases h4 : 0 ≤ g
        · by_cases h5 : g ≤ 12
          · have H := hik (show stb r q g = true from decide_eq_true ⟨of_decide_eq_true h1, ⟨h2, h3⟩, h4, h5⟩)
            go_enter Tryz.func73, Tryz.ntmps73
            go_wp2_with (go_at_call 104; refine (isOpenRate_any _ _).mono ?_; rintro e w' ⟨rfl, rfl⟩)
            go_ret
            exact ⟨ret_bool H.out.symm, (Chg.refl _ _).alloc _⟩
          · have H := hik (show stb r q g = false from decide_eq_false (fun x => h5 x.2.2.2))
            go_enter Tryz.func73, Tryz.ntmps73
            go_wp2_with (go_at_call 104; refine (isOpenRate_any _ _).mono ?_; rintro e w' ⟨rfl, rfl⟩)
            go_ret
            exact ⟨ret_bool (by rw [H.out]; exact decide_eq_false (by omega)), (Chg.refl _ _).alloc _⟩
        · have H := hik (show stb r q g = false from decide_eq_false (fun x => h4 x.2.2.1))
          go_enter Tryz.func73, Tryz.ntmps73
          go_wp2_with (go_at_call 104; refine (isOpenRate_any _ _).mono ?_; rintro e w' ⟨rfl, rfl⟩)
          go_ret
          exact ⟨ret_bool H.out.symm, (Chg.refl _ _).alloc _⟩
      · have H := hik (show stb r q g = false from decide_eq_false (fun x => h3 x.2.1.2))
        go_enter Tryz.func73, Tryz.ntmps73
        go_wp2_with (go_at_call 104; refine (isOpenRate_any _ _).mono ?_; rintro e w' ⟨rfl, rfl⟩)
        go_ret
        exact ⟨ret_bool H.out.symm, (Chg.refl _ _).alloc _⟩
    · have H := hik (show stb r q g = false from decide_eq_false (fun x => h2 x.2.1.1))
      go_enter Tryz.func73, Tryz.ntmps73
      go_wp2_with (go_at_call 104; refine (isOpenRate_any _ _).mono ?_; rintro e w' ⟨rfl, rfl⟩)
      go_ret
      exact ⟨ret_bool H.out.symm, (Chg.refl _ _).alloc _⟩


end Go.Proofs.YtkpohajmcngjcaaGreatDoor

namespace Go.Proofs.YtkpohajmcngjcaaGreatDoor
open Go.ChangeShapes Go.WideShapes Go.ChangeAt Go.RowKit
set_option linter.unusedVariables false
set_option maxRecDepth 100000
set_option linter.unusedSimpArgs false

/-- n lists that can be read behind c: list i is A i, of length L i, its parts f i, g i. -/
def RowsV (w : World) (c : Option Addr) (n : Nat) (A : Nat → Option Addr) (L C : Nat → Nat) (f g : Nat → Nat → Int) : Prop :=
  ∀ i, i < n → ∃ xb xo : Nat, c = some ⟨xb, xo, none⟩ ∧ xb < w.heap.size ∧ w.cell? ⟨xb, xo + i, none⟩ = some (.slice (A i) (L i) (C i)) ∧ PairV w (A i) (L i) (f i) (g i)
theorem RowsV.keep {w w' : World} {c : Option Addr} {n : Nat} {A : Nat → Option Addr} {L C : Nat → Nat} {f g : Nat → Nat → Int} (h : RowsV w c n A L C f g) (k : Chg nob w w') : RowsV w' c n A L C f g := by
  intro i hi
  obtain ⟨xb, xo, e, l, hc, hp⟩ := h i hi
  exact ⟨xb, xo, e, Nat.lt_of_lt_of_le l k.size, k.see hc, hp.keep k⟩
/-- n lists of N elements each. -/
def RowsE (w : World) (c : Option Addr) (n N : Nat) (t : Nat → Nat → El) : Prop :=
  ∀ i, i < n → ∃ (xb xo : Nat) (A : Option Addr) (C : Nat), c = some ⟨xb, xo, none⟩ ∧ xb < w.heap.size ∧ w.cell? ⟨xb, xo + i, none⟩ = some (.slice A N C) ∧ PairE w A N (t i)
theorem RowsE.keep {w w' : World} {c : Option Addr} {n N : Nat} {t : Nat → Nat → El} (h : RowsE w c n N t) (k : Chg nob w w') : RowsE w' c n N t := by
  intro i hi
  obtain ⟨xb, xo, A, C, e, l, hc, hp⟩ := h i hi
  exact ⟨xb, xo, A, C, e, Nat.lt_of_lt_of_le l k.size, k.see hc, PairE.keep hp k⟩
theorem RowsE.of {w : World} {c : Option Addr} {n N : Nat} {A : Nat → Option Addr} {L C : Nat → Nat} {f g : Nat → Nat → Int} (h : RowsV w c n A L C f g) (hL : ∀ i, i < n → L i = N) (ho : ∀ i, i < n → okP (f i) (g i) N = true) : RowsE w c n N (fun i => elF (f i) (g i)) := by
  intro i hi
  obtain ⟨xb, xo, e, l, hc, hp⟩ := h i hi
  rw [hL i hi] at hc hp
  exact ⟨xb, xo, A i, C i, e, l, hc, PairE.of hp (ho i hi)⟩
theorem RowsE.congr {w : World} {c : Option Addr} {n N : Nat} {t u : Nat → Nat → El} (h : RowsE w c n N t) (e : ∀ i, i < n → ∀ j, j < N → t i j = u i j) : RowsE w c n N u := by
  intro i hi
  obtain ⟨xb, xo, A, C, ec, l, hc, hp⟩ := h i hi
  exact ⟨xb, xo, A, C, ec, l, hc, PairV.congr hp (fun j hj => by unfold cA cB; rw [e i hi j hj]; exact ⟨rfl, rfl⟩)⟩
/-- j lists of H elements, list i at A i in a block of its own, not below B and other than g. -/
def TbsO (W : World) (B g j H : Nat) (A : Nat → Option Addr) (u : Nat → Nat → El) : Prop :=
  ∀ i, i < j → ∃ b : Nat, A i = some ⟨b, 0, none⟩ ∧ B ≤ b ∧ b ≠ g ∧ b < W.heap.size ∧ PairE W (A i) H (u i)
theorem TbsO.keep {W W' : World} {B g j H : Nat} {A : Nat → Option Addr} {u : Nat → Nat → El} (h : TbsO W B g j H A u) (k : Chg nob W W') : TbsO W' B g j H A u := by
  intro i hi
  obtain ⟨b, e, hb, hg, hl, hp⟩ := h i hi
  exact ⟨b, e, hb, hg, Nat.lt_of_lt_of_le hl k.size, PairE.keep hp k⟩
/-- The outer list has grown: in block g, or in a new one. -/
theorem TbsO.grown {W W' : World} {B g g' j H : Nat} {A : Nat → Option Addr} {u : Nat → Nat → El} (h : TbsO W B g j H A u) (hg : W.grownBy W' (some g)) (hat : g = g' ∨ g' = W.heap.size) : TbsO W' B g' j H A u := by
  intro i hi
  obtain ⟨b, e, hb, hne, hl, hp⟩ := h i hi
  have k : Chg (fun x => x = g) W W' := (Chg.refl _ W).grown hg (fun k e _ => by cases e; rfl)
  refine ⟨b, e, hb, ?_, Nat.lt_of_lt_of_le hl k.size, PairV.chg hp k (fun xb xo e2 _ e3 => ?_)⟩
  · rcases hat with rfl | rfl
    · exact hne
    · omega
  · rw [e] at e2
    cases e2
    exact hne e3
theorem TbsO.ext {W : World} {B g j H : Nat} {A : Nat → Option Addr} {u : Nat → Nat → El} (h : TbsO W B g j H A u) {b : Nat} (hb : B ≤ b) (hne : b ≠ g) (hl : b < W.heap.size) (hp : PairE W (some ⟨b, 0, none⟩) H (u j)) : TbsO W B g (j + 1) H (fun i => if i = j then some ⟨b, 0, none⟩ else A i) u := by
  intro i hi
  by_cases e : i = j
  · subst e
    exact ⟨b, by simp only [if_true], hb, hne, hl, by simp only [if_true]; exact hp⟩
  · obtain ⟨b', e1, r⟩ := h i (by omega)
    exact ⟨b', by simp only [e, if_false]; exact e1, by simp only [e, if_false]; exact r⟩
theorem rwExt (A : Nat → Option Addr) (H : Nat) (C : Nat → Nat) (j : Nat) (a : Option Addr) (c : Nat) : (List.range j).map (fun i => Value.slice (A i) H (C i)) ++ [.slice a H c] = (List.range (j + 1)).map (fun i => Value.slice ((fun i => if i = j then a else A i) i) H ((fun i => if i = j then c else C i) i)) := by
  rw [List.range_succ, List.map_append]
  congr 1
  · apply List.map_congr_left
    intro i hi
    have : i < j := by simpa using hi
    simp only [show ¬ i = j by omega, if_false]
  · simp
/-- Lists of lists in a block of the call's own, read. -/
theorem RowsE.of_owns {W : World} {B g n cap H : Nat} {T : TypeId} {A : Nat → Option Addr} {C : Nat → Nat} {u : Nat → Nat → El} (ho : W.ownsRow B T 1 (.slice (some ⟨g, 0, none⟩) n cap) n ((List.range n).map (fun i => Value.slice (A i) H (C i)))) {B' : Nat} (ht : TbsO W B' g n H A u) : RowsE W (some ⟨g, 0, none⟩) n H u := by
  intro i hi
  obtain ⟨b, e, _, _, _, hp⟩ := ht i hi
  have hc := ho.cells (g := g) rfl i (.slice (A i) H (C i)) (by rw [List.getElem?_map, List.getElem?_range hi]; rfl)
  rw [Go.WideShapes.add_plain] at hc
  exact ⟨g, 0, A i, C i, rfl, (ho.lt g rfl).2, hc, hp⟩

/-- As RowsE, all its blocks of one sort. -/
def RowsQ (Q : Nat → Prop) (w : World) (c : Option Addr) (n N : Nat) (t : Nat → Nat → El) : Prop :=
  ∀ i, i < n → ∃ (xb xo : Nat) (A : Option Addr) (C : Nat), c = some ⟨xb, xo, none⟩ ∧ xb < w.heap.size ∧ w.cell? ⟨xb, xo + i, none⟩ = some (.slice A N C) ∧ PairE w A N (t i) ∧ Q xb ∧ ∀ b o, A = some ⟨b, o, none⟩ → Q b
theorem RowsQ.chg {Q P : Nat → Prop} {w w' : World} {c : Option Addr} {n N : Nat} {t : Nat → Nat → El} (h : RowsQ Q w c n N t) (k : Chg P w w') (hq : ∀ b, Q b → ¬ P b) : RowsQ Q w' c n N t := by
  intro i hi
  obtain ⟨xb, xo, A, C, e, l, hc, hp, q, qa⟩ := h i hi
  exact ⟨xb, xo, A, C, e, Nat.lt_of_lt_of_le l k.size, by rw [k.cell (p := ⟨xb, xo + i, none⟩) l (hq xb q)]; exact hc, PairV.chg hp k (fun b o e _ => hq b (qa b o e)), q, qa⟩
theorem RowsQ.keep {Q : Nat → Prop} {w w' : World} {c : Option Addr} {n N : Nat} {t : Nat → Nat → El} (h : RowsQ Q w c n N t) (k : Chg nob w w') : RowsQ Q w' c n N t := h.chg k (fun _ _ x => x)
theorem RowsQ.mono {Q R : Nat → Prop} {w : World} {c : Option Addr} {n N : Nat} {t : Nat → Nat → El} (h : RowsQ Q w c n N t) (hq : ∀ b, Q b → R b) : RowsQ R w c n N t := by
  intro i hi
  obtain ⟨xb, xo, A, C, e, l, hc, hp, q, qa⟩ := h i hi
  exact ⟨xb, xo, A, C, e, l, hc, hp, hq _ q, fun b o e => hq _ (qa b o e)⟩
theorem RowsQ.of_owns {W : World} {B g n cap H : Nat} {T : TypeId} {A : Nat → Option Addr} {C : Nat → Nat} {u : Nat → Nat → El} (ho : W.ownsRow B T 1 (.slice (some ⟨g, 0, none⟩) n cap) n ((List.range n).map (fun i => Value.slice (A i) H (C i)))) (ht : TbsO W B g n H A u) : RowsQ (fun b => B ≤ b ∧ b < W.heap.size) W (some ⟨g, 0, none⟩) n H u := by
  intro i hi
  obtain ⟨b, e, hb, _, hl, hp⟩ := ht i hi
  have hc := ho.cells (g := g) rfl i (.slice (A i) H (C i)) (by rw [List.getElem?_map, List.getElem?_range hi]; rfl)
  rw [Go.WideShapes.add_plain] at hc
  refine ⟨g, 0, A i, C i, rfl, (ho.lt g rfl).2, hc, hp, ho.lt g rfl, fun b' o e' => ?_⟩
  rw [e] at e'
  cases e'
  exact ⟨hb, hl⟩
/-- Lists in blocks other than those that change. -/
theorem TbsO.chg {W W' : World} {P : Nat → Prop} {B g j H : Nat} {A : Nat → Option Addr} {u : Nat → Nat → El} (h : TbsO W B g j H A u) (k : Chg P W W') (hp : ∀ i b, i < j → A i = some ⟨b, 0, none⟩ → ¬ P b) : TbsO W' B g j H A u := by
  intro i hi
  obtain ⟨b, e, hb, hne, hl, hpr⟩ := h i hi
  refine ⟨b, e, hb, hne, Nat.lt_of_lt_of_le hl k.size, PairV.chg hpr k (fun xb xo e2 _ => ?_)⟩
  rw [e] at e2
  cases e2
  exact hp i b hi e


end Go.Proofs.YtkpohajmcngjcaaGreatDoor

namespace Go.Proofs.YtkpohajmcngjcaaGreatDoor
open Go.ChangeShapes Go.WideShapes Go.ChangeAt Go.RowKit
set_option linter.unusedVariables false
set_option maxRecDepth 100000
set_option linter.unusedSimpArgs false

/-- A source has not n draws left. -/
def spb (at' ct : Int) (n : Nat) : Bool := decide (1000000 - (n : Int) < at') || decide (1000000 - (n : Int) < ct)

set_option maxHeartbeats 1000000 in
theorem sSpent_any (c : Option Addr) (len cap : Nat) (at' : Int) (st : ByteArray) (ct : Int) (n : Nat) (w : World) (hn : n ≤ 1000) :
    Calls Tryz.prog 67 #[.agg #[.slice c len cap, .int .i64 at', .string st, .int .i64 ct], .int .i64 n] w fun e w' => e = .returned (.bool (spb at' ct n)) ∧ Chg nob w w' := by
  cases b1 : decide (1000000 - (n : Int) < at')
  · have HV := hik (show spb at' ct n = decide (1000000 - (n : Int) < ct) by unfold spb; rw [b1, Bool.false_or])
    rw [HV.out]
    cases b2 : decide (1000000 - (n : Int) < ct)
    · go_enter Tryz.func67, Tryz.ntmps67
      go_wp2
      go_ret
      exact ⟨by simp [b2], (Chg.refl _ _).alloc _⟩
    · go_enter Tryz.func67, Tryz.ntmps67
      go_wp2
      go_ret
      exact ⟨by simp [b2], (Chg.refl _ _).alloc _⟩
  · have HV := hik (show spb at' ct n = true by unfold spb; rw [b1, Bool.true_or])
    rw [HV.out]
    go_enter Tryz.func67, Tryz.ntmps67
    go_wp2
    go_ret
    exact ⟨by simp, (Chg.refl _ _).alloc _⟩

end Go.Proofs.YtkpohajmcngjcaaGreatDoor

namespace Go.Proofs.YtkpohajmcngjcaaGreatDoor
open Go.ChangeShapes Go.WideShapes Go.ChangeAt Go.RowKit
set_option linter.unusedVariables false

/-- Numbers, four bytes each, behind a text. -/
def stW (T : ByteArray) (f : Nat → Int) : Nat → ByteArray
  | 0 => T
  | k + 1 => stW T f k ++ be4 (f k)
theorem stW_size (T : ByteArray) (f : Nat → Int) : ∀ k, (stW T f k).size = T.size + 4 * k
  | 0 => rfl
  | k + 1 => by rw [stW, ByteArray.size_append, stW_size T f k, be4_size]; omega
/-- The text of a system's hash, a setting, and what is public. -/
def stT (s : Sy) (r n g : Int) : ByteArray := hsh (sdK s 3) ++ by3 r n g
theorem stT_size (s : Sy) (r n g : Int) : (stT s r n g).size = 35 := by unfold stT; rw [ByteArray.size_append, hsh_size, by3_size]
def stX (s : Sy) (r n g : Int) (P : Nat) (f : Nat → Int) : ByteArray := stW (stT s r n g) f P
theorem stX_size (s : Sy) (r n g : Int) (P : Nat) (f : Nat → Int) : (stX s r n g P f).size = 35 + 4 * P := by unfold stX; rw [stW_size, stT_size]
/-- The faults that are told. -/
def stk (s : Sy) (r n g : Int) (P : Nat) (f : Nat → Int) (sk : Bool) (at' ct : Int) : Int := if sysb s = false ∨ stb r n g = false ∨ fds P f = false ∨ sk = false then 1 else if (P : Int) ≠ s.p then 17 else if spb at' ct 200 = true then 6 else 0
/-- The faults that Start tells. -/
def stc (s : Sy) (r n g : Int) (P : Nat) (f : Nat → Int) (sk : Bool) (at' ct : Int) : Int := if 4096 < P then 2 else stk s r n g P f sk at' ct
theorem stk_0 {s : Sy} {r n g : Int} {P : Nat} {f : Nat → Int} {sk : Bool} {at' ct : Int} (h : stk s r n g P f sk at' ct = 0) : sysb s = true ∧ stb r n g = true ∧ fds P f = true ∧ sk = true ∧ (P : Int) = s.p ∧ spb at' ct 200 = false := by
  unfold stk at h
  split at h
  · cases h
  · split at h
    · cases h
    · split at h
      · cases h
      · rename_i h1 h2 h3
        simp only [not_or, Bool.not_eq_false] at h1
        simp only [ne_eq, Decidable.not_not] at h2
        simp only [Bool.not_eq_true] at h3
        exact ⟨h1.1, h1.2.1, h1.2.2.1, h1.2.2.2, h2, h3⟩
theorem sokb_in {f g : Nat → Int} {len : Nat} {at' : Int} {st : ByteArray} {ct : Int} (h : sokb f g len at' st ct = true) : 0 ≤ at' ∧ at' ≤ 1000000 ∧ 0 ≤ ct ∧ ct ≤ 1000000 := by
  unfold sokb inW at h
  simp only [Bool.and_eq_true, decide_eq_true_eq] at h
  omega
theorem sokb_st {f g : Nat → Int} {len : Nat} {at' : Int} {st : ByteArray} {ct : Int} (h : sokb f g len at' st ct = true) : len ≤ 64 ∧ st.size = 32 := by
  unfold sokb inW at h
  simp only [Bool.and_eq_true, decide_eq_true_eq] at h
  exact ⟨h.1.1.1.1, h.1.2⟩
theorem ba_zs9 {T U : ByteArray} (h : T.size = U.size) (hz : ∀ i, i < T.size → zs T i = zs U i) : T = U := by
  apply ByteArray.ext
  apply Array.ext'
  have l1 : T.data.toList.length = T.size := by simp
  have l2 : U.data.toList.length = U.size := by simp
  apply List.ext_getElem
  · rw [l1, l2, h]
  · intro i h1 h2
    have q := hz i (by rw [← l1]; exact h1)
    unfold zs at q
    rw [List.getElem?_eq_getElem h1, List.getElem?_eq_getElem h2] at q
    simp only [Option.getD_some] at q
    exact UInt8.toNat_inj.1 (by omega)
theorem zs_in9 (T : ByteArray) (i : Nat) : 0 ≤ zs T i ∧ zs T i < 256 := by
  unfold zs
  have := (T.data.toList[i]?.getD 0).toNat_lt
  omega
theorem bt_zs9 (T : ByteArray) : bt (zs T) T.size = T := ba_zs9 (bt_size _ _) (fun i hi => by
  rw [bt_size] at hi
  exact bt_zs _ _ _ hi (zs_in9 T i).1 (zs_in9 T i).2)

end Go.Proofs.YtkpohajmcngjcaaGreatDoor
