/- Several texts in one: What the laws' helpers on slices of ints do: toIntS copies, eqIntS finds like rows alike, markIntS numbers a row, heldIntS finds it numbered. Conditions: rows that can be read (markIntS: a row of the call's own), lengths of at most 2 to the 40. · Rows of ints that grow, and such rows from a place on: words, contracts of the laws' marks. · Drawn systems and drawn numbers: contracts. Conditions: those of each theorem. · A drawn system: contracts of the law's drawing. Conditions: those of each theorem. -/
import Derived.Test.YtkpohajmcngjcaaGreatDoorRows
import Derived.WalkKit
import Derived.ProofKit
import Derived.OpenShut
import Derived.RegionTactic
import Derived.ChangeAlike
import Derived.BigRegion
import Derived.Deep.QuietTactic
import Derived.BigQuiet
import Derived.Test.YtkpohajmcngjcaaGreatDoorBzaa
import Derived.Test.YtkpohajmcngjcaaGreatDoorBzac
import Derived.Test.YtkpohajmcngjcaaGreatDoorBzab
import Derived.Test.YtkpohajmcngjcaaGreatDoorBzai
import Derived.Test.YtkpohajmcngjcaaGreatDoorBzaj
namespace Go.Proofs.YtkpohajmcngjcaaGreatDoor
open Go.ChangeShapes Go.WideShapes Go.ChangeAt Go.RowKit

theorem infoInt : (Tryz.prog.info? 3).map (fun i => (i.zero, i.size, i.bytes)) = some (some (.int .i64 0), 1, 8) := by kernel_rfl
/-- Ints as values. -/
def iv (f : Nat → Int) (i : Nat) : Value := .int .i64 (f i)


end Go.Proofs.YtkpohajmcngjcaaGreatDoor

namespace Go.Proofs.YtkpohajmcngjcaaGreatDoor
open Go.ChangeShapes Go.WideShapes Go.ChangeAt Go.RowKit
set_option linter.unusedVariables false
set_option maxRecDepth 100000
set_option linter.unusedSimpArgs false

/-- A row of k ints that is the call's own (blocks from B on) and can grow. -/
def IGr (W : World) (B : Nat) (v : Value) (k : Nat) (f : Nat → Int) : Prop := W.ownsRow B 3 1 v k ((List.range k).map (iv f))
theorem IGr.chg {P : Nat → Prop} {W W' : World} {B : Nat} {v : Value} {k : Nat} {f : Nat → Int} (h : IGr W B v k f) (c : Chg P W W') (hp : ∀ i, B ≤ i → i < W.heap.size → ¬ P i) : IGr W' B v k f := by
  obtain ⟨hl, h0 | ⟨g, cap, cur, e, hb, hg, r⟩⟩ := h
  · exact ⟨hl, .inl h0⟩
  · have hlt : g < W.heap.size := by rw [Array.getElem?_eq_some_iff] at hg; exact hg.1
    exact ⟨hl, .inr ⟨g, cap, cur, e, hb, (c.block g hlt (hp g hb hlt)).trans hg, r⟩⟩
theorem IGr.keep {W W' : World} {B : Nat} {v : Value} {k : Nat} {f : Nat → Int} (h : IGr W B v k f) (c : Chg nob W W') : IGr W' B v k f := h.chg c (fun _ _ _ x => x)
theorem IGr.congr {W : World} {B : Nat} {v : Value} {k : Nat} {f g : Nat → Int} (h : IGr W B v k f) (e : ∀ i, i < k → f i = g i) : IGr W B v k g := by
  unfold IGr at *
  rwa [show (List.range k).map (iv g) = (List.range k).map (iv f) from List.map_congr_left (fun i hi => by simp [iv, e i (by simpa using hi)])]
theorem IGr.fresh (W : World) (B : Nat) (f : Nat → Int) (hB : B ≤ W.heap.size) : IGr (W.alloc (.cells #[] 3)) B (.slice (some ⟨W.heap.size, 0, none⟩) 0 0) 0 f :=
  ⟨rfl, .inr ⟨W.heap.size, 0, #[], rfl, hB, Go.Deep.blk_alloc_new _ _, Nat.le_refl _, Nat.zero_le _, rfl, rfl⟩⟩
theorem IGr.nil (W : World) (B : Nat) (f : Nat → Int) : IGr W B (.slice Option.none 0 0) 0 f := ⟨rfl, .inl ⟨rfl, rfl⟩⟩
theorem IGr.one (W : World) (B : Nat) (x : Int) (hB : B ≤ W.heap.size) : IGr (W.alloc (.cells #[.int .i64 x] 3)) B (.slice (some ⟨W.heap.size, 0, none⟩) 1 1) 1 (fun _ => x) :=
  ⟨rfl, .inr ⟨W.heap.size, 1, #[.int .i64 x], rfl, hB, Go.Deep.blk_alloc_new _ _, Nat.le_refl _, by unfold maxLen; omega, rfl, rfl⟩⟩
/-- What it reads as. -/
theorem IGr.row {W : World} {B : Nat} {v : Value} {k : Nat} {f : Nat → Int} (h : IGr W B v k f) : ∃ c cap, v = .slice c k cap ∧ k ≤ cap ∧ cap ≤ maxLen ∧ RowV W c k (iv f) := by
  obtain ⟨hl, ⟨rfl, rfl⟩ | ⟨g, cap, cur, rfl, hb, hg, hc, hm, hs, ht⟩⟩ := h
  · exact ⟨Option.none, 0, rfl, Nat.le_refl _, Nat.zero_le _, fun i hi => by omega⟩
  · refine ⟨_, cap, rfl, hc, hm, fun i hi => ⟨g, 0, rfl, ?_, ?_⟩⟩
    · rw [Array.getElem?_eq_some_iff] at hg; exact hg.1
    · have h1 : (cur.toList.take (k * 1))[i]? = some (iv f i) := by rw [ht, List.getElem?_map, List.getElem?_range hi]; rfl
      rw [List.getElem?_take, if_pos (by omega), Array.getElem?_toList] at h1
      unfold World.cell?
      simp [hg, h1]
theorem IGr.len {W : World} {B : Nat} {v : Value} {k : Nat} {f : Nat → Int} (h : IGr W B v k f) {b : Nat} (e : v.ownBlock = some b) : B ≤ b := by
  obtain ⟨hl, ⟨rfl, rfl⟩ | ⟨g, cap, cur, rfl, hb, r⟩⟩ := h
  · simp [Value.ownBlock] at e
  · simp [Value.ownBlock] at e; omega
theorem ints_one (f : Nat → Int) (z : Int) (k : Nat) : (List.range k).map (iv f) ++ [.int .i64 z] = (List.range (k + 1)).map (iv (fun i => if i = k then z else f i)) := by
  rw [List.range_succ, List.map_append]
  congr 1
  · exact List.map_congr_left (fun i hi => by have : i < k := by simpa using hi
                                              simp [iv, show ¬ i = k by omega])
  · simp [iv]
section
variable {ops : Array Oper} {rest : List Oper} {o : Oper} {a : Act} {w : World} {Q : Exit → Act → World → Prop}
/-- append(x, z), z in a block of its own. -/
theorem wpList_app1 (hgd : o.guard = none) (x y : Operand) (hop : o.op = .call { callee := .builtin .append, args := #[x, y], argTypes := #[27, 27] }) (B k g : Nat) (v : Value) (f : Nat → Int) (z : Int)
    (hx : a.eval x = v) (hy : a.eval y = .slice (some ⟨g, 0, Option.none⟩) 1 1) (hr : IGr w B v k f) (hc : w.cell? ⟨g, 0, Option.none⟩ = some (.int .i64 z)) (hk : k ≤ 1000000) (hB : B ≤ w.heap.size)
    (h : ∀ v' w', IGr w' B v' (k + 1) (fun i => if i = k then z else f i) → Chg (fun i => B ≤ i) w w' → wpList Tryz.prog ops Q rest (a.put o.dst v') w') : wpList Tryz.prog ops Q (o :: rest) a w := by
  obtain ⟨i0, hi, hz0, hz1, hz2⟩ := info_parts infoInt
  refine wpList_append_own w hgd x y 27 hop B 3 i0 (.int .i64 0) 1 8 Tryz.underlying27 hi hz0 hz1 hz2 rfl (by decide) v k ((List.range k).map (iv f)) hx hr ⟨g, 0, Option.none⟩ 1 1 [.int .i64 z] hy rfl ?_ ?_ (by unfold maxLen; omega) (by omega) hB ?_
  · intro j u hj
    match j, hj with
    | 0, hj => simp at hj; subst hj; simpa [Addr.add] using hc
    | j + 1, hj => simp at hj
  · intro u hu
    simp at hu
    subst hu
    rfl
  · intro v' w' hown hgr _
    refine h v' w' (by unfold IGr; rw [← ints_one]; exact hown) ((Chg.refl _ w).grown hgr (fun b e _ => hr.len e))
end

/-- n ints behind c in a block of the call's own (not below B), from some place on, or none. -/
def OwnJ (w : World) (B : Nat) (c : Option Addr) (n : Nat) (f : Nat → Int) : Prop := n = 0 ∨ ∃ (g o N : Nat) (h : Nat → Value), B ≤ g ∧ c = some ⟨g, o, none⟩ ∧ o + n ≤ N ∧ w.rowIs g 3 N h ∧ ∀ i, i < n → h (o + i) = iv f i
theorem OwnJ.row {w : World} {B : Nat} {c : Option Addr} {n : Nat} {f : Nat → Int} (h : OwnJ w B c n f) : RowV w c n (iv f) := by
  rcases h with rfl | ⟨g, o, N, h, _, rfl, hN, r, hh⟩
  · intro i hi; omega
  · intro i hi
    exact ⟨g, o, rfl, r.lt, by rw [r.cell (by omega), hh i hi]⟩
theorem OwnJ.chg {P : Nat → Prop} {w w' : World} {B : Nat} {c : Option Addr} {n : Nat} {f : Nat → Int} (h : OwnJ w B c n f) (k : Chg P w w') (hp : ∀ b o, B ≤ b → c = some ⟨b, o, none⟩ → b < w.heap.size → ¬ P b) : OwnJ w' B c n f := by
  rcases h with rfl | ⟨g, o, N, h, hb, e, hN, r, hh⟩
  · exact .inl rfl
  · exact .inr ⟨g, o, N, h, hb, e, hN, rowIs_chg r k (hp g o hb e r.lt), hh⟩
theorem OwnJ.keep {w w' : World} {B : Nat} {c : Option Addr} {n : Nat} {f : Nat → Int} (h : OwnJ w B c n f) (k : Chg nob w w') : OwnJ w' B c n f := h.chg k (fun _ _ _ _ _ x => x)
theorem OwnJ.far {P : Nat → Prop} {w w' : World} {B : Nat} {c : Option Addr} {n : Nat} {f : Nat → Int} (h : OwnJ w B c n f) (k : Chg P w w') (hp : ∀ b o, B ≤ b → c = some ⟨b, o, none⟩ → n = 0 ∨ ¬ P b) : OwnJ w' B c n f := by
  rcases h with h0 | ⟨g, o, N, h, hb, e, hN, r, hh⟩
  · exact .inl h0
  · rcases hp g o hb e with h0 | h0
    · exact .inl h0
    · exact .inr ⟨g, o, N, h, hb, e, hN, rowIs_chg r k h0, hh⟩
/-- Out of a row that grew, from a place on. -/
theorem IGr.own {W : World} {B : Nat} {c : Option Addr} {k cap : Nat} {f : Nat → Int} (h : IGr W B (.slice c k cap) k f) : OwnJ W B c k f := by
  obtain ⟨hl, h0 | ⟨g, cap', cur, e, hb, hg, hc, hm, hs, ht⟩⟩ := h
  · exact .inl h0.2
  · cases e
    refine .inr ⟨g, 0, cap, fun i => cur.getD i undef, hb, rfl, by omega, ⟨cur, hg, by omega, fun j hj => by simp [Array.getD, show j < cur.size by omega]⟩, fun i hi => ?_⟩
    have h1 : (cur.toList.take (k * 1))[i]? = some (iv f i) := by rw [ht, List.getElem?_map, List.getElem?_range hi]; rfl
    rw [List.getElem?_take, if_pos (by omega), Array.getElem?_toList] at h1
    simp [Array.getD_eq_getD_getElem?, h1]

end Go.Proofs.YtkpohajmcngjcaaGreatDoor

namespace Go.Proofs.YtkpohajmcngjcaaGreatDoor
open Go.ChangeShapes Go.WideShapes Go.ChangeAt Go.RowKit
set_option linter.unusedVariables false
set_option maxRecDepth 100000
set_option linter.unusedSimpArgs false

theorem Chg.near9 {P Q : Nat → Prop} {w W W' : World} (h : Chg P w W) (k : Chg Q W W') (hq : ∀ i, Q i → w.heap.size ≤ i) : Chg P w W' :=
  ⟨k.os.trans h.os, k.tape.trans h.tape, k.output.trans h.output, Nat.le_trans h.size k.size, fun i hi hp => (k.block i (Nat.lt_of_lt_of_le hi h.size) (fun q => absurd (hq i q) (by omega))).trans (h.block i hi hp)⟩
/-- Drawn numbers of the field. -/
def DrawnI (n m b : Nat) (w : World) (e : Ending) (w' : World) : Prop := ∃ (v : Value) (f : Nat → Int), e = .returned v ∧ IGr w' w.heap.size v m f ∧ (∀ i, i < m → 0 ≤ f i ∧ f i < 2130706433) ∧ Src n w' b ∧ Chg (fun k => k = b) w w'
set_option maxHeartbeats 2000000 in
theorem fieldsD_any (m n b : Nat) (w : World) (h : Src n w b) (hn : n ≤ 999999980000) (hm : m ≤ 100) :
    Calls Tryz.prog 47 #[.pointer (some ⟨b, 0, none⟩), .int .i64 m] w fun e w' => DrawnI (n + 18 * m) m b w e w' := by
  have hb := h.lt
  have H := hik (h.keep ((Chg.refl nob w).alloc (.cells #[] 3)))
  have FR := hik (IGr.fresh w w.heap.size (fun _ => 0) (Nat.le_refl _))
  clear h
  go_enter Tryz.func47, Tryz.ntmps47
  go_wp2
  go_loopw [5, 6] (fun v i W => ∃ (k : Nat) (f : Nat → Int), k ≤ m ∧ i = .int .i64 k ∧ Hid (IGr W w.heap.size v k f) ∧ Hid (∀ i, i < k → 0 ≤ f i ∧ f i < 2130706433) ∧ Hid (Src (n + 18 * k) W b) ∧ Hid (Chg (fun i => i = b) w W)) (fun _ i _ => m - (intOf i).toNat)
  case atStart => exact ⟨0, fun _ => 0, Nat.zero_le _, rfl, FR, hik (fun i hi => by omega), H, hik ((Chg.refl _ _).alloc _)⟩
  case round =>
    clear FR H
    obtain ⟨k, f, hk, rfl, HI, HF, HS, HC⟩ := hrel
    have hsz := HC.out.size
    by_cases hlt : k < m
    · have hkm : ((k : Nat) : Int) < m := by omega
      go_wp2_with fail
      refine (fieldC_any _ b _ HS.out (by omega)).mono ?_
      rintro e W1 ⟨x, rfl, x0, x1, hS1, hB1⟩
      have HI1 := hik (HI.out.chg hB1 (fun i hi _ e => by have e : i = b := e; omega))
      have HS1 := hik hS1
      have HC1 := hik (HC.out.trans hB1)
      have hs1 := HC1.out.size
      clear hS1 hB1 HI HS HC
      have IB := hik (HI1.out.keep ((Chg.refl nob W1).alloc (.cells #[.int .i64 x] 3)))
      have CB := hik (show World.cell? (W1.alloc (.cells #[.int .i64 x] 3)) ⟨W1.heap.size, 0, none⟩ = some (.int .i64 x) by go_simp)
      have LC := hik (show w.heap.size ≤ (W1.alloc (.cells #[.int .i64 x] 3)).heap.size from Nat.le_trans hs1 ((Chg.refl nob W1).alloc (.cells #[.int .i64 x] 3)).size)
      have KQ := hik (HC1.out.alloc (.cells #[.int .i64 x] 3))
      have SQ := hik (HS1.out.keep ((Chg.refl nob W1).alloc (.cells #[.int .i64 x] 3)))
      go_wp2_with (at_builtin; refine wpList_app1 (by rfl) (.tmp 13) (.tmp 16) (by rfl) w.heap.size k W1.heap.size _ _ x (by rfl) (by rfl) IB.out CB.out (by omega) LC.out ?b6)
      case b6 =>
        intro v7 w7 hg7 k7
        have HI7 := hik hg7
        have KZ := hik (KQ.out.near9 k7 (fun i q => q))
        have SZ := hik (SQ.out.chg k7 (fun i hi q => by have q : w.heap.size ≤ i := q; omega))
        clear hg7 k7 IB CB LC KQ SQ HI1 HS1 HC1
        go_wp2
        go_roundw
        case rel => exact ⟨k + 1, fun i => if i = k then x else f i, by omega, by go_num, HI7, hik (fun i hi => by (try dsimp only); split; exact ⟨x0, by omega⟩; exact HF.out i (by omega)), hik (SZ.out.mono (by omega)), KZ⟩
        case measure => simp [intOf]; omega
    · obtain rfl : k = m := by omega
      go_wp2
      go_ret
      exact ⟨_, f, rfl, HI.out, HF.out, HS.out, HC.out⟩
/-- Numbers out of a code. -/
def NewI (m : Nat) (w : World) (e : Ending) (w' : World) : Prop := ∃ (v : Value) (f : Nat → Int), e = .returned v ∧ IGr w' w.heap.size v m f ∧ (∀ i, i < m → 0 ≤ f i ∧ f i < 2130706433) ∧ Chg nob w w'
theorem IGr.lower9 {W : World} {B B' : Nat} {v : Value} {k : Nat} {f : Nat → Int} (h : IGr W B v k f) (l : B' ≤ B) : IGr W B' v k f := by
  obtain ⟨h1, h2⟩ := h
  refine ⟨h1, ?_⟩
  rcases h2 with q | ⟨g, cap, cur, e, hb, r⟩
  · exact .inl q
  · exact .inr ⟨g, cap, cur, e, by omega, r⟩
set_option maxHeartbeats 1000000 in
theorem numbersOf_any (c : Option Addr) (len cap m : Nat) (w : World) (h : Bytes w c len) (hl : (len : Int) ≤ 9223372036854775807) (hm : m ≤ 100) :
    Calls Tryz.prog 22 #[.slice c len cap, .int .i64 m] w fun e w' => NewI m w e w' := by
  go_enter Tryz.func22, Tryz.ntmps22
  go_wp2_with fail
  refine (l00Source_any c len cap _ h hl).mono ?_
  rintro e W1 ⟨rfl, hs, hb⟩
  have K1 := hik (chg_of_below hb)
  have hlt : w.heap.size < W1.heap.size := hs.lt
  have HS := hik hs
  clear hs hb
  go_wp2_with fail
  refine (fieldsD_any m 0 _ _ HS.out (by omega) hm).mono ?_
  rintro e W2 ⟨v, f, rfl, hi, hf, _, k2⟩
  have I2 := hik hi
  have F2 := hik hf
  have K2 := hik (K1.out.near k2 (fun i q => by have q : i = w.heap.size := q; omega))
  clear hi hf k2
  go_wp2
  go_ret
  exact ⟨v, f, rfl, I2.out.lower9 (by omega), F2.out, K2.out⟩

/-- Entries of a matrix that were drawn so far: up to row r, column c. -/
structure Dwn (R C r c : Nat) (l : List En) : Prop where
  ris : l.Pairwise (fun a b => enlt a b = true)
  win : ∀ x ∈ l, win R C x = true
  low : ∀ x ∈ l, x.1 < r ∨ (x.1 = r ∧ x.2.1 < c)
  len : l.length ≤ r * C + c
theorem Dwn.start (R C : Nat) : Dwn R C 0 0 [] := ⟨List.Pairwise.nil, fun x h => (by cases h), fun x h => (by cases h), Nat.zero_le _⟩
theorem Dwn.skip {R C r c : Nat} {l : List En} (h : Dwn R C r c l) : Dwn R C r (c + 1) l :=
  ⟨h.ris, h.win, fun x hx => by have := h.low x hx; omega, by have := h.len; omega⟩
theorem Dwn.row {R C r : Nat} {l : List En} (h : Dwn R C r C l) : Dwn R C (r + 1) 0 l :=
  ⟨h.ris, h.win, fun x hx => by have := h.low x hx; omega, by have := h.len; rw [Nat.succ_mul]; omega⟩
theorem Dwn.put {R C r c : Nat} {l : List En} (h : Dwn R C r c l) (hr : r < R) (hc : c < C) {v : Int} (v0 : 1 ≤ v) (v1 : v < 2130706433) : Dwn R C r (c + 1) (l ++ [((r : Int), (c : Int), v)]) := by
  refine ⟨?_, fun x hx => ?_, fun x hx => ?_, by have := h.len; simp; omega⟩
  · rw [List.pairwise_append]
    refine ⟨h.ris, by simp, fun a ha b hb => ?_⟩
    simp at hb
    subst hb
    have := h.low a ha
    rw [enlt_iff]
    exact this
  · rcases List.mem_append.1 hx with q | q
    · exact h.win x q
    · simp at q
      subst q
      simp [Go.Proofs.YtkpohajmcngjcaaGreatDoor.win]
      omega
  · rcases List.mem_append.1 hx with q | q
    · have := h.low x q; omega
    · simp at q
      subst q
      right
      exact ⟨rfl, by dsimp only; omega⟩
/-- A drawn matrix. -/
def DrawnE9 (n R C b : Nat) (w : World) (e : Ending) (w' : World) : Prop := ∃ (l : List En) (g cap : Nat), e = .returned (.slice (some ⟨g, 0, none⟩) l.length cap) ∧ w.heap.size ≤ g ∧ EnL w' g l ∧ Dwn (2 ^ R) (2 ^ C) (2 ^ R) 0 l ∧ Src n w' b ∧ Chg (fun k => k = b) w w'
set_option maxHeartbeats 4000000 in
theorem entriesD_any (R C n b : Nat) (w : World) (h : Src n w b) (hn : n ≤ 999999900000) (hR : R ≤ 3) (hC : C ≤ 3) :
    Calls Tryz.prog 82 #[.pointer (some ⟨b, 0, none⟩), .int .i64 R, .int .i64 C] w fun e w' => DrawnE9 (n + 21 * (2 ^ R * 2 ^ C)) R C b w e w' := by
  have hb := h.lt
  have H := hik (h.keep ((Chg.refl nob w).alloc (.cells #[] 106)))
  have FR := hik (EGr.fresh w w.heap.size (Nat.le_refl _))
  have hwR := wp2 R (by omega)
  have hwC := wp2 C (by omega)
  obtain ⟨NR, hNR⟩ : ∃ N, N = 2 ^ R := ⟨_, rfl⟩
  obtain ⟨NC, hNC⟩ : ∃ N, N = 2 ^ C := ⟨_, rfl⟩
  have hR8 : NR ≤ 8 := by rw [hNR]; exact Nat.pow_le_pow_right (by omega) hR
  have hC8 : NC ≤ 8 := by rw [hNC]; exact Nat.pow_le_pow_right (by omega) hC
  have eR : wrap64 (2 ^ R) = (NR : Int) := by rw [hwR, hNR]; exact (pow_cast R).symm
  have eC : wrap64 (2 ^ C) = (NC : Int) := by rw [hwC, hNC]; exact (pow_cast C).symm
  have HNR := hik hNR
  have HNC := hik hNC
  unfold DrawnE9
  rw [← hNR, ← hNC]
  clear h hwR hwC hNR hNC
  go_enter Tryz.func82, Tryz.ntmps82
  go_wp2
  go_loopw [7, 8] (fun v i W => ∃ (r : Nat) (l : List En), r ≤ NR ∧ i = .int .i64 r ∧ Hid (EGr W w.heap.size v l) ∧ Hid (Dwn NR NC r 0 l) ∧ Hid (Src (n + 21 * (r * NC)) W b) ∧ Hid (Chg (fun i => i = b) w W)) (fun _ i _ => NR - (intOf i).toNat)
  case atStart => exact ⟨0, [], Nat.zero_le _, rfl, FR, hik (Dwn.start _ _), hik (by rw [Nat.zero_mul]; exact H.out), hik ((Chg.refl _ _).alloc _)⟩
  case round =>
    clear FR H
    obtain ⟨r, l, hr, rfl, HE, HD, HS, HC⟩ := hrel
    by_cases hlt : r < NR
    · have hrm : ((r : Nat) : Int) < NR := by omega
      go_wp2
      simp only [eR]
      go_loopw [7, 9] (fun v i W => ∃ (c : Nat) (l : List En), c ≤ NC ∧ i = .int .i64 c ∧ Hid (EGr W w.heap.size v l) ∧ Hid (Dwn NR NC r c l) ∧ Hid (Src (n + 21 * (r * NC + c)) W b) ∧ Hid (Chg (fun i => i = b) w W)) (fun _ i _ => NC - (intOf i).toNat)
      case atStart => exact ⟨0, l, Nat.zero_le _, rfl, HE, HD, HS, HC⟩
      case round =>
        clear HE HD HS HC
        obtain ⟨c, l, hc, rfl, HE, HD, HS, HC⟩ := hrel
        have hsz := HC.out.size
        have hq : r * NC + c ≤ 64 := by
          have : r * NC ≤ 7 * 8 := Nat.mul_le_mul (by omega) hC8
          omega
        have hll : l.length ≤ 64 := by have := HD.out.len; omega
        by_cases hlc : c < NC
        · have hcm : ((c : Nat) : Int) < NC := by omega
          go_wp2_with fail
          refine (chance_any 4 _ b _ HS (by omega) (by omega) (by omega)).mono ?_
          rintro e W1 ⟨bo, rfl, hS1, hB1⟩
          have HE1 := hik (EGr.chg9 HE.out hB1 (fun i hi e => by have e : i = b := e; omega))
          have HS1 := hik hS1
          have HC1 := hik (HC.out.trans hB1)
          have hs1 := HC1.out.size
          clear hS1 hB1 HE HS HC
          cases bo with
          | false =>
            go_wp2
            go_roundw
            case rel => exact ⟨c + 1, l, by omega, by go_num, HE1, hik HD.out.skip, hik (HS1.out.mono (by omega)), HC1⟩
            case measure => simp [intOf]; omega
          | true =>
            go_wp2_with fail
            refine (fieldC_any _ b _ HS1.out (by omega)).mono ?_
            rintro e W2 ⟨x, rfl, x0, x1, hS2, hB2⟩
            have HE2 := hik (EGr.chg9 HE1.out hB2 (fun i hi e => by have e : i = b := e; omega))
            have HS2 := hik hS2
            have HC2 := hik (HC1.out.trans hB2)
            have hs2 := HC2.out.size
            clear hS2 hB2 HE1 HS1 HC1
            obtain ⟨y, hy⟩ : ∃ y, y = max 1 x := ⟨_, rfl⟩
            have y0 : 1 ≤ y := by omega
            have y1 : y < 2130706433 := by omega
            have hmax : max 1 x = y := hy.symm
            have hmax2 : (if x < 1 then 1 else x) = y := by rw [hy]; split <;> omega
            have hmax3 : (if 1 < x then x else 1) = y := by rw [hy]; split <;> omega
            have EB := hik (HE2.out.keep ((Chg.refl nob W2).alloc (.cells #[.int .i64 (r : Int), .int .i64 (c : Int), .int .i64 y] 106)))
            have KQ := hik (HC2.out.alloc (.cells #[.int .i64 (r : Int), .int .i64 (c : Int), .int .i64 y] 106))
            have SQ := hik (HS2.out.keep ((Chg.refl nob W2).alloc (.cells #[.int .i64 (r : Int), .int .i64 (c : Int), .int .i64 y] 106)))
            have LC := hik (show w.heap.size ≤ (W2.alloc (.cells #[.int .i64 (r : Int), .int .i64 (c : Int), .int .i64 y] 106)).heap.size from Nat.le_trans hs2 ((Chg.refl nob W2).alloc _).size)
            have NW := hik (news3 W2 (r : Int) (c : Int) y 106 W2.heap.size rfl)
            clear hy
            go_wp2_with (at_builtin; refine wpList_appE (by rfl) (.tmp 27) (.tmp 34) (by rfl) w.heap.size _ l (by rfl) EB.out ⟨W2.heap.size, 0, none⟩ 1 1 [((r : Int), (c : Int), y)] (by rfl) rfl NW.out (by omega) LC.out ?b6)
            case b6 =>
              intro v7 w7 hg7 k7
              have HE7 := hik hg7
              have KZ := hik (KQ.out.near9 k7 (fun i q => q))
              have SZ := hik (SQ.out.chg k7 (fun i hi q => by have q : w.heap.size ≤ i := q; omega))
              clear hg7 k7 EB KQ SQ LC NW HE2 HS2 HC2 hmax hmax2 hmax3
              go_wp2
              go_roundw
              case rel => exact ⟨c + 1, l ++ [((r : Int), (c : Int), y)], by omega, by go_num, HE7, hik (HD.out.put hlt hlc y0 y1), hik (SZ.out.mono (by omega)), KZ⟩
              case measure => simp [intOf]; omega
        · obtain rfl : NC = c := by omega
          go_wp2
          go_roundw
          case rel => exact ⟨r + 1, l, by omega, by go_num, HE, hik HD.out.row, hik (HS.out.mono (by have : (r + 1) * NC = r * NC + NC := Nat.succ_mul r NC; omega)), HC⟩
          case measure => simp [intOf]; omega
    · obtain rfl : NR = r := by omega
      obtain ⟨g, cap, rfl, hlc, hcm, hbg, hen⟩ := HE.out.shape
      have HEN := hik hen
      have HBG := hik hbg
      clear hen hlc hcm hbg
      go_wp2
      go_ret
      exact ⟨l, g, cap, rfl, HBG.out, HEN.out, HD.out, HS.out, HC.out⟩

end Go.Proofs.YtkpohajmcngjcaaGreatDoor

namespace Go.Proofs.YtkpohajmcngjcaaGreatDoor
open Go.ChangeShapes Go.WideShapes Go.ChangeAt Go.RowKit
set_option linter.unusedVariables false
set_option maxRecDepth 100000
set_option linter.unusedSimpArgs false

/-- Six cells. -/
def pv6 (a b c d e f : Value) : Nat → Value
  | 0 => a
  | 1 => b
  | 2 => c
  | 3 => d
  | 4 => e
  | _ => f
theorem row6_new (W : World) (a b c d e f : Value) (t : TypeId) : (W.alloc (.cells #[a, b, c, d, e, f] t)).rowIs W.heap.size t 6 (pv6 a b c d e f) :=
  World.rowIs_alloc W #[a, b, c, d, e, f] t (pv6 a b c d e f) (fun i hi => by
    match i, hi with
    | 0, _ => rfl
    | 1, _ => rfl
    | 2, _ => rfl
    | 3, _ => rfl
    | 4, _ => rfl
    | 5, _ => rfl)
theorem row6_all {W : World} {g : Nat} {ty : TypeId} {h0 : Nat → Value} (h : W.rowIs g ty 6 h0) (a b c d e f : Value) : ((((((W.setCell ⟨g, 0, none⟩ a).setCell ⟨g, 1, none⟩ b).setCell ⟨g, 2, none⟩ c).setCell ⟨g, 3, none⟩ d).setCell ⟨g, 4, none⟩ e).setCell ⟨g, 5, none⟩ f).rowIs g ty 6 (pv6 a b c d e f) :=
  ((((((h.set 0 a).set 1 b).set 2 c).set 3 d).set 4 e).set 5 f).congr (fun i hi => by
    match i, hi with
    | 0, _ => rfl
    | 1, _ => rfl
    | 2, _ => rfl
    | 3, _ => rfl
    | 4, _ => rfl
    | 5, _ => rfl)
theorem row6_2 {W : World} {g : Nat} {ty : TypeId} {a b c d e f : Value} (h : W.rowIs g ty 6 (pv6 a b c d e f)) (v : Value) : (W.setCell ⟨g, 2, none⟩ v).rowIs g ty 6 (pv6 a b v d e f) :=
  (h.set 2 v).congr (fun i hi => by
    match i, hi with
    | 0, _ => rfl
    | 1, _ => rfl
    | 2, _ => rfl
    | 3, _ => rfl
    | 4, _ => rfl
    | 5, _ => rfl)
theorem row6_3 {W : World} {g : Nat} {ty : TypeId} {a b c d e f : Value} (h : W.rowIs g ty 6 (pv6 a b c d e f)) (v : Value) : (W.setCell ⟨g, 3, none⟩ v).rowIs g ty 6 (pv6 a b c v e f) :=
  (h.set 3 v).congr (fun i hi => by
    match i, hi with
    | 0, _ => rfl
    | 1, _ => rfl
    | 2, _ => rfl
    | 3, _ => rfl
    | 4, _ => rfl
    | 5, _ => rfl)
theorem row6_4 {W : World} {g : Nat} {ty : TypeId} {a b c d e f : Value} (h : W.rowIs g ty 6 (pv6 a b c d e f)) (v : Value) : (W.setCell ⟨g, 4, none⟩ v).rowIs g ty 6 (pv6 a b c d v f) :=
  (h.set 4 v).congr (fun i hi => by
    match i, hi with
    | 0, _ => rfl
    | 1, _ => rfl
    | 2, _ => rfl
    | 3, _ => rfl
    | 4, _ => rfl
    | 5, _ => rfl)
theorem row6_5 {W : World} {g : Nat} {ty : TypeId} {a b c d e f : Value} (h : W.rowIs g ty 6 (pv6 a b c d e f)) (v : Value) : (W.setCell ⟨g, 5, none⟩ v).rowIs g ty 6 (pv6 a b c d e v) :=
  (h.set 5 v).congr (fun i hi => by
    match i, hi with
    | 0, _ => rfl
    | 1, _ => rfl
    | 2, _ => rfl
    | 3, _ => rfl
    | 4, _ => rfl
    | 5, _ => rfl)

theorem Dwn.elm {R C : Nat} {l : List En} (h : Dwn R C R 0 l) (hl : R * C ≤ 200) : Go.Proofs.YtkpohajmcngjcaaGreatDoor.elm R C l.length (lfn l) = true := by
  have hlen := h.len
  have g : ∀ i, (hi : i < l.length) → lfn l i = l[i] := fun i hi => by unfold lfn; rw [List.getD_eq_getElem?_getD, List.getElem?_eq_getElem hi]; rfl
  unfold Go.Proofs.YtkpohajmcngjcaaGreatDoor.elm rsg
  rw [Bool.and_eq_true, Bool.and_eq_true, List.all_eq_true, List.all_eq_true]
  refine ⟨⟨by simp; omega, fun i hi => ?_⟩, fun i hi => ?_⟩
  · have hi : i < l.length := by simpa using hi
    rw [g i hi]
    exact h.win _ (List.getElem_mem hi)
  · have hi : i < l.length - 1 := by simpa using hi
    rw [g i (by omega), g (i + 1) (by omega)]
    exact List.pairwise_iff_getElem.1 h.ris i (i + 1) (by omega) (by omega) (by omega)

/-- A system's lists lie at or above block B. -/
def SyUp (y : SyA) (B : Nat) : Prop := ∃ gA gB gC : Nat, y.cA = some ⟨gA, 0, none⟩ ∧ y.cB = some ⟨gB, 0, none⟩ ∧ y.cC = some ⟨gC, 0, none⟩ ∧ B ≤ gA ∧ B ≤ gB ∧ B ≤ gC
theorem SyV.upc {P : Nat → Prop} {w w' : World} {s : Sy} {y : SyA} {B : Nat} (h : SyV w s y) (u : SyUp y B) (k : Chg P w w') (hp : ∀ i, B ≤ i → ¬ P i) : SyV w' s y := by
  obtain ⟨gA, gB, gC, eA, eB, eC, lA, lB, lC⟩ := u
  refine ⟨h.A.chg k (fun xb xo e _ _ => hp xb ?_), h.B.chg k (fun xb xo e _ _ => hp xb ?_), h.C.chg k (fun xb xo e _ _ => hp xb ?_)⟩
  · rw [eA] at e; cases e; exact lA
  · rw [eB] at e; cases e; exact lB
  · rw [eC] at e; cases e; exact lC
/-- A drawn system. -/
def DrawnY (n b : Nat) (w : World) (e : Ending) (w' : World) : Prop := ∃ (s : Sy) (y : SyA), e = .returned (.agg #[.int .i64 s.r, .int .i64 s.q, .int .i64 s.p, .slice y.cA s.nA y.pA, .slice y.cB s.nB y.pB, .slice y.cC s.nC y.pC]) ∧ SyV w' s y ∧ sysb s = true ∧ s.r ≤ 2 ∧ s.q ≤ 3 ∧ SyUp y w.heap.size ∧ Src n w' b ∧ Chg (fun k => k = b) w w'
theorem drawnY_of (r q : Nat) (p : Int) (lA lB lC : List En) (gA gB gC capA capB capC : Nat) {n b : Nat} {w w' : World} (r1 : 1 ≤ r) (r2 : r ≤ 2) (q1 : 2 ≤ q) (q2 : q ≤ 3) (p0 : 0 ≤ p) (p1 : p < 2 ^ (q - 1)) (dA : Dwn (2 ^ r) (2 ^ q) (2 ^ r) 0 lA) (dB : Dwn (2 ^ r) (2 ^ q) (2 ^ r) 0 lB) (dC : Dwn (2 ^ r) (2 ^ q) (2 ^ r) 0 lC) (eA : EnL w' gA lA) (eB : EnL w' gB lB) (eC : EnL w' gC lC) (hA : w.heap.size ≤ gA) (hB : w.heap.size ≤ gB) (hC : w.heap.size ≤ gC) (hs : Src n w' b) (hk : Chg (fun k => k = b) w w') :
    DrawnY n b w (.returned (.agg #[.int .i64 r, .int .i64 q, .int .i64 p, .slice (some ⟨gA, 0, none⟩) lA.length capA, .slice (some ⟨gB, 0, none⟩) lB.length capB, .slice (some ⟨gC, 0, none⟩) lC.length capC])) w' := by
  have hR : (2 : Nat) ^ r * 2 ^ q ≤ 200 := by
    obtain rfl | rfl : r = 1 ∨ r = 2 := by omega
    all_goals (obtain rfl | rfl : q = 2 ∨ q = 3 := by omega) <;> decide
  have xA := dA.elm hR
  have xB := dB.elm hR
  have xC := dC.elm hR
  rw [pow_cast, pow_cast] at xA xB xC
  refine ⟨⟨r, q, p, lA.length, lB.length, lC.length, lfn lA, lfn lB, lfn lC⟩, ⟨some ⟨gA, 0, none⟩, some ⟨gB, 0, none⟩, some ⟨gC, 0, none⟩, capA, capB, capC⟩, rfl, ⟨eA.ent, eB.ent, eC.ent⟩, ?_, by dsimp only; omega, by dsimp only; omega, ⟨gA, gB, gC, rfl, rfl, rfl, hA, hB, hC⟩, hs, hk⟩
  unfold sysb
  simp only [Int.toNat_natCast]
  rw [xA, xB, xC]
  simp
  exact ⟨⟨by omega, by omega⟩, p0, p1⟩
set_option maxHeartbeats 4000000 in
theorem sysD_any (n b : Nat) (w : World) (h : Src n w b) (hn : n ≤ 999999800000) :
    Calls Tryz.prog 45 #[.pointer (some ⟨b, 0, none⟩)] w fun e w' => DrawnY (n + 3000) b w e w' := by
  have hb := h.lt
  have K0 := hik ((Chg.refl (fun k => k = b) w).alloc (.cells #[.int .i64 0, .int .i64 0, .int .i64 0, .slice none 0 0, .slice none 0 0, .slice none 0 0] 40))
  have H := hik (h.keep ((Chg.refl nob w).alloc (.cells #[.int .i64 0, .int .i64 0, .int .i64 0, .slice none 0 0, .slice none 0 0, .slice none 0 0] 40)))
  have A0 := hik (row6_new w (.int .i64 0) (.int .i64 0) (.int .i64 0) (.slice none 0 0) (.slice none 0 0) (.slice none 0 0) 40)
  clear h
  go_enter Tryz.func45, Tryz.ntmps45
  go_wp2_with fail
  refine (nextC_any 2 n b _ H.out (by omega) (by omega) (by omega)).mono ?_
  rintro e W1 ⟨x, rfl, x0, x1, hS1, hB1⟩
  have A1 := hik (rowIs_chg A0.out hB1 (by omega))
  have K1 := hik (K0.out.trans hB1)
  have S1 := hik hS1
  clear hS1 hB1 A0 K0 H
  go_wp2_with fail
  refine (nextC_any 2 _ b _ S1.out (by omega) (by omega) (by omega)).mono ?_
  rintro e W2 ⟨y, rfl, y0, y1, hS2, hB2⟩
  have A2 := hik (rowIs_chg A1.out hB2 (by omega))
  have K2 := hik (K1.out.trans hB2)
  have S2 := hik hS2
  clear hS2 hB2 A1 K1 S1
  have hs2 : w.heap.size < W2.heap.size := A2.out.lt
  obtain rfl | rfl : x = 0 ∨ x = 1 := by omega
  · obtain rfl | rfl : y = 0 ∨ y = 1 := by omega
    · go_wp2_with fail
      have B3 := hik (row6_new W2 (.int .i64 1) (.int .i64 2) (.int .i64 0) (.slice none 0 0) (.slice none 0 0) (.slice none 0 0) 40)
      have A3 := hik (World.rowIs.alloc A2.out (.cells #[.int .i64 1, .int .i64 2, .int .i64 0, .slice none 0 0, .slice none 0 0, .slice none 0 0] 40))
      have K3 := hik (K2.out.alloc (.cells #[.int .i64 1, .int .i64 2, .int .i64 0, .slice none 0 0, .slice none 0 0, .slice none 0 0] 40))
      have S3 := hik (S2.out.keep ((Chg.refl nob W2).alloc (.cells #[.int .i64 1, .int .i64 2, .int .i64 0, .slice none 0 0, .slice none 0 0, .slice none 0 0] 40)))
      generalize hE : W2.alloc (.cells #[.int .i64 1, .int .i64 2, .int .i64 0, .slice none 0 0, .slice none 0 0, .slice none 0 0] 40) = W3 at B3 A3 K3 S3 ⊢
      have s3 : W2.heap.size < W3.heap.size := B3.out.lt
      clear hE A2 K2 S2
      refine (nextC_any 2 _ b _ S3.out (by omega) (by omega) (by omega)).mono ?_
      rintro e W4 ⟨p, rfl, p0, p1, hS, hB⟩
      have S4 := hik hS
      have B4 := hik (rowIs_chg B3.out hB (by omega))
      have A4 := hik (rowIs_chg A3.out hB (by omega))
      have K4 := hik (K3.out.trans hB)
      have s4 : W3.heap.size ≤ W4.heap.size := hB.size
      clear hS hB A3 B3 K3 S3
      have y0 := B4.out.cell (i := 0) (by omega)
      have yf0 := B4.out.frozen 0
      have y1 := B4.out.cell (i := 1) (by omega)
      have yf1 := B4.out.frozen 1
      have y2 := B4.out.cell (i := 2) (by omega)
      have yf2 := B4.out.frozen 2
      have y3 := B4.out.cell (i := 3) (by omega)
      have yf3 := B4.out.frozen 3
      have y4 := B4.out.cell (i := 4) (by omega)
      have yf4 := B4.out.frozen 4
      have y5 := B4.out.cell (i := 5) (by omega)
      have yf5 := B4.out.frozen 5
      simp only [pv6] at y0 y1 y2 y3 y4 y5
      go_wp2_with fail
      clear y0 yf0 y1 yf1 y2 yf2 y3 yf3 y4 yf4 y5 yf5
      have q4 := (Chg.refl (fun x => x = W2.heap.size) W4).setCell (p := ⟨W2.heap.size, 2, none⟩) (fun _ => rfl) (.int .i64 p)
      have B5 := hik (row6_2 B4.out (.int .i64 p))
      have A5 := hik (rowIs_chg A4.out q4 (by omega))
      have S5 := hik (S4.out.chg q4 (by omega))
      have K5 := hik (K4.out.near9 q4 (fun i e => by have e : i = W2.heap.size := e; omega))
      have s5 : W4.heap.size ≤ (W4.setCell ⟨W2.heap.size, 2, none⟩ (.int .i64 p)).heap.size := q4.size
      generalize hE : W4.setCell ⟨W2.heap.size, 2, none⟩ (.int .i64 p) = W5 at B5 A5 S5 K5 s5  ⊢
      clear hE q4 A4 B4 S4 K4
      refine (entriesD_any 1 2 _ b _ S5.out (by omega) (by omega) (by omega)).mono ?_
      rintro e W6 ⟨lA, gA, capA, rfl, hg, hL, hD, hS, hB⟩
      have EA := hik hL
      have DA := hik hD
      have GA : W5.heap.size ≤ gA := hg
      have S6 := hik (hS.mono (show _ ≤ n + 709 by omega))
      have B6 := hik (rowIs_chg B5.out hB (by omega))
      have A6 := hik (rowIs_chg A5.out hB (by omega))
      have K6 := hik (K5.out.trans hB)
      have s6 : W5.heap.size ≤ W6.heap.size := hB.size
      clear hg hL hD hS hB A5 B5 K5 S5
      have y0 := B6.out.cell (i := 0) (by omega)
      have yf0 := B6.out.frozen 0
      have y1 := B6.out.cell (i := 1) (by omega)
      have yf1 := B6.out.frozen 1
      have y2 := B6.out.cell (i := 2) (by omega)
      have yf2 := B6.out.frozen 2
      have y3 := B6.out.cell (i := 3) (by omega)
      have yf3 := B6.out.frozen 3
      have y4 := B6.out.cell (i := 4) (by omega)
      have yf4 := B6.out.frozen 4
      have y5 := B6.out.cell (i := 5) (by omega)
      have yf5 := B6.out.frozen 5
      simp only [pv6] at y0 y1 y2 y3 y4 y5
      go_wp2_with fail
      clear y0 yf0 y1 yf1 y2 yf2 y3 yf3 y4 yf4 y5 yf5
      have q6 := (Chg.refl (fun x => x = W2.heap.size) W6).setCell (p := ⟨W2.heap.size, 3, none⟩) (fun _ => rfl) (.slice (some ⟨gA, 0, none⟩) lA.length capA)
      have B7 := hik (row6_3 B6.out (.slice (some ⟨gA, 0, none⟩) lA.length capA))
      have A7 := hik (rowIs_chg A6.out q6 (by omega))
      have S7 := hik (S6.out.chg q6 (by omega))
      have K7 := hik (K6.out.near9 q6 (fun i e => by have e : i = W2.heap.size := e; omega))
      have s7 : W6.heap.size ≤ (W6.setCell ⟨W2.heap.size, 3, none⟩ (.slice (some ⟨gA, 0, none⟩) lA.length capA)).heap.size := q6.size
      have EA' := hik (EA.out.chg q6 (by omega))
      clear EA
      have EA := EA'
      clear EA'
      generalize hE : W6.setCell ⟨W2.heap.size, 3, none⟩ (.slice (some ⟨gA, 0, none⟩) lA.length capA) = W7 at B7 A7 S7 K7 s7 EA ⊢
      clear hE q6 A6 B6 S6 K6
      refine (entriesD_any 1 2 _ b _ S7.out (by omega) (by omega) (by omega)).mono ?_
      rintro e W8 ⟨lB, gB, capB, rfl, hg, hL, hD, hS, hB⟩
      have EB := hik hL
      have DB := hik hD
      have GB : W7.heap.size ≤ gB := hg
      have S8 := hik (hS.mono (show _ ≤ n + 1409 by omega))
      have B8 := hik (rowIs_chg B7.out hB (by omega))
      have A8 := hik (rowIs_chg A7.out hB (by omega))
      have K8 := hik (K7.out.trans hB)
      have s8 : W7.heap.size ≤ W8.heap.size := hB.size
      have EAB := hik (EA.out.chg hB (by omega))
      clear EA
      have EA := EAB
      clear EAB
      clear hg hL hD hS hB A7 B7 K7 S7
      have y0 := B8.out.cell (i := 0) (by omega)
      have yf0 := B8.out.frozen 0
      have y1 := B8.out.cell (i := 1) (by omega)
      have yf1 := B8.out.frozen 1
      have y2 := B8.out.cell (i := 2) (by omega)
      have yf2 := B8.out.frozen 2
      have y3 := B8.out.cell (i := 3) (by omega)
      have yf3 := B8.out.frozen 3
      have y4 := B8.out.cell (i := 4) (by omega)
      have yf4 := B8.out.frozen 4
      have y5 := B8.out.cell (i := 5) (by omega)
      have yf5 := B8.out.frozen 5
      simp only [pv6] at y0 y1 y2 y3 y4 y5
      go_wp2_with fail
      clear y0 yf0 y1 yf1 y2 yf2 y3 yf3 y4 yf4 y5 yf5
      have q8 := (Chg.refl (fun x => x = W2.heap.size) W8).setCell (p := ⟨W2.heap.size, 4, none⟩) (fun _ => rfl) (.slice (some ⟨gB, 0, none⟩) lB.length capB)
      have B9 := hik (row6_4 B8.out (.slice (some ⟨gB, 0, none⟩) lB.length capB))
      have A9 := hik (rowIs_chg A8.out q8 (by omega))
      have S9 := hik (S8.out.chg q8 (by omega))
      have K9 := hik (K8.out.near9 q8 (fun i e => by have e : i = W2.heap.size := e; omega))
      have s9 : W8.heap.size ≤ (W8.setCell ⟨W2.heap.size, 4, none⟩ (.slice (some ⟨gB, 0, none⟩) lB.length capB)).heap.size := q8.size
      have EA' := hik (EA.out.chg q8 (by omega))
      clear EA
      have EA := EA'
      clear EA'
      have EB' := hik (EB.out.chg q8 (by omega))
      clear EB
      have EB := EB'
      clear EB'
      generalize hE : W8.setCell ⟨W2.heap.size, 4, none⟩ (.slice (some ⟨gB, 0, none⟩) lB.length capB) = W9 at B9 A9 S9 K9 s9 EA EB ⊢
      clear hE q8 A8 B8 S8 K8
      refine (entriesD_any 1 2 _ b _ S9.out (by omega) (by omega) (by omega)).mono ?_
      rintro e W10 ⟨lC, gC, capC, rfl, hg, hL, hD, hS, hB⟩
      have EC := hik hL
      have DC := hik hD
      have GC : W9.heap.size ≤ gC := hg
      have S10 := hik (hS.mono (show _ ≤ n + 2109 by omega))
      have B10 := hik (rowIs_chg B9.out hB (by omega))
      have A10 := hik (rowIs_chg A9.out hB (by omega))
      have K10 := hik (K9.out.trans hB)
      have s10 : W9.heap.size ≤ W10.heap.size := hB.size
      have EAC := hik (EA.out.chg hB (by omega))
      clear EA
      have EA := EAC
      clear EAC
      have EBC := hik (EB.out.chg hB (by omega))
      clear EB
      have EB := EBC
      clear EBC
      clear hg hL hD hS hB A9 B9 K9 S9
      have y0 := B10.out.cell (i := 0) (by omega)
      have yf0 := B10.out.frozen 0
      have y1 := B10.out.cell (i := 1) (by omega)
      have yf1 := B10.out.frozen 1
      have y2 := B10.out.cell (i := 2) (by omega)
      have yf2 := B10.out.frozen 2
      have y3 := B10.out.cell (i := 3) (by omega)
      have yf3 := B10.out.frozen 3
      have y4 := B10.out.cell (i := 4) (by omega)
      have yf4 := B10.out.frozen 4
      have y5 := B10.out.cell (i := 5) (by omega)
      have yf5 := B10.out.frozen 5
      simp only [pv6] at y0 y1 y2 y3 y4 y5
      go_upto_region 6 with fail
      clear y0 yf0 y1 yf1 y2 yf2 y3 yf3 y4 yf4 y5 yf5
      have q10 := (Chg.refl (fun x => x = W2.heap.size) W10).setCell (p := ⟨W2.heap.size, 5, none⟩) (fun _ => rfl) (.slice (some ⟨gC, 0, none⟩) lC.length capC)
      have B11 := hik (row6_5 B10.out (.slice (some ⟨gC, 0, none⟩) lC.length capC))
      have A11 := hik (rowIs_chg A10.out q10 (by omega))
      have S11 := hik (S10.out.chg q10 (by omega))
      have K11 := hik (K10.out.near9 q10 (fun i e => by have e : i = W2.heap.size := e; omega))
      have s11 : W10.heap.size ≤ (W10.setCell ⟨W2.heap.size, 5, none⟩ (.slice (some ⟨gC, 0, none⟩) lC.length capC)).heap.size := q10.size
      have EA' := hik (EA.out.chg q10 (by omega))
      clear EA
      have EA := EA'
      clear EA'
      have EB' := hik (EB.out.chg q10 (by omega))
      clear EB
      have EB := EB'
      clear EB'
      have EC' := hik (EC.out.chg q10 (by omega))
      clear EC
      have EC := EC'
      clear EC'
      generalize hE : W10.setCell ⟨W2.heap.size, 5, none⟩ (.slice (some ⟨gC, 0, none⟩) lC.length capC) = W11 at B11 A11 S11 K11 s11 EA EB EC ⊢
      clear hE q10 A10 B10 S10 K10
      have y0 := B11.out.cell (i := 0) (by omega)
      have yf0 := B11.out.frozen 0
      have y1 := B11.out.cell (i := 1) (by omega)
      have yf1 := B11.out.frozen 1
      have y2 := B11.out.cell (i := 2) (by omega)
      have yf2 := B11.out.frozen 2
      have y3 := B11.out.cell (i := 3) (by omega)
      have yf3 := B11.out.frozen 3
      have y4 := B11.out.cell (i := 4) (by omega)
      have yf4 := B11.out.frozen 4
      have y5 := B11.out.cell (i := 5) (by omega)
      have yf5 := B11.out.frozen 5
      simp only [pv6] at y0 y1 y2 y3 y4 y5
      have z0 := A11.out.cell (i := 0) (by omega)
      have zf0 := A11.out.frozen 0
      have z1 := A11.out.cell (i := 1) (by omega)
      have zf1 := A11.out.frozen 1
      have z2 := A11.out.cell (i := 2) (by omega)
      have zf2 := A11.out.frozen 2
      have z3 := A11.out.cell (i := 3) (by omega)
      have zf3 := A11.out.frozen 3
      have z4 := A11.out.cell (i := 4) (by omega)
      have zf4 := A11.out.frozen 4
      have z5 := A11.out.cell (i := 5) (by omega)
      have zf5 := A11.out.frozen 5
      simp only [pv6] at z0 z1 z2 z3 z4 z5
      have n1 : ¬ W2.heap.size = w.heap.size := by omega
      have n2 : ¬ w.heap.size = W2.heap.size := by omega
      have QQ := hik (((((((Chg.refl (fun x => x = w.heap.size) W11).setCell (p := ⟨w.heap.size, 0, none⟩) (fun _ => rfl) (.int .i64 1)).setCell (p := ⟨w.heap.size, 1, none⟩) (fun _ => rfl) (.int .i64 2)).setCell (p := ⟨w.heap.size, 2, none⟩) (fun _ => rfl) (.int .i64 p)).setCell (p := ⟨w.heap.size, 3, none⟩) (fun _ => rfl) (.slice (some ⟨gA, 0, none⟩) lA.length capA)).setCell (p := ⟨w.heap.size, 4, none⟩) (fun _ => rfl) (.slice (some ⟨gB, 0, none⟩) lB.length capB)).setCell (p := ⟨w.heap.size, 5, none⟩) (fun _ => rfl) (.slice (some ⟨gC, 0, none⟩) lC.length capC))
      have ZZ := hik (row6_all A11.out (.int .i64 1) (.int .i64 2) (.int .i64 p) (.slice (some ⟨gA, 0, none⟩) lA.length capA) (.slice (some ⟨gB, 0, none⟩) lB.length capB) (.slice (some ⟨gC, 0, none⟩) lC.length capC))
      have u0 := ZZ.out.cell (i := 0) (by omega)
      have u1 := ZZ.out.cell (i := 1) (by omega)
      have u2 := ZZ.out.cell (i := 2) (by omega)
      have u3 := ZZ.out.cell (i := 3) (by omega)
      have u4 := ZZ.out.cell (i := 4) (by omega)
      have u5 := ZZ.out.cell (i := 5) (by omega)
      simp only [pv6] at u0 u1 u2 u3 u4 u5
      go_wp2
      exact bodyPost_ret (v := .agg #[.int .i64 1, .int .i64 2, .int .i64 p, .slice (some ⟨gA, 0, none⟩) lA.length capA, .slice (some ⟨gB, 0, none⟩) lB.length capB, .slice (some ⟨gC, 0, none⟩) lC.length capC]) (by simp [results, Tryz.results45, go_sem, u0, u1, u2, u3, u4, u5]) rfl (drawnY_of 1 2 p lA lB lC gA gB gC capA capB capC (by omega) (by omega) (by omega) (by omega) p0 (by omega) DA.out DB.out DC.out (EA.out.chg QQ.out (by omega)) (EB.out.chg QQ.out (by omega)) (EC.out.chg QQ.out (by omega)) (by omega) (by omega) (by omega) ((S11.out.chg QQ.out (by omega)).mono (by omega)) (K11.out.near9 QQ.out (fun i e => by have e : i = w.heap.size := e; omega)))
    · go_wp2_with fail
      have B3 := hik (row6_new W2 (.int .i64 1) (.int .i64 3) (.int .i64 0) (.slice none 0 0) (.slice none 0 0) (.slice none 0 0) 40)
      have A3 := hik (World.rowIs.alloc A2.out (.cells #[.int .i64 1, .int .i64 3, .int .i64 0, .slice none 0 0, .slice none 0 0, .slice none 0 0] 40))
      have K3 := hik (K2.out.alloc (.cells #[.int .i64 1, .int .i64 3, .int .i64 0, .slice none 0 0, .slice none 0 0, .slice none 0 0] 40))
      have S3 := hik (S2.out.keep ((Chg.refl nob W2).alloc (.cells #[.int .i64 1, .int .i64 3, .int .i64 0, .slice none 0 0, .slice none 0 0, .slice none 0 0] 40)))
      generalize hE : W2.alloc (.cells #[.int .i64 1, .int .i64 3, .int .i64 0, .slice none 0 0, .slice none 0 0, .slice none 0 0] 40) = W3 at B3 A3 K3 S3 ⊢
      have s3 : W2.heap.size < W3.heap.size := B3.out.lt
      clear hE A2 K2 S2
      refine (nextC_any 4 _ b _ S3.out (by omega) (by omega) (by omega)).mono ?_
      rintro e W4 ⟨p, rfl, p0, p1, hS, hB⟩
      have S4 := hik hS
      have B4 := hik (rowIs_chg B3.out hB (by omega))
      have A4 := hik (rowIs_chg A3.out hB (by omega))
      have K4 := hik (K3.out.trans hB)
      have s4 : W3.heap.size ≤ W4.heap.size := hB.size
      clear hS hB A3 B3 K3 S3
      have y0 := B4.out.cell (i := 0) (by omega)
      have yf0 := B4.out.frozen 0
      have y1 := B4.out.cell (i := 1) (by omega)
      have yf1 := B4.out.frozen 1
      have y2 := B4.out.cell (i := 2) (by omega)
      have yf2 := B4.out.frozen 2
      have y3 := B4.out.cell (i := 3) (by omega)
      have yf3 := B4.out.frozen 3
      have y4 := B4.out.cell (i := 4) (by omega)
      have yf4 := B4.out.frozen 4
      have y5 := B4.out.cell (i := 5) (by omega)
      have yf5 := B4.out.frozen 5
      simp only [pv6] at y0 y1 y2 y3 y4 y5
      go_wp2_with fail
      clear y0 yf0 y1 yf1 y2 yf2 y3 yf3 y4 yf4 y5 yf5
      have q4 := (Chg.refl (fun x => x = W2.heap.size) W4).setCell (p := ⟨W2.heap.size, 2, none⟩) (fun _ => rfl) (.int .i64 p)
      have B5 := hik (row6_2 B4.out (.int .i64 p))
      have A5 := hik (rowIs_chg A4.out q4 (by omega))
      have S5 := hik (S4.out.chg q4 (by omega))
      have K5 := hik (K4.out.near9 q4 (fun i e => by have e : i = W2.heap.size := e; omega))
      have s5 : W4.heap.size ≤ (W4.setCell ⟨W2.heap.size, 2, none⟩ (.int .i64 p)).heap.size := q4.size
      generalize hE : W4.setCell ⟨W2.heap.size, 2, none⟩ (.int .i64 p) = W5 at B5 A5 S5 K5 s5  ⊢
      clear hE q4 A4 B4 S4 K4
      refine (entriesD_any 1 3 _ b _ S5.out (by omega) (by omega) (by omega)).mono ?_
      rintro e W6 ⟨lA, gA, capA, rfl, hg, hL, hD, hS, hB⟩
      have EA := hik hL
      have DA := hik hD
      have GA : W5.heap.size ≤ gA := hg
      have S6 := hik (hS.mono (show _ ≤ n + 709 by omega))
      have B6 := hik (rowIs_chg B5.out hB (by omega))
      have A6 := hik (rowIs_chg A5.out hB (by omega))
      have K6 := hik (K5.out.trans hB)
      have s6 : W5.heap.size ≤ W6.heap.size := hB.size
      clear hg hL hD hS hB A5 B5 K5 S5
      have y0 := B6.out.cell (i := 0) (by omega)
      have yf0 := B6.out.frozen 0
      have y1 := B6.out.cell (i := 1) (by omega)
      have yf1 := B6.out.frozen 1
      have y2 := B6.out.cell (i := 2) (by omega)
      have yf2 := B6.out.frozen 2
      have y3 := B6.out.cell (i := 3) (by omega)
      have yf3 := B6.out.frozen 3
      have y4 := B6.out.cell (i := 4) (by omega)
      have yf4 := B6.out.frozen 4
      have y5 := B6.out.cell (i := 5) (by omega)
      have yf5 := B6.out.frozen 5
      simp only [pv6] at y0 y1 y2 y3 y4 y5
      go_wp2_with fail
      clear y0 yf0 y1 yf1 y2 yf2 y3 yf3 y4 yf4 y5 yf5
      have q6 := (Chg.refl (fun x => x = W2.heap.size) W6).setCell (p := ⟨W2.heap.size, 3, none⟩) (fun _ => rfl) (.slice (some ⟨gA, 0, none⟩) lA.length capA)
      have B7 := hik (row6_3 B6.out (.slice (some ⟨gA, 0, none⟩) lA.length capA))
      have A7 := hik (rowIs_chg A6.out q6 (by omega))
      have S7 := hik (S6.out.chg q6 (by omega))
      have K7 := hik (K6.out.near9 q6 (fun i e => by have e : i = W2.heap.size := e; omega))
      have s7 : W6.heap.size ≤ (W6.setCell ⟨W2.heap.size, 3, none⟩ (.slice (some ⟨gA, 0, none⟩) lA.length capA)).heap.size := q6.size
      have EA' := hik (EA.out.chg q6 (by omega))
      clear EA
      have EA := EA'
      clear EA'
      generalize hE : W6.setCell ⟨W2.heap.size, 3, none⟩ (.slice (some ⟨gA, 0, none⟩) lA.length capA) = W7 at B7 A7 S7 K7 s7 EA ⊢
      clear hE q6 A6 B6 S6 K6
      refine (entriesD_any 1 3 _ b _ S7.out (by omega) (by omega) (by omega)).mono ?_
      rintro e W8 ⟨lB, gB, capB, rfl, hg, hL, hD, hS, hB⟩
      have EB := hik hL
      have DB := hik hD
      have GB : W7.heap.size ≤ gB := hg
      have S8 := hik (hS.mono (show _ ≤ n + 1409 by omega))
      have B8 := hik (rowIs_chg B7.out hB (by omega))
      have A8 := hik (rowIs_chg A7.out hB (by omega))
      have K8 := hik (K7.out.trans hB)
      have s8 : W7.heap.size ≤ W8.heap.size := hB.size
      have EAB := hik (EA.out.chg hB (by omega))
      clear EA
      have EA := EAB
      clear EAB
      clear hg hL hD hS hB A7 B7 K7 S7
      have y0 := B8.out.cell (i := 0) (by omega)
      have yf0 := B8.out.frozen 0
      have y1 := B8.out.cell (i := 1) (by omega)
      have yf1 := B8.out.frozen 1
      have y2 := B8.out.cell (i := 2) (by omega)
      have yf2 := B8.out.frozen 2
      have y3 := B8.out.cell (i := 3) (by omega)
      have yf3 := B8.out.frozen 3
      have y4 := B8.out.cell (i := 4) (by omega)
      have yf4 := B8.out.frozen 4
      have y5 := B8.out.cell (i := 5) (by omega)
      have yf5 := B8.out.frozen 5
      simp only [pv6] at y0 y1 y2 y3 y4 y5
      go_wp2_with fail
      clear y0 yf0 y1 yf1 y2 yf2 y3 yf3 y4 yf4 y5 yf5
      have q8 := (Chg.refl (fun x => x = W2.heap.size) W8).setCell (p := ⟨W2.heap.size, 4, none⟩) (fun _ => rfl) (.slice (some ⟨gB, 0, none⟩) lB.length capB)
      have B9 := hik (row6_4 B8.out (.slice (some ⟨gB, 0, none⟩) lB.length capB))
      have A9 := hik (rowIs_chg A8.out q8 (by omega))
      have S9 := hik (S8.out.chg q8 (by omega))
      have K9 := hik (K8.out.near9 q8 (fun i e => by have e : i = W2.heap.size := e; omega))
      have s9 : W8.heap.size ≤ (W8.setCell ⟨W2.heap.size, 4, none⟩ (.slice (some ⟨gB, 0, none⟩) lB.length capB)).heap.size := q8.size
      have EA' := hik (EA.out.chg q8 (by omega))
      clear EA
      have EA := EA'
      clear EA'
      have EB' := hik (EB.out.chg q8 (by omega))
      clear EB
      have EB := EB'
      clear EB'
      generalize hE : W8.setCell ⟨W2.heap.size, 4, none⟩ (.slice (some ⟨gB, 0, none⟩) lB.length capB) = W9 at B9 A9 S9 K9 s9 EA EB ⊢
      clear hE q8 A8 B8 S8 K8
      refine (entriesD_any 1 3 _ b _ S9.out (by omega) (by omega) (by omega)).mono ?_
      rintro e W10 ⟨lC, gC, capC, rfl, hg, hL, hD, hS, hB⟩
      have EC := hik hL
      have DC := hik hD
      have GC : W9.heap.size ≤ gC := hg
      have S10 := hik (hS.mono (show _ ≤ n + 2109 by omega))
      have B10 := hik (rowIs_chg B9.out hB (by omega))
      have A10 := hik (rowIs_chg A9.out hB (by omega))
      have K10 := hik (K9.out.trans hB)
      have s10 : W9.heap.size ≤ W10.heap.size := hB.size
      have EAC := hik (EA.out.chg hB (by omega))
      clear EA
      have EA := EAC
      clear EAC
      have EBC := hik (EB.out.chg hB (by omega))
      clear EB
      have EB := EBC
      clear EBC
      clear hg hL hD hS hB A9 B9 K9 S9
      have y0 := B10.out.cell (i := 0) (by omega)
      have yf0 := B10.out.frozen 0
      have y1 := B10.out.cell (i := 1) (by omega)
      have yf1 := B10.out.frozen 1
      have y2 := B10.out.cell (i := 2) (by omega)
      have yf2 := B10.out.frozen 2
      have y3 := B10.out.cell (i := 3) (by omega)
      have yf3 := B10.out.frozen 3
      have y4 := B10.out.cell (i := 4) (by omega)
      have yf4 := B10.out.frozen 4
      have y5 := B10.out.cell (i := 5) (by omega)
      have yf5 := B10.out.frozen 5
      simp only [pv6] at y0 y1 y2 y3 y4 y5
      go_upto_region 6 with fail
      clear y0 yf0 y1 yf1 y2 yf2 y3 yf3 y4 yf4 y5 yf5
      have q10 := (Chg.refl (fun x => x = W2.heap.size) W10).setCell (p := ⟨W2.heap.size, 5, none⟩) (fun _ => rfl) (.slice (some ⟨gC, 0, none⟩) lC.length capC)
      have B11 := hik (row6_5 B10.out (.slice (some ⟨gC, 0, none⟩) lC.length capC))
      have A11 := hik (rowIs_chg A10.out q10 (by omega))
      have S11 := hik (S10.out.chg q10 (by omega))
      have K11 := hik (K10.out.near9 q10 (fun i e => by have e : i = W2.heap.size := e; omega))
      have s11 : W10.heap.size ≤ (W10.setCell ⟨W2.heap.size, 5, none⟩ (.slice (some ⟨gC, 0, none⟩) lC.length capC)).heap.size := q10.size
      have EA' := hik (EA.out.chg q10 (by omega))
      clear EA
      have EA := EA'
      clear EA'
      have EB' := hik (EB.out.chg q10 (by omega))
      clear EB
      have EB := EB'
      clear EB'
      have EC' := hik (EC.out.chg q10 (by omega))
      clear EC
      have EC := EC'
      clear EC'
      generalize hE : W10.setCell ⟨W2.heap.size, 5, none⟩ (.slice (some ⟨gC, 0, none⟩) lC.length capC) = W11 at B11 A11 S11 K11 s11 EA EB EC ⊢
      clear hE q10 A10 B10 S10 K10
      have y0 := B11.out.cell (i := 0) (by omega)
      have yf0 := B11.out.frozen 0
      have y1 := B11.out.cell (i := 1) (by omega)
      have yf1 := B11.out.frozen 1
      have y2 := B11.out.cell (i := 2) (by omega)
      have yf2 := B11.out.frozen 2
      have y3 := B11.out.cell (i := 3) (by omega)
      have yf3 := B11.out.frozen 3
      have y4 := B11.out.cell (i := 4) (by omega)
      have yf4 := B11.out.frozen 4
      have y5 := B11.out.cell (i := 5) (by omega)
      have yf5 := B11.out.frozen 5
      simp only [pv6] at y0 y1 y2 y3 y4 y5
      have z0 := A11.out.cell (i := 0) (by omega)
      have zf0 := A11.out.frozen 0
      have z1 := A11.out.cell (i := 1) (by omega)
      have zf1 := A11.out.frozen 1
      have z2 := A11.out.cell (i := 2) (by omega)
      have zf2 := A11.out.frozen 2
      have z3 := A11.out.cell (i := 3) (by omega)
      have zf3 := A11.out.frozen 3
      have z4 := A11.out.cell (i := 4) (by omega)
      have zf4 := A11.out.frozen 4
      have z5 := A11.out.cell (i := 5) (by omega)
      have zf5 := A11.out.frozen 5
      simp only [pv6] at z0 z1 z2 z3 z4 z5
      have n1 : ¬ W2.heap.size = w.heap.size := by omega
      have n2 : ¬ w.heap.size = W2.heap.size := by omega
      have QQ := hik (((((((Chg.refl (fun x => x = w.heap.size) W11).setCell (p := ⟨w.heap.size, 0, none⟩) (fun _ => rfl) (.int .i64 1)).setCell (p := ⟨w.heap.size, 1, none⟩) (fun _ => rfl) (.int .i64 3)).setCell (p := ⟨w.heap.size, 2, none⟩) (fun _ => rfl) (.int .i64 p)).setCell (p := ⟨w.heap.size, 3, none⟩) (fun _ => rfl) (.slice (some ⟨gA, 0, none⟩) lA.length capA)).setCell (p := ⟨w.heap.size, 4, none⟩) (fun _ => rfl) (.slice (some ⟨gB, 0, none⟩) lB.length capB)).setCell (p := ⟨w.heap.size, 5, none⟩) (fun _ => rfl) (.slice (some ⟨gC, 0, none⟩) lC.length capC))
      have ZZ := hik (row6_all A11.out (.int .i64 1) (.int .i64 3) (.int .i64 p) (.slice (some ⟨gA, 0, none⟩) lA.length capA) (.slice (some ⟨gB, 0, none⟩) lB.length capB) (.slice (some ⟨gC, 0, none⟩) lC.length capC))
      have u0 := ZZ.out.cell (i := 0) (by omega)
      have u1 := ZZ.out.cell (i := 1) (by omega)
      have u2 := ZZ.out.cell (i := 2) (by omega)
      have u3 := ZZ.out.cell (i := 3) (by omega)
      have u4 := ZZ.out.cell (i := 4) (by omega)
      have u5 := ZZ.out.cell (i := 5) (by omega)
      simp only [pv6] at u0 u1 u2 u3 u4 u5
      go_wp2
      exact bodyPost_ret (v := .agg #[.int .i64 1, .int .i64 3, .int .i64 p, .slice (some ⟨gA, 0, none⟩) lA.length capA, .slice (some ⟨gB, 0, none⟩) lB.length capB, .slice (some ⟨gC, 0, none⟩) lC.length capC]) (by simp [results, Tryz.results45, go_sem, u0, u1, u2, u3, u4, u5]) rfl (drawnY_of 1 3 p lA lB lC gA gB gC capA capB capC (by omega) (by omega) (by omega) (by omega) p0 (by omega) DA.out DB.out DC.out (EA.out.chg QQ.out (by omega)) (EB.out.chg QQ.out (by omega)) (EC.out.chg QQ.out (by omega)) (by omega) (by omega) (by omega) ((S11.out.chg QQ.out (by omega)).mono (by omega)) (K11.out.near9 QQ.out (fun i e => by have e : i = w.heap.size := e; omega)))
  · obtain rfl | rfl : y = 0 ∨ y = 1 := by omega
    · go_wp2_with fail
      have B3 := hik (row6_new W2 (.int .i64 2) (.int .i64 2) (.int .i64 0) (.slice none 0 0) (.slice none 0 0) (.slice none 0 0) 40)
      have A3 := hik (World.rowIs.alloc A2.out (.cells #[.int .i64 2, .int .i64 2, .int .i64 0, .slice none 0 0, .slice none 0 0, .slice none 0 0] 40))
      have K3 := hik (K2.out.alloc (.cells #[.int .i64 2, .int .i64 2, .int .i64 0, .slice none 0 0, .slice none 0 0, .slice none 0 0] 40))
      have S3 := hik (S2.out.keep ((Chg.refl nob W2).alloc (.cells #[.int .i64 2, .int .i64 2, .int .i64 0, .slice none 0 0, .slice none 0 0, .slice none 0 0] 40)))
      generalize hE : W2.alloc (.cells #[.int .i64 2, .int .i64 2, .int .i64 0, .slice none 0 0, .slice none 0 0, .slice none 0 0] 40) = W3 at B3 A3 K3 S3 ⊢
      have s3 : W2.heap.size < W3.heap.size := B3.out.lt
      clear hE A2 K2 S2
      refine (nextC_any 2 _ b _ S3.out (by omega) (by omega) (by omega)).mono ?_
      rintro e W4 ⟨p, rfl, p0, p1, hS, hB⟩
      have S4 := hik hS
      have B4 := hik (rowIs_chg B3.out hB (by omega))
      have A4 := hik (rowIs_chg A3.out hB (by omega))
      have K4 := hik (K3.out.trans hB)
      have s4 : W3.heap.size ≤ W4.heap.size := hB.size
      clear hS hB A3 B3 K3 S3
      have y0 := B4.out.cell (i := 0) (by omega)
      have yf0 := B4.out.frozen 0
      have y1 := B4.out.cell (i := 1) (by omega)
      have yf1 := B4.out.frozen 1
      have y2 := B4.out.cell (i := 2) (by omega)
      have yf2 := B4.out.frozen 2
      have y3 := B4.out.cell (i := 3) (by omega)
      have yf3 := B4.out.frozen 3
      have y4 := B4.out.cell (i := 4) (by omega)
      have yf4 := B4.out.frozen 4
      have y5 := B4.out.cell (i := 5) (by omega)
      have yf5 := B4.out.frozen 5
      simp only [pv6] at y0 y1 y2 y3 y4 y5
      go_wp2_with fail
      clear y0 yf0 y1 yf1 y2 yf2 y3 yf3 y4 yf4 y5 yf5
      have q4 := (Chg.refl (fun x => x = W2.heap.size) W4).setCell (p := ⟨W2.heap.size, 2, none⟩) (fun _ => rfl) (.int .i64 p)
      have B5 := hik (row6_2 B4.out (.int .i64 p))
      have A5 := hik (rowIs_chg A4.out q4 (by omega))
      have S5 := hik (S4.out.chg q4 (by omega))
      have K5 := hik (K4.out.near9 q4 (fun i e => by have e : i = W2.heap.size := e; omega))
      have s5 : W4.heap.size ≤ (W4.setCell ⟨W2.heap.size, 2, none⟩ (.int .i64 p)).heap.size := q4.size
      generalize hE : W4.setCell ⟨W2.heap.size, 2, none⟩ (.int .i64 p) = W5 at B5 A5 S5 K5 s5  ⊢
      clear hE q4 A4 B4 S4 K4
      refine (entriesD_any 2 2 _ b _ S5.out (by omega) (by omega) (by omega)).mono ?_
      rintro e W6 ⟨lA, gA, capA, rfl, hg, hL, hD, hS, hB⟩
      have EA := hik hL
      have DA := hik hD
      have GA : W5.heap.size ≤ gA := hg
      have S6 := hik (hS.mono (show _ ≤ n + 709 by omega))
      have B6 := hik (rowIs_chg B5.out hB (by omega))
      have A6 := hik (rowIs_chg A5.out hB (by omega))
      have K6 := hik (K5.out.trans hB)
      have s6 : W5.heap.size ≤ W6.heap.size := hB.size
      clear hg hL hD hS hB A5 B5 K5 S5
      have y0 := B6.out.cell (i := 0) (by omega)
      have yf0 := B6.out.frozen 0
      have y1 := B6.out.cell (i := 1) (by omega)
      have yf1 := B6.out.frozen 1
      have y2 := B6.out.cell (i := 2) (by omega)
      have yf2 := B6.out.frozen 2
      have y3 := B6.out.cell (i := 3) (by omega)
      have yf3 := B6.out.frozen 3
      have y4 := B6.out.cell (i := 4) (by omega)
      have yf4 := B6.out.frozen 4
      have y5 := B6.out.cell (i := 5) (by omega)
      have yf5 := B6.out.frozen 5
      simp only [pv6] at y0 y1 y2 y3 y4 y5
      go_wp2_with fail
      clear y0 yf0 y1 yf1 y2 yf2 y3 yf3 y4 yf4 y5 yf5
      have q6 := (Chg.refl (fun x => x = W2.heap.size) W6).setCell (p := ⟨W2.heap.size, 3, none⟩) (fun _ => rfl) (.slice (some ⟨gA, 0, none⟩) lA.length capA)
      have B7 := hik (row6_3 B6.out (.slice (some ⟨gA, 0, none⟩) lA.length capA))
      have A7 := hik (rowIs_chg A6.out q6 (by omega))
      have S7 := hik (S6.out.chg q6 (by omega))
      have K7 := hik (K6.out.near9 q6 (fun i e => by have e : i = W2.heap.size := e; omega))
      have s7 : W6.heap.size ≤ (W6.setCell ⟨W2.heap.size, 3, none⟩ (.slice (some ⟨gA, 0, none⟩) lA.length capA)).heap.size := q6.size
      have EA' := hik (EA.out.chg q6 (by omega))
      clear EA
      have EA := EA'
      clear EA'
      generalize hE : W6.setCell ⟨W2.heap.size, 3, none⟩ (.slice (some ⟨gA, 0, none⟩) lA.length capA) = W7 at B7 A7 S7 K7 s7 EA ⊢
      clear hE q6 A6 B6 S6 K6
      refine (entriesD_any 2 2 _ b _ S7.out (by omega) (by omega) (by omega)).mono ?_
      rintro e W8 ⟨lB, gB, capB, rfl, hg, hL, hD, hS, hB⟩
      have EB := hik hL
      have DB := hik hD
      have GB : W7.heap.size ≤ gB := hg
      have S8 := hik (hS.mono (show _ ≤ n + 1409 by omega))
      have B8 := hik (rowIs_chg B7.out hB (by omega))
      have A8 := hik (rowIs_chg A7.out hB (by omega))
      have K8 := hik (K7.out.trans hB)
      have s8 : W7.heap.size ≤ W8.heap.size := hB.size
      have EAB := hik (EA.out.chg hB (by omega))
      clear EA
      have EA := EAB
      clear EAB
      clear hg hL hD hS hB A7 B7 K7 S7
      have y0 := B8.out.cell (i := 0) (by omega)
      have yf0 := B8.out.frozen 0
      have y1 := B8.out.cell (i := 1) (by omega)
      have yf1 := B8.out.frozen 1
      have y2 := B8.out.cell (i := 2) (by omega)
      have yf2 := B8.out.frozen 2
      have y3 := B8.out.cell (i := 3) (by omega)
      have yf3 := B8.out.frozen 3
      have y4 := B8.out.cell (i := 4) (by omega)
      have yf4 := B8.out.frozen 4
      have y5 := B8.out.cell (i := 5) (by omega)
      have yf5 := B8.out.frozen 5
      simp only [pv6] at y0 y1 y2 y3 y4 y5
      go_wp2_with fail
      clear y0 yf0 y1 yf1 y2 yf2 y3 yf3 y4 yf4 y5 yf5
      have q8 := (Chg.refl (fun x => x = W2.heap.size) W8).setCell (p := ⟨W2.heap.size, 4, none⟩) (fun _ => rfl) (.slice (some ⟨gB, 0, none⟩) lB.length capB)
      have B9 := hik (row6_4 B8.out (.slice (some ⟨gB, 0, none⟩) lB.length capB))
      have A9 := hik (rowIs_chg A8.out q8 (by omega))
      have S9 := hik (S8.out.chg q8 (by omega))
      have K9 := hik (K8.out.near9 q8 (fun i e => by have e : i = W2.heap.size := e; omega))
      have s9 : W8.heap.size ≤ (W8.setCell ⟨W2.heap.size, 4, none⟩ (.slice (some ⟨gB, 0, none⟩) lB.length capB)).heap.size := q8.size
      have EA' := hik (EA.out.chg q8 (by omega))
      clear EA
      have EA := EA'
      clear EA'
      have EB' := hik (EB.out.chg q8 (by omega))
      clear EB
      have EB := EB'
      clear EB'
      generalize hE : W8.setCell ⟨W2.heap.size, 4, none⟩ (.slice (some ⟨gB, 0, none⟩) lB.length capB) = W9 at B9 A9 S9 K9 s9 EA EB ⊢
      clear hE q8 A8 B8 S8 K8
      refine (entriesD_any 2 2 _ b _ S9.out (by omega) (by omega) (by omega)).mono ?_
      rintro e W10 ⟨lC, gC, capC, rfl, hg, hL, hD, hS, hB⟩
      have EC := hik hL
      have DC := hik hD
      have GC : W9.heap.size ≤ gC := hg
      have S10 := hik (hS.mono (show _ ≤ n + 2109 by omega))
      have B10 := hik (rowIs_chg B9.out hB (by omega))
      have A10 := hik (rowIs_chg A9.out hB (by omega))
      have K10 := hik (K9.out.trans hB)
      have s10 : W9.heap.size ≤ W10.heap.size := hB.size
      have EAC := hik (EA.out.chg hB (by omega))
      clear EA
      have EA := EAC
      clear EAC
      have EBC := hik (EB.out.chg hB (by omega))
      clear EB
      have EB := EBC
      clear EBC
      clear hg hL hD hS hB A9 B9 K9 S9
      have y0 := B10.out.cell (i := 0) (by omega)
      have yf0 := B10.out.frozen 0
      have y1 := B10.out.cell (i := 1) (by omega)
      have yf1 := B10.out.frozen 1
      have y2 := B10.out.cell (i := 2) (by omega)
      have yf2 := B10.out.frozen 2
      have y3 := B10.out.cell (i := 3) (by omega)
      have yf3 := B10.out.frozen 3
      have y4 := B10.out.cell (i := 4) (by omega)
      have yf4 := B10.out.frozen 4
      have y5 := B10.out.cell (i := 5) (by omega)
      have yf5 := B10.out.frozen 5
      simp only [pv6] at y0 y1 y2 y3 y4 y5
      go_upto_region 6 with fail
      clear y0 yf0 y1 yf1 y2 yf2 y3 yf3 y4 yf4 y5 yf5
      have q10 := (Chg.refl (fun x => x = W2.heap.size) W10).setCell (p := ⟨W2.heap.size, 5, none⟩) (fun _ => rfl) (.slice (some ⟨gC, 0, none⟩) lC.length capC)
      have B11 := hik (row6_5 B10.out (.slice (some ⟨gC, 0, none⟩) lC.length capC))
      have A11 := hik (rowIs_chg A10.out q10 (by omega))
      have S11 := hik (S10.out.chg q10 (by omega))
      have K11 := hik (K10.out.near9 q10 (fun i e => by have e : i = W2.heap.size := e; omega))
      have s11 : W10.heap.size ≤ (W10.setCell ⟨W2.heap.size, 5, none⟩ (.slice (some ⟨gC, 0, none⟩) lC.length capC)).heap.size := q10.size
      have EA' := hik (EA.out.chg q10 (by omega))
      clear EA
      have EA := EA'
      clear EA'
      have EB' := hik (EB.out.chg q10 (by omega))
      clear EB
      have EB := EB'
      clear EB'
      have EC' := hik (EC.out.chg q10 (by omega))
      clear EC
      have EC := EC'
      clear EC'
      generalize hE : W10.setCell ⟨W2.heap.size, 5, none⟩ (.slice (some ⟨gC, 0, none⟩) lC.length capC) = W11 at B11 A11 S11 K11 s11 EA EB EC ⊢
      clear hE q10 A10 B10 S10 K10
      have y0 := B11.out.cell (i := 0) (by omega)
      have yf0 := B11.out.frozen 0
      have y1 := B11.out.cell (i := 1) (by omega)
      have yf1 := B11.out.frozen 1
      have y2 := B11.out.cell (i := 2) (by omega)
      have yf2 := B11.out.frozen 2
      have y3 := B11.out.cell (i := 3) (by omega)
      have yf3 := B11.out.frozen 3
      have y4 := B11.out.cell (i := 4) (by omega)
      have yf4 := B11.out.frozen 4
      have y5 := B11.out.cell (i := 5) (by omega)
      have yf5 := B11.out.frozen 5
      simp only [pv6] at y0 y1 y2 y3 y4 y5
      have z0 := A11.out.cell (i := 0) (by omega)
      have zf0 := A11.out.frozen 0
      have z1 := A11.out.cell (i := 1) (by omega)
      have zf1 := A11.out.frozen 1
      have z2 := A11.out.cell (i := 2) (by omega)
      have zf2 := A11.out.frozen 2
      have z3 := A11.out.cell (i := 3) (by omega)
      have zf3 := A11.out.frozen 3
      have z4 := A11.out.cell (i := 4) (by omega)
      have zf4 := A11.out.frozen 4
      have z5 := A11.out.cell (i := 5) (by omega)
      have zf5 := A11.out.frozen 5
      simp only [pv6] at z0 z1 z2 z3 z4 z5
      have n1 : ¬ W2.heap.size = w.heap.size := by omega
      have n2 : ¬ w.heap.size = W2.heap.size := by omega
      have QQ := hik (((((((Chg.refl (fun x => x = w.heap.size) W11).setCell (p := ⟨w.heap.size, 0, none⟩) (fun _ => rfl) (.int .i64 2)).setCell (p := ⟨w.heap.size, 1, none⟩) (fun _ => rfl) (.int .i64 2)).setCell (p := ⟨w.heap.size, 2, none⟩) (fun _ => rfl) (.int .i64 p)).setCell (p := ⟨w.heap.size, 3, none⟩) (fun _ => rfl) (.slice (some ⟨gA, 0, none⟩) lA.length capA)).setCell (p := ⟨w.heap.size, 4, none⟩) (fun _ => rfl) (.slice (some ⟨gB, 0, none⟩) lB.length capB)).setCell (p := ⟨w.heap.size, 5, none⟩) (fun _ => rfl) (.slice (some ⟨gC, 0, none⟩) lC.length capC))
      have ZZ := hik (row6_all A11.out (.int .i64 2) (.int .i64 2) (.int .i64 p) (.slice (some ⟨gA, 0, none⟩) lA.length capA) (.slice (some ⟨gB, 0, none⟩) lB.length capB) (.slice (some ⟨gC, 0, none⟩) lC.length capC))
      have u0 := ZZ.out.cell (i := 0) (by omega)
      have u1 := ZZ.out.cell (i := 1) (by omega)
      have u2 := ZZ.out.cell (i := 2) (by omega)
      have u3 := ZZ.out.cell (i := 3) (by omega)
      have u4 := ZZ.out.cell (i := 4) (by omega)
      have u5 := ZZ.out.cell (i := 5) (by omega)
      simp only [pv6] at u0 u1 u2 u3 u4 u5
      go_wp2
      exact bodyPost_ret (v := .agg #[.int .i64 2, .int .i64 2, .int .i64 p, .slice (some ⟨gA, 0, none⟩) lA.length capA, .slice (some ⟨gB, 0, none⟩) lB.length capB, .slice (some ⟨gC, 0, none⟩) lC.length capC]) (by simp [results, Tryz.results45, go_sem, u0, u1, u2, u3, u4, u5]) rfl (drawnY_of 2 2 p lA lB lC gA gB gC capA capB capC (by omega) (by omega) (by omega) (by omega) p0 (by omega) DA.out DB.out DC.out (EA.out.chg QQ.out (by omega)) (EB.out.chg QQ.out (by omega)) (EC.out.chg QQ.out (by omega)) (by omega) (by omega) (by omega) ((S11.out.chg QQ.out (by omega)).mono (by omega)) (K11.out.near9 QQ.out (fun i e => by have e : i = w.heap.size := e; omega)))
    · go_wp2_with fail
      have B3 := hik (row6_new W2 (.int .i64 2) (.int .i64 3) (.int .i64 0) (.slice none 0 0) (.slice none 0 0) (.slice none 0 0) 40)
      have A3 := hik (World.rowIs.alloc A2.out (.cells #[.int .i64 2, .int .i64 3, .int .i64 0, .slice none 0 0, .slice none 0 0, .slice none 0 0] 40))
      have K3 := hik (K2.out.alloc (.cells #[.int .i64 2, .int .i64 3, .int .i64 0, .slice none 0 0, .slice none 0 0, .slice none 0 0] 40))
      have S3 := hik (S2.out.keep ((Chg.refl nob W2).alloc (.cells #[.int .i64 2, .int .i64 3, .int .i64 0, .slice none 0 0, .slice none 0 0, .slice none 0 0] 40)))
      generalize hE : W2.alloc (.cells #[.int .i64 2, .int .i64 3, .int .i64 0, .slice none 0 0, .slice none 0 0, .slice none 0 0] 40) = W3 at B3 A3 K3 S3 ⊢
      have s3 : W2.heap.size < W3.heap.size := B3.out.lt
      clear hE A2 K2 S2
      refine (nextC_any 4 _ b _ S3.out (by omega) (by omega) (by omega)).mono ?_
      rintro e W4 ⟨p, rfl, p0, p1, hS, hB⟩
      have S4 := hik hS
      have B4 := hik (rowIs_chg B3.out hB (by omega))
      have A4 := hik (rowIs_chg A3.out hB (by omega))
      have K4 := hik (K3.out.trans hB)
      have s4 : W3.heap.size ≤ W4.heap.size := hB.size
      clear hS hB A3 B3 K3 S3
      have y0 := B4.out.cell (i := 0) (by omega)
      have yf0 := B4.out.frozen 0
      have y1 := B4.out.cell (i := 1) (by omega)
      have yf1 := B4.out.frozen 1
      have y2 := B4.out.cell (i := 2) (by omega)
      have yf2 := B4.out.frozen 2
      have y3 := B4.out.cell (i := 3) (by omega)
      have yf3 := B4.out.frozen 3
      have y4 := B4.out.cell (i := 4) (by omega)
      have yf4 := B4.out.frozen 4
      have y5 := B4.out.cell (i := 5) (by omega)
      have yf5 := B4.out.frozen 5
      simp only [pv6] at y0 y1 y2 y3 y4 y5
      go_wp2_with fail
      clear y0 yf0 y1 yf1 y2 yf2 y3 yf3 y4 yf4 y5 yf5
      have q4 := (Chg.refl (fun x => x = W2.heap.size) W4).setCell (p := ⟨W2.heap.size, 2, none⟩) (fun _ => rfl) (.int .i64 p)
      have B5 := hik (row6_2 B4.out (.int .i64 p))
      have A5 := hik (rowIs_chg A4.out q4 (by omega))
      have S5 := hik (S4.out.chg q4 (by omega))
      have K5 := hik (K4.out.near9 q4 (fun i e => by have e : i = W2.heap.size := e; omega))
      have s5 : W4.heap.size ≤ (W4.setCell ⟨W2.heap.size, 2, none⟩ (.int .i64 p)).heap.size := q4.size
      generalize hE : W4.setCell ⟨W2.heap.size, 2, none⟩ (.int .i64 p) = W5 at B5 A5 S5 K5 s5  ⊢
      clear hE q4 A4 B4 S4 K4
      refine (entriesD_any 2 3 _ b _ S5.out (by omega) (by omega) (by omega)).mono ?_
      rintro e W6 ⟨lA, gA, capA, rfl, hg, hL, hD, hS, hB⟩
      have EA := hik hL
      have DA := hik hD
      have GA : W5.heap.size ≤ gA := hg
      have S6 := hik (hS.mono (show _ ≤ n + 709 by omega))
      have B6 := hik (rowIs_chg B5.out hB (by omega))
      have A6 := hik (rowIs_chg A5.out hB (by omega))
      have K6 := hik (K5.out.trans hB)
      have s6 : W5.heap.size ≤ W6.heap.size := hB.size
      clear hg hL hD hS hB A5 B5 K5 S5
      have y0 := B6.out.cell (i := 0) (by omega)
      have yf0 := B6.out.frozen 0
      have y1 := B6.out.cell (i := 1) (by omega)
      have yf1 := B6.out.frozen 1
      have y2 := B6.out.cell (i := 2) (by omega)
      have yf2 := B6.out.frozen 2
      have y3 := B6.out.cell (i := 3) (by omega)
      have yf3 := B6.out.frozen 3
      have y4 := B6.out.cell (i := 4) (by omega)
      have yf4 := B6.out.frozen 4
      have y5 := B6.out.cell (i := 5) (by omega)
      have yf5 := B6.out.frozen 5
      simp only [pv6] at y0 y1 y2 y3 y4 y5
      go_wp2_with fail
      clear y0 yf0 y1 yf1 y2 yf2 y3 yf3 y4 yf4 y5 yf5
      have q6 := (Chg.refl (fun x => x = W2.heap.size) W6).setCell (p := ⟨W2.heap.size, 3, none⟩) (fun _ => rfl) (.slice (some ⟨gA, 0, none⟩) lA.length capA)
      have B7 := hik (row6_3 B6.out (.slice (some ⟨gA, 0, none⟩) lA.length capA))
      have A7 := hik (rowIs_chg A6.out q6 (by omega))
      have S7 := hik (S6.out.chg q6 (by omega))
      have K7 := hik (K6.out.near9 q6 (fun i e => by have e : i = W2.heap.size := e; omega))
      have s7 : W6.heap.size ≤ (W6.setCell ⟨W2.heap.size, 3, none⟩ (.slice (some ⟨gA, 0, none⟩) lA.length capA)).heap.size := q6.size
      have EA' := hik (EA.out.chg q6 (by omega))
      clear EA
      have EA := EA'
      clear EA'
      generalize hE : W6.setCell ⟨W2.heap.size, 3, none⟩ (.slice (some ⟨gA, 0, none⟩) lA.length capA) = W7 at B7 A7 S7 K7 s7 EA ⊢
      clear hE q6 A6 B6 S6 K6
      refine (entriesD_any 2 3 _ b _ S7.out (by omega) (by omega) (by omega)).mono ?_
      rintro e W8 ⟨lB, gB, capB, rfl, hg, hL, hD, hS, hB⟩
      have EB := hik hL
      have DB := hik hD
      have GB : W7.heap.size ≤ gB := hg
      have S8 := hik (hS.mono (show _ ≤ n + 1409 by omega))
      have B8 := hik (rowIs_chg B7.out hB (by omega))
      have A8 := hik (rowIs_chg A7.out hB (by omega))
      have K8 := hik (K7.out.trans hB)
      have s8 : W7.heap.size ≤ W8.heap.size := hB.size
      have EAB := hik (EA.out.chg hB (by omega))
      clear EA
      have EA := EAB
      clear EAB
      clear hg hL hD hS hB A7 B7 K7 S7
      have y0 := B8.out.cell (i := 0) (by omega)
      have yf0 := B8.out.frozen 0
      have y1 := B8.out.cell (i := 1) (by omega)
      have yf1 := B8.out.frozen 1
      have y2 := B8.out.cell (i := 2) (by omega)
      have yf2 := B8.out.frozen 2
      have y3 := B8.out.cell (i := 3) (by omega)
      have yf3 := B8.out.frozen 3
      have y4 := B8.out.cell (i := 4) (by omega)
      have yf4 := B8.out.frozen 4
      have y5 := B8.out.cell (i := 5) (by omega)
      have yf5 := B8.out.frozen 5
      simp only [pv6] at y0 y1 y2 y3 y4 y5
      go_wp2_with fail
      clear y0 yf0 y1 yf1 y2 yf2 y3 yf3 y4 yf4 y5 yf5
      have q8 := (Chg.refl (fun x => x = W2.heap.size) W8).setCell (p := ⟨W2.heap.size, 4, none⟩) (fun _ => rfl) (.slice (some ⟨gB, 0, none⟩) lB.length capB)
      have B9 := hik (row6_4 B8.out (.slice (some ⟨gB, 0, none⟩) lB.length capB))
      have A9 := hik (rowIs_chg A8.out q8 (by omega))
      have S9 := hik (S8.out.chg q8 (by omega))
      have K9 := hik (K8.out.near9 q8 (fun i e => by have e : i = W2.heap.size := e; omega))
      have s9 : W8.heap.size ≤ (W8.setCell ⟨W2.heap.size, 4, none⟩ (.slice (some ⟨gB, 0, none⟩) lB.length capB)).heap.size := q8.size
      have EA' := hik (EA.out.chg q8 (by omega))
      clear EA
      have EA := EA'
      clear EA'
      have EB' := hik (EB.out.chg q8 (by omega))
      clear EB
      have EB := EB'
      clear EB'
      generalize hE : W8.setCell ⟨W2.heap.size, 4, none⟩ (.slice (some ⟨gB, 0, none⟩) lB.length capB) = W9 at B9 A9 S9 K9 s9 EA EB ⊢
      clear hE q8 A8 B8 S8 K8
      refine (entriesD_any 2 3 _ b _ S9.out (by omega) (by omega) (by omega)).mono ?_
      rintro e W10 ⟨lC, gC, capC, rfl, hg, hL, hD, hS, hB⟩
      have EC := hik hL
      have DC := hik hD
      have GC : W9.heap.size ≤ gC := hg
      have S10 := hik (hS.mono (show _ ≤ n + 2109 by omega))
      have B10 := hik (rowIs_chg B9.out hB (by omega))
      have A10 := hik (rowIs_chg A9.out hB (by omega))
      have K10 := hik (K9.out.trans hB)
      have s10 : W9.heap.size ≤ W10.heap.size := hB.size
      have EAC := hik (EA.out.chg hB (by omega))
      clear EA
      have EA := EAC
      clear EAC
      have EBC := hik (EB.out.chg hB (by omega))
      clear EB
      have EB := EBC
      clear EBC
      clear hg hL hD hS hB A9 B9 K9 S9
      have y0 := B10.out.cell (i := 0) (by omega)
      have yf0 := B10.out.frozen 0
      have y1 := B10.out.cell (i := 1) (by omega)
      have yf1 := B10.out.frozen 1
      have y2 := B10.out.cell (i := 2) (by omega)
      have yf2 := B10.out.frozen 2
      have y3 := B10.out.cell (i := 3) (by omega)
      have yf3 := B10.out.frozen 3
      have y4 := B10.out.cell (i := 4) (by omega)
      have yf4 := B10.out.frozen 4
      have y5 := B10.out.cell (i := 5) (by omega)
      have yf5 := B10.out.frozen 5
      simp only [pv6] at y0 y1 y2 y3 y4 y5
      go_upto_region 6 with fail
      clear y0 yf0 y1 yf1 y2 yf2 y3 yf3 y4 yf4 y5 yf5
      have q10 := (Chg.refl (fun x => x = W2.heap.size) W10).setCell (p := ⟨W2.heap.size, 5, none⟩) (fun _ => rfl) (.slice (some ⟨gC, 0, none⟩) lC.length capC)
      have B11 := hik (row6_5 B10.out (.slice (some ⟨gC, 0, none⟩) lC.length capC))
      have A11 := hik (rowIs_chg A10.out q10 (by omega))
      have S11 := hik (S10.out.chg q10 (by omega))
      have K11 := hik (K10.out.near9 q10 (fun i e => by have e : i = W2.heap.size := e; omega))
      have s11 : W10.heap.size ≤ (W10.setCell ⟨W2.heap.size, 5, none⟩ (.slice (some ⟨gC, 0, none⟩) lC.length capC)).heap.size := q10.size
      have EA' := hik (EA.out.chg q10 (by omega))
      clear EA
      have EA := EA'
      clear EA'
      have EB' := hik (EB.out.chg q10 (by omega))
      clear EB
      have EB := EB'
      clear EB'
      have EC' := hik (EC.out.chg q10 (by omega))
      clear EC
      have EC := EC'
      clear EC'
      generalize hE : W10.setCell ⟨W2.heap.size, 5, none⟩ (.slice (some ⟨gC, 0, none⟩) lC.length capC) = W11 at B11 A11 S11 K11 s11 EA EB EC ⊢
      clear hE q10 A10 B10 S10 K10
      have y0 := B11.out.cell (i := 0) (by omega)
      have yf0 := B11.out.frozen 0
      have y1 := B11.out.cell (i := 1) (by omega)
      have yf1 := B11.out.frozen 1
      have y2 := B11.out.cell (i := 2) (by omega)
      have yf2 := B11.out.frozen 2
      have y3 := B11.out.cell (i := 3) (by omega)
      have yf3 := B11.out.frozen 3
      have y4 := B11.out.cell (i := 4) (by omega)
      have yf4 := B11.out.frozen 4
      have y5 := B11.out.cell (i := 5) (by omega)
      have yf5 := B11.out.frozen 5
      simp only [pv6] at y0 y1 y2 y3 y4 y5
      have z0 := A11.out.cell (i := 0) (by omega)
      have zf0 := A11.out.frozen 0
      have z1 := A11.out.cell (i := 1) (by omega)
      have zf1 := A11.out.frozen 1
      have z2 := A11.out.cell (i := 2) (by omega)
      have zf2 := A11.out.frozen 2
      have z3 := A11.out.cell (i := 3) (by omega)
      have zf3 := A11.out.frozen 3
      have z4 := A11.out.cell (i := 4) (by omega)
      have zf4 := A11.out.frozen 4
      have z5 := A11.out.cell (i := 5) (by omega)
      have zf5 := A11.out.frozen 5
      simp only [pv6] at z0 z1 z2 z3 z4 z5
      have n1 : ¬ W2.heap.size = w.heap.size := by omega
      have n2 : ¬ w.heap.size = W2.heap.size := by omega
      have QQ := hik (((((((Chg.refl (fun x => x = w.heap.size) W11).setCell (p := ⟨w.heap.size, 0, none⟩) (fun _ => rfl) (.int .i64 2)).setCell (p := ⟨w.heap.size, 1, none⟩) (fun _ => rfl) (.int .i64 3)).setCell (p := ⟨w.heap.size, 2, none⟩) (fun _ => rfl) (.int .i64 p)).setCell (p := ⟨w.heap.size, 3, none⟩) (fun _ => rfl) (.slice (some ⟨gA, 0, none⟩) lA.length capA)).setCell (p := ⟨w.heap.size, 4, none⟩) (fun _ => rfl) (.slice (some ⟨gB, 0, none⟩) lB.length capB)).setCell (p := ⟨w.heap.size, 5, none⟩) (fun _ => rfl) (.slice (some ⟨gC, 0, none⟩) lC.length capC))
      have ZZ := hik (row6_all A11.out (.int .i64 2) (.int .i64 3) (.int .i64 p) (.slice (some ⟨gA, 0, none⟩) lA.length capA) (.slice (some ⟨gB, 0, none⟩) lB.length capB) (.slice (some ⟨gC, 0, none⟩) lC.length capC))
      have u0 := ZZ.out.cell (i := 0) (by omega)
      have u1 := ZZ.out.cell (i := 1) (by omega)
      have u2 := ZZ.out.cell (i := 2) (by omega)
      have u3 := ZZ.out.cell (i := 3) (by omega)
      have u4 := ZZ.out.cell (i := 4) (by omega)
      have u5 := ZZ.out.cell (i := 5) (by omega)
      simp only [pv6] at u0 u1 u2 u3 u4 u5
      go_wp2
      exact bodyPost_ret (v := .agg #[.int .i64 2, .int .i64 3, .int .i64 p, .slice (some ⟨gA, 0, none⟩) lA.length capA, .slice (some ⟨gB, 0, none⟩) lB.length capB, .slice (some ⟨gC, 0, none⟩) lC.length capC]) (by simp [results, Tryz.results45, go_sem, u0, u1, u2, u3, u4, u5]) rfl (drawnY_of 2 3 p lA lB lC gA gB gC capA capB capC (by omega) (by omega) (by omega) (by omega) p0 (by omega) DA.out DB.out DC.out (EA.out.chg QQ.out (by omega)) (EB.out.chg QQ.out (by omega)) (EC.out.chg QQ.out (by omega)) (by omega) (by omega) (by omega) ((S11.out.chg QQ.out (by omega)).mono (by omega)) (K11.out.near9 QQ.out (fun i e => by have e : i = w.heap.size := e; omega)))

end Go.Proofs.YtkpohajmcngjcaaGreatDoor
