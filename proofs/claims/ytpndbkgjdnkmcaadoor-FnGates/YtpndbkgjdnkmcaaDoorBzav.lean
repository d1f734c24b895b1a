/- Several texts in one: What the laws' helpers on slices of ints do: toIntS copies, eqIntS finds like rows alike, markIntS numbers a row, heldIntS finds it numbered. Conditions: rows that can be read (markIntS: a row of the call's own), lengths of at most 2 to the 40. · Rows of ints that grow, and such rows from a place on: words, contracts of the laws' marks. -/
import Derived.Test.YtpndbkgjdnkmcaaDoorRows
import Derived.WalkKit
import Derived.ProofKit
import Derived.OpenShut
import Derived.RegionTactic
import Derived.ChangeAlike
import Derived.BigRegion
import Derived.Deep.QuietTactic
import Derived.BigQuiet
import Derived.Test.YtpndbkgjdnkmcaaDoorBzaa
import Derived.Test.YtpndbkgjdnkmcaaDoorBzac
namespace Go.Proofs.YtpndbkgjdnkmcaaDoor
open Go.ChangeShapes Go.WideShapes Go.ChangeAt Go.RowKit

theorem infoInt : (Tryd.prog.info? 3).map (fun i => (i.zero, i.size, i.bytes)) = some (some (.int .i64 0), 1, 8) := by kernel_rfl
/-- Ints as values. -/
def iv (f : Nat → Int) (i : Nat) : Value := .int .i64 (f i)


end Go.Proofs.YtpndbkgjdnkmcaaDoor

namespace Go.Proofs.YtpndbkgjdnkmcaaDoor
open Go.ChangeShapes Go.WideShapes Go.ChangeAt Go.RowKit
set_option linter.unusedVariables false
set_option maxRecDepth 100000
set_option linter.unusedSimpArgs false

/-- A row of k ints that is the call's own (blocks from B on) and can grow. -/
def IGr (W : World) (B : Nat) (v : Value) (k : Nat) (f : Nat → Int) : Prop := W.ownsRow B 3 1 v k ((List.range k).map (iv f))
theorem IGr.chg {P : Nat → Prop} {W W' : World} {B : Nat} {v : Value} {k : Nat} {f : Nat → Int} (h : IGr W B v k f) (c : Chg P W W') (hp : ∀ i, B ≤ i → i < W.heap.size → ¬ P i) : IGr W' B v k f := by
  obtain ⟨hl, h0 | ⟨g, cap, cur, e, hb, hg, r⟩⟩ := h
  · exact ⟨hl, .inl h0⟩
  · have hlt : g < W.heap.size := by rw [Array.getElem?_eq_some_iff] at hg; exact hg.1
    exact ⟨hl, .inr ⟨g, cap, cur, e, hb, (c.block g hlt (hp g hb hlt)).trans hg, r⟩⟩
theorem IGr.keep {W W' : World} {B : Nat} {v : Value} {k : Nat} {f : Nat → Int} (h : IGr W B v k f) (c : Chg nob W W') : IGr W' B v k f := h.chg c (fun _ _ _ x => x)
theorem IGr.congr {W : World} {B : Nat} {v : Value} {k : Nat} {f g : Nat → Int} (h : IGr W B v k f) (e : ∀ i, i < k → f i = g i) : IGr W B v k g := by
  unfold IGr at *
  rwa [show (List.range k).map (iv g) = (List.range k).map (iv f) from List.map_congr_left (fun i hi => by simp [iv, e i (by simpa using hi)])]
theorem IGr.fresh (W : World) (B : Nat) (f : Nat → Int) (hB : B ≤ W.heap.size) : IGr (W.alloc (.cells #[] 3)) B (.slice (some ⟨W.heap.size, 0, none⟩) 0 0) 0 f :=
  ⟨rfl, .inr ⟨W.heap.size, 0, #[], rfl, hB, Go.Deep.blk_alloc_new _ _, Nat.le_refl _, Nat.zero_le _, rfl, rfl⟩⟩
theorem IGr.nil (W : World) (B : Nat) (f : Nat → Int) : IGr W B (.slice Option.none 0 0) 0 f := ⟨rfl, .inl ⟨rfl, rfl⟩⟩
theorem IGr.one (W : World) (B : Nat) (x : Int) (hB : B ≤ W.heap.size) : IGr (W.alloc (.cells #[.int .i64 x] 3)) B (.slice (some ⟨W.heap.size, 0, none⟩) 1 1) 1 (fun _ => x) :=
  ⟨rfl, .inr ⟨W.heap.size, 1, #[.int .i64 x], rfl, hB, Go.Deep.blk_alloc_new _ _, Nat.le_refl _, by unfold maxLen; omega, rfl, rfl⟩⟩
/-- What it reads as. -/
theorem IGr.row {W : World} {B : Nat} {v : Value} {k : Nat} {f : Nat → Int} (h : IGr W B v k f) : ∃ c cap, v = .slice c k cap ∧ k ≤ cap ∧ cap ≤ maxLen ∧ RowV W c k (iv f) := by
  obtain ⟨hl, ⟨rfl, rfl⟩ | ⟨g, cap, cur, rfl, hb, hg, hc, hm, hs, ht⟩⟩ := h
  · exact ⟨Option.none, 0, rfl, Nat.le_refl _, Nat.zero_le _, fun i hi => by omega⟩
  · refine ⟨_, cap, rfl, hc, hm, fun i hi => ⟨g, 0, rfl, ?_, ?_⟩⟩
    · rw [Array.getElem?_eq_some_iff] at hg; exact hg.1
    · have h1 : (cur.toList.take (k * 1))[i]? = some (iv f i) := by rw [ht, List.getElem?_map, List.getElem?_range hi]; rfl
      rw [List.getElem?_take, if_pos (by omega), Array.getElem?_toList] at h1
      unfold World.cell?
      simp [hg, h1]
theorem IGr.len {W : World} {B : Nat} {v : Value} {k : Nat} {f : Nat → Int} (h : IGr W B v k f) {b : Nat} (e : v.ownBlock = some b) : B ≤ b := by
  obtain ⟨hl, ⟨rfl, rfl⟩ | ⟨g, cap, cur, rfl, hb, r⟩⟩ := h
  · simp [Value.ownBlock] at e
  · simp [Value.ownBlock] at e; omega
theorem ints_one (f : Nat → Int) (z : Int) (k : Nat) : (List.range k).map (iv f) ++ [.int .i64 z] = (List.range (k + 1)).map (iv (fun i => if i = k then z else f i)) := by
  rw [List.range_succ, List.map_append]
  congr 1
  · exact List.map_congr_left (fun i hi => by have : i < k := by simpa using hi
                                              simp [iv, show ¬ i = k by omega])
  · simp [iv]
section
variable {ops : Array Oper} {rest : List Oper} {o : Oper} {a : Act} {w : World} {Q : Exit → Act → World → Prop}
/-- append(x, z), z in a block of its own. -/
theorem wpList_app1 (hgd : o.guard = none) (x y : Operand) (hop : o.op = .call { callee := .builtin .append, args := #[x, y], argTypes := #[41, 41] }) (B k g : Nat) (v : Value) (f : Nat → Int) (z : Int)
    (hx : a.eval x = v) (hy : a.eval y = .slice (some ⟨g, 0, Option.none⟩) 1 1) (hr : IGr w B v k f) (hc : w.cell? ⟨g, 0, Option.none⟩ = some (.int .i64 z)) (hk : k ≤ 1000000) (hB : B ≤ w.heap.size)
    (h : ∀ v' w', IGr w' B v' (k + 1) (fun i => if i = k then z else f i) → Chg (fun i => B ≤ i) w w' → wpList Tryd.prog ops Q rest (a.put o.dst v') w') : wpList Tryd.prog ops Q (o :: rest) a w := by
  obtain ⟨i0, hi, hz0, hz1, hz2⟩ := info_parts infoInt
  refine wpList_append_own w hgd x y 41 hop B 3 i0 (.int .i64 0) 1 8 Tryd.underlying41 hi hz0 hz1 hz2 rfl (by decide) v k ((List.range k).map (iv f)) hx hr ⟨g, 0, Option.none⟩ 1 1 [.int .i64 z] hy rfl ?_ ?_ (by unfold maxLen; omega) (by omega) hB ?_
  · intro j u hj
    match j, hj with
    | 0, hj => simp at hj; subst hj; simpa [Addr.add] using hc
    | j + 1, hj => simp at hj
  · intro u hu
    simp at hu
    subst hu
    rfl
  · intro v' w' hown hgr _
    refine h v' w' (by unfold IGr; rw [← ints_one]; exact hown) ((Chg.refl _ w).grown hgr (fun b e _ => hr.len e))
end

/-- n ints behind c in a block of the call's own (not below B), from some place on, or none. -/
def OwnJ (w : World) (B : Nat) (c : Option Addr) (n : Nat) (f : Nat → Int) : Prop := n = 0 ∨ ∃ (g o N : Nat) (h : Nat → Value), B ≤ g ∧ c = some ⟨g, o, none⟩ ∧ o + n ≤ N ∧ w.rowIs g 3 N h ∧ ∀ i, i < n → h (o + i) = iv f i
theorem OwnJ.row {w : World} {B : Nat} {c : Option Addr} {n : Nat} {f : Nat → Int} (h : OwnJ w B c n f) : RowV w c n (iv f) := by
  rcases h with rfl | ⟨g, o, N, h, _, rfl, hN, r, hh⟩
  · intro i hi; omega
  · intro i hi
    exact ⟨g, o, rfl, r.lt, by rw [r.cell (by omega), hh i hi]⟩
theorem OwnJ.chg {P : Nat → Prop} {w w' : World} {B : Nat} {c : Option Addr} {n : Nat} {f : Nat → Int} (h : OwnJ w B c n f) (k : Chg P w w') (hp : ∀ b o, B ≤ b → c = some ⟨b, o, none⟩ → b < w.heap.size → ¬ P b) : OwnJ w' B c n f := by
  rcases h with rfl | ⟨g, o, N, h, hb, e, hN, r, hh⟩
  · exact .inl rfl
  · exact .inr ⟨g, o, N, h, hb, e, hN, rowIs_chg r k (hp g o hb e r.lt), hh⟩
theorem OwnJ.keep {w w' : World} {B : Nat} {c : Option Addr} {n : Nat} {f : Nat → Int} (h : OwnJ w B c n f) (k : Chg nob w w') : OwnJ w' B c n f := h.chg k (fun _ _ _ _ _ x => x)
theorem OwnJ.far {P : Nat → Prop} {w w' : World} {B : Nat} {c : Option Addr} {n : Nat} {f : Nat → Int} (h : OwnJ w B c n f) (k : Chg P w w') (hp : ∀ b o, B ≤ b → c = some ⟨b, o, none⟩ → n = 0 ∨ ¬ P b) : OwnJ w' B c n f := by
  rcases h with h0 | ⟨g, o, N, h, hb, e, hN, r, hh⟩
  · exact .inl h0
  · rcases hp g o hb e with h0 | h0
    · exact .inl h0
    · exact .inr ⟨g, o, N, h, hb, e, hN, rowIs_chg r k h0, hh⟩
/-- Out of a row that grew, from a place on. -/
theorem IGr.own {W : World} {B : Nat} {c : Option Addr} {k cap : Nat} {f : Nat → Int} (h : IGr W B (.slice c k cap) k f) : OwnJ W B c k f := by
  obtain ⟨hl, h0 | ⟨g, cap', cur, e, hb, hg, hc, hm, hs, ht⟩⟩ := h
  · exact .inl h0.2
  · cases e
    refine .inr ⟨g, 0, cap, fun i => cur.getD i undef, hb, rfl, by omega, ⟨cur, hg, by omega, fun j hj => by simp [Array.getD, show j < cur.size by omega]⟩, fun i hi => ?_⟩
    have h1 : (cur.toList.take (k * 1))[i]? = some (iv f i) := by rw [ht, List.getElem?_map, List.getElem?_range hi]; rfl
    rw [List.getElem?_take, if_pos (by omega), Array.getElem?_toList] at h1
    simp [Array.getD_eq_getD_getElem?, h1]
theorem OwnJ.tail {W : World} {B g o n : Nat} {f : Nat → Int} (h : OwnJ W B (some ⟨g, o, none⟩) (n + 1) f) : OwnJ W B (some ⟨g, o + 1, none⟩) n (fun i => f (i + 1)) := by
  rcases h with h0 | ⟨g', o', N, h, hb, e, hN, r, hh⟩
  · omega
  · cases e
    refine .inr ⟨g, o + 1, N, h, hb, rfl, by omega, r, fun i hi => ?_⟩
    have := hh (i + 1) (by omega)
    rw [show o + 1 + i = o + (i + 1) by omega, this]
    rfl

end Go.Proofs.YtpndbkgjdnkmcaaDoor
