/- Several texts in one: Rows of texts that grow: words. No condition but those that each theorem states. · The library's pieces of a text, cut at blanks: a contract. Conditions: the library's bound is an int. -/
import Derived.Test.YtpndbkgjdnkmcaaDoorBzav
import Derived.Test.YtpndbkgjdnkmcaaDoorBzat
import Derived.Test.YtpndbkgjdnkmcaaDoorBzac
import Derived.Test.YtpndbkgjdnkmcaaDoorBzax
import Derived.Test.YtpndbkgjdnkmcaaDoorBzaq
namespace Go.Proofs.YtpndbkgjdnkmcaaDoor
open Go.ChangeShapes Go.WideShapes Go.ChangeAt Go.RowKit
set_option linter.unusedVariables false
set_option linter.unusedSimpArgs false

theorem infoStr : (Tryd.prog.info? 9).map (fun i => (i.zero, i.size, i.bytes)) = some (some (.string ByteArray.empty), 1, 16) := by kernel_rfl
/-- A text as a value. -/
def tv (l : List UInt8) : Value := .string ⟨l.toArray⟩
def tvs (ws : List (List UInt8)) (i : Nat) : Value := tv (ws.getD i [])
theorem tvs_map (ws : List (List UInt8)) : ws.map tv = (List.range ws.length).map (tvs ws) := by
  apply List.ext_getElem
  · simp
  · intro i h1 h2
    simp at h1
    simp [tvs, List.getD_eq_getElem?_getD, List.getElem?_eq_getElem h1]
/-- A row of texts that is the call's own (blocks from B on) and can grow. -/
def SGr (W : World) (B : Nat) (v : Value) (ws : List (List UInt8)) : Prop := W.ownsRow B 9 1 v ws.length (ws.map tv)
theorem SGr.chg {P : Nat → Prop} {W W' : World} {B : Nat} {v : Value} {ws : List (List UInt8)} (h : SGr W B v ws) (c : Chg P W W') (hp : ∀ i, B ≤ i → i < W.heap.size → ¬ P i) : SGr W' B v ws := by
  obtain ⟨hl, h0 | ⟨g, cap, cur, e, hb, hg, r⟩⟩ := h
  · exact ⟨hl, .inl h0⟩
  · have hlt : g < W.heap.size := by rw [Array.getElem?_eq_some_iff] at hg; exact hg.1
    exact ⟨hl, .inr ⟨g, cap, cur, e, hb, (c.block g hlt (hp g hb hlt)).trans hg, r⟩⟩
theorem SGr.keep {W W' : World} {B : Nat} {v : Value} {ws : List (List UInt8)} (h : SGr W B v ws) (c : Chg nob W W') : SGr W' B v ws := h.chg c (fun _ _ _ x => x)
theorem SGr.fresh (W : World) (B : Nat) (hB : B ≤ W.heap.size) : SGr (W.alloc (.cells #[] 9)) B (.slice (some ⟨W.heap.size, 0, none⟩) 0 0) [] :=
  ⟨rfl, .inr ⟨W.heap.size, 0, #[], rfl, hB, Go.Deep.blk_alloc_new _ _, Nat.le_refl _, Nat.zero_le _, rfl, rfl⟩⟩
theorem SGr.len {W : World} {B : Nat} {v : Value} {ws : List (List UInt8)} (h : SGr W B v ws) {b : Nat} (e : v.ownBlock = some b) : B ≤ b := by
  obtain ⟨hl, ⟨rfl, _⟩ | ⟨g, cap, cur, rfl, hb, r⟩⟩ := h
  · simp [Value.ownBlock] at e
  · simp [Value.ownBlock] at e; omega
/-- What it reads as. -/
theorem SGr.row {W : World} {B : Nat} {v : Value} {ws : List (List UInt8)} (h : SGr W B v ws) : ∃ c cap, v = .slice c ws.length cap ∧ RowV W c ws.length (tvs ws) := by
  obtain ⟨hl, ⟨rfl, h0⟩ | ⟨g, cap, cur, rfl, hb, hg, hc, hm, hs, ht⟩⟩ := h
  · exact ⟨Option.none, 0, by rw [h0], fun i hi => by omega⟩
  · refine ⟨_, cap, rfl, fun i hi => ⟨g, 0, rfl, ?_, ?_⟩⟩
    · rw [Array.getElem?_eq_some_iff] at hg; exact hg.1
    · have h1 : (cur.toList.take (ws.length * 1))[i]? = some (tvs ws i) := by
        rw [ht, List.getElem?_map, List.getElem?_eq_getElem hi]
        simp [tvs, List.getD_eq_getElem?_getD, List.getElem?_eq_getElem hi]
      rw [List.getElem?_take, if_pos (by omega), Array.getElem?_toList] at h1
      unfold World.cell?
      simp [hg, h1]
section
variable {ops : Array Oper} {rest : List Oper} {o : Oper} {a : Act} {w : World} {Q : Exit → Act → World → Prop}
/-- append(x, t), t in a block of its own. -/
theorem wpList_appS (hgd : o.guard = none) (x y : Operand) (hop : o.op = .call { callee := .builtin .append, args := #[x, y], argTypes := #[38, 38] }) (B g : Nat) (v : Value) (ws : List (List UInt8)) (l : List UInt8)
    (hx : a.eval x = v) (hy : a.eval y = .slice (some ⟨g, 0, Option.none⟩) 1 1) (hr : SGr w B v ws) (hc : w.cell? ⟨g, 0, Option.none⟩ = some (tv l)) (hk : ws.length ≤ 1000000) (hB : B ≤ w.heap.size)
    (h : ∀ v' w', SGr w' B v' (ws ++ [l]) → Chg (fun i => B ≤ i) w w' → wpList Tryd.prog ops Q rest (a.put o.dst v') w') : wpList Tryd.prog ops Q (o :: rest) a w := by
  obtain ⟨i0, hi, hz0, hz1, hz2⟩ := info_parts infoStr
  refine wpList_append_own w hgd x y 38 hop B 9 i0 (.string ByteArray.empty) 1 16 Tryd.underlying38 hi hz0 hz1 hz2 rfl (by decide) v ws.length (ws.map tv) hx hr ⟨g, 0, Option.none⟩ 1 1 [tv l] hy rfl ?_ ?_ (by unfold maxLen; omega) (by omega) hB ?_
  · intro j u hj
    match j, hj with
    | 0, hj => simp at hj; subst hj; simpa [Addr.add] using hc
    | j + 1, hj => simp at hj
  · intro u hu
    simp at hu
    subst hu
    rfl
  · intro v' w' hown hgr _
    refine h v' w' (by unfold SGr; rw [List.map_append, List.length_append]; exact hown) ((Chg.refl _ w).grown hgr (fun b e _ => hr.len e))
end

end Go.Proofs.YtpndbkgjdnkmcaaDoor

namespace Go.Proofs.YtpndbkgjdnkmcaaDoor
open Go.ChangeShapes Go.WideShapes Go.ChangeAt Go.RowKit
set_option linter.unusedVariables false
set_option maxRecDepth 100000
set_option linter.unusedSimpArgs false

/-- The library's bound holds an int. -/
def Mxl (w : World) : Prop := ∃ m : Int, w.cell? ⟨1, 0, none⟩ = some (.int .i64 m)
theorem Mxl.keep {w w' : World} (h : Mxl w) (k : Chg nob w w') : Mxl w' := by
  obtain ⟨m, c⟩ := h
  exact ⟨m, k.see c⟩
theorem split_any (s : ByteArray) (hs : s.size ≤ 1000000) (w : World) (h : Hid (Mxl w)) : Calls Tryd.prog 30 #[.string s, .string ⟨#[32]⟩] w fun e w' => ∃ (b : Nat) (ps : List (List UInt8)), e = .returned (.slice (some ⟨b, 0, none⟩) ps.length ps.length) ∧ RowV w' (some ⟨b, 0, none⟩) ps.length (tvs ps) ∧ ps.length ≤ s.size + 1 ∧ ps.filter (fun x => !x.isEmpty) = wds s.data.toList ∧ Chg nob w w' := by
  obtain ⟨m, hm⟩ := h.out
  refine (Any.strings_Split splE (by kernel_rfl) s ⟨#[32]⟩ m w (by omega) hm (by decide)).mono ?_
  rintro e w' ⟨rfl, rfl⟩
  have hle := Go.Lib.countB_le (⟨#[32]⟩ : ByteArray) (by decide) s.size s (Nat.le_refl _)
  have hlen := Go.Lib.splitB_all (⟨#[32]⟩ : ByteArray) (by decide) 0 _ s rfl
  have hdat := Go.Lib.splitB_data (⟨#[32]⟩ : ByteArray) 0 (Go.Lib.countB s ⟨#[32]⟩) s
  have hl2 : ((Go.Lib.splitB ⟨#[32]⟩ 0 (Go.Lib.countB s ⟨#[32]⟩) s).map (·.data.toList)).length = Go.Lib.countB s ⟨#[32]⟩ + 1 := by rw [List.length_map, hlen]
  have hv : (Go.Lib.splitB ⟨#[32]⟩ 0 (Go.Lib.countB s ⟨#[32]⟩) s).map Value.string = ((Go.Lib.splitB ⟨#[32]⟩ 0 (Go.Lib.countB s ⟨#[32]⟩) s).map (·.data.toList)).map tv := by
    rw [List.map_map]
    refine List.map_congr_left (fun x _ => ?_)
    show Value.string x = Value.string ⟨x.data.toList.toArray⟩
    congr 1
  have hc : Go.Lib.count s.data.toList [32] = Go.Lib.countB s ⟨#[32]⟩ := rfl
  have hf := split_wds _ s.data.toList hc
  rw [show Go.Lib.splitK [32] 0 (Go.Lib.countB s ⟨#[32]⟩) s.data.toList = (Go.Lib.splitB ⟨#[32]⟩ 0 (Go.Lib.countB s ⟨#[32]⟩) s).map (·.data.toList) from hdat.symm] at hf
  rw [hv]
  clear hdat hlen hv hc
  generalize (Go.Lib.splitB ⟨#[32]⟩ 0 (Go.Lib.countB s ⟨#[32]⟩) s).map (·.data.toList) = ps at hl2 hf ⊢
  rw [← hl2]
  have e : (ps.map tv).toArray = rowA ps.length (tvs ps) := by
    unfold rowA
    rw [← tvs_map]
  exact ⟨w.heap.size, ps, rfl, RowV.of_row (rowIs_of (t := 9) (by rw [e]; exact Go.Deep.blk_alloc_new _ _)) (Nat.le_refl _), by omega, hf, (Chg.refl nob w).alloc _⟩

end Go.Proofs.YtpndbkgjdnkmcaaDoor
