/- 'append(x, make([]T, k)...)', T of two cells that are 0 at first: a law. No program is named here; no condition but those that each theorem states. -/
import Derived.Test.YtagjffjdoimhbadMem
import Derived.Laws.AppendOwn
import Derived.ArgAppend
namespace Go.Proofs.Ytagjffjdoimhbad
open Go.RowKit
set_option linter.unusedVariables false
set_option linter.unusedSimpArgs false

/-- k elements of two cells that are 0. -/
def zl (k : Nat) : List Value := (List.range (k * 2)).map (fun _ => .int .i64 0)
theorem zl_length (k : Nat) : (zl k).length = k * 2 := by unfold zl; simp
theorem zl_one (k : Nat) : ∀ u ∈ zl k, u.oneCell' = true := by
  intro u hu
  unfold zl at hu
  simp at hu
  obtain ⟨_, rfl⟩ := hu
  rfl
theorem zeroCells_zl (k : Nat) : Builtin.zeroCells (Value.cells (.agg #[.int .i64 0, .int .i64 0])) k = (zl k).toArray := by
  unfold Builtin.zeroCells zl
  apply Array.ext'
  simp only [Array.toList_map, Array.toList_range, List.toList_toArray, Value.cells]
  apply List.map_congr_left
  intro i hi
  rcases (by omega : i % 2 = 0 ∨ i % 2 = 1) with q | q <;> simp [q]

section
variable {P : Program} (w : World)
theorem run_append_zeros (base : Nat) (t ti ty e : TypeId) (i : TypeInfo) (ht : P.underlying t = some (.slice e)) (hti : P.underlying ti = some (.int .i64)) (hi : P.info? e = some i) (hz : i.zero = some (.agg #[.int .i64 0, .int .i64 0]))
    (hsize : i.size = 2) (hby : i.bytes = 16) (v : Value) (n : Nat) (xs : List Value) (hown : w.ownsRow base e 2 v n xs) (hn1 : 1 ≤ n) (k : Nat) (hk : n + k ≤ 65536) (hbase : base ≤ w.heap.size) :
    ∃ v' w', (Builtin.append_ #[t, ti] ty #[v, .int .i64 (k : Int)]).run P w = .ok v' w' ∧ w'.ownsRow base e 2 v' (n + k) (xs ++ zl k) ∧ w.grownBy w' v.ownBlock := by
  have hlen : (xs ++ zl k).length = (n + k) * 2 := by rw [List.length_append, hown.1, zl_length, Nat.add_mul]
  have hwk : IntKind.i64.wrap (k : Int) = (k : Int) := by rw [IntKind.wrap_i64]; omega
  have hk0 : ¬ (k : Int) < 0 := by omega
  have hk48 : ¬ (281474976710656 < (k : Int) * 16) := by omega
  rcases hown.2 with ⟨rfl, rfl⟩ | ⟨g, cap, cur, rfl, hbg, hg, hnc, hcm, hcs, htake⟩
  · omega
  · by_cases hroom : n + k ≤ cap
    · have hfit : n * 2 + 0 + (zl k).length ≤ cur.size := by rw [zl_length, hcs]; omega
      have hst := run_storeCells_at P g (n * 2) e (zl k) 0 cur w hg hfit (zl_one k)
      simp only [Nat.add_zero] at hst
      have hr : (Builtin.append_ #[t, ti] ty #[.slice (some ⟨g, 0, none⟩) n cap, .int .i64 (k : Int)]).run P w = .ok (.slice (some ⟨g, 0, none⟩) (n + k) cap) (w.setRow g (cur.toList.take (n * 2) ++ zl k ++ cur.toList.drop (n * 2 + (zl k).length)).toArray) := by
        by_cases h0 : k = 0
        · subst h0
          have e0 : zl 0 = [] := rfl
          rw [e0] at hst ⊢
          simp [Builtin.append_, run_underlying ht, run_underlying hti, sizeOf, typeInfo, hi, hsize, hby, asInt, asIntOf, show IntKind.i64.wrap 0 = 0 by (rw [IntKind.wrap_i64]; rfl), hnc, Addr.add_lit, hst]
        · have hk2 : ¬ k * 2 = 0 := by omega
          simp [Builtin.append_, run_underlying ht, run_underlying hti, sizeOf, typeInfo, zeroValue, hi, hz, hsize, hby, asInt, asIntOf, hwk, hk0, hk48, hk2, h0, hroom, zeroCells_zl, Addr.add_lit, hst]
      refine ⟨_, _, hr, ⟨hlen, .inr ⟨g, cap, _, rfl, hbg, setRow_heap w g cur _ e _ hg, hroom, hcm, ?_, ?_⟩⟩, ⟨rfl, rfl, rfl, by simp, fun k _ hk => setRow_other w g k _ (fun e => hk (by simp [Value.ownBlock, e]))⟩⟩
      · simp only [List.size_toArray, List.length_append, List.length_take, List.length_drop, Array.length_toList]
        omega
      · rw [htake, ← hlen]
        exact List.take_left
    · have holds : ∀ j u, xs[j]? = some u → w.cell? ((⟨g, 0, none⟩ : Addr).add j) = some u := hown.cells (g := g) rfl
      have hfo := run_firstCells_some (P := P) w.drew 2 n ⟨g, 0, none⟩ n cap xs hown.1 (by simpa using holds)
      have hn : ¬ (n + k ≤ cap) := hroom
      have h63' : ¬ (9223372036854775807 < ((n : Int) + (k : Int))) := by omega
      have h48 := growslice_fits (need := n + k) (old := cap) (bytes := 16) (by omega) (by omega)
      have h48' : ¬ (281474976710656 < Builtin.nextslicecap (n + k) cap * 16) := by omega
      have h0 : ¬ k = 0 := by omega
      have hk2 : ¬ k * 2 = 0 := by omega
      have hge := grownCap_ge w (n + k) cap e
      have hcm' : grownCap w (n + k) cap e ≤ maxLen := grownCap_le_maxLen w (n + k) cap e (by unfold maxLen; omega)
      have hr : (Builtin.append_ #[t, ti] ty #[.slice (some ⟨g, 0, none⟩) n cap, .int .i64 (k : Int)]).run P w = .ok (.slice (some ⟨w.heap.size, 0, none⟩) (n + k) (grownCap w (n + k) cap e)) (w.drew.alloc (.cells (xs.toArray ++ (zl k).toArray ++ (zl (grownCap w (n + k) cap e - (n + k))).toArray) e)) := by
        simp [Builtin.append_, run_underlying ht, run_underlying hti, sizeOf, typeInfo, zeroValue, hi, hz, hsize, hby, asInt, asIntOf, hwk, hk0, hk48, hk2, h0, hn, h63', h48', Question.forced, hfo, zeroCells_zl, newRow, grownCap]
      refine ⟨_, _, hr, ⟨hlen, .inr ⟨w.heap.size, _, _, rfl, hbase, heap_alloc_new w.drew _, hge, hcm', ?_, ?_⟩⟩, ⟨rfl, rfl, rfl, by simp, fun k hk _ => (by first | exact heap_alloc_old w.drew _ hk | exact Go.heap_alloc_old w.drew _ k hk)⟩⟩
      · simp only [Array.size_append, List.size_toArray, zl_length, hown.1]
        omega
      · simp only [Array.toList_append, List.append_assoc, List.toList_toArray]
        rw [← List.append_assoc, ← hlen]
        exact List.take_left

/-- At the operation. -/
theorem wpList_append_zeros {ops : Array Oper} {rest : List Oper} {o : Oper} {a : Act} {Q : Exit → Act → World → Prop} (hgd : o.guard = none) (s x : Operand) (t ti : TypeId)
    (ho : o.op = .call { callee := .builtin .append, args := #[s, x], argTypes := #[t, ti] })
    (base : Nat) (e : TypeId) (i : TypeInfo) (ht : P.underlying t = some (.slice e)) (hti : P.underlying ti = some (.int .i64)) (hi : P.info? e = some i) (hz : i.zero = some (.agg #[.int .i64 0, .int .i64 0]))
    (hsize : i.size = 2) (hby : i.bytes = 16) (v : Value) (n : Nat) (xs : List Value) (hs : a.eval s = v) (hown : w.ownsRow base e 2 v n xs) (hn1 : 1 ≤ n) (k : Nat) (hx : a.eval x = .int .i64 (k : Int)) (hk : n + k ≤ 65536) (hbase : base ≤ w.heap.size)
    (h : ∀ v' w', w'.ownsRow base e 2 v' (n + k) (xs ++ zl k) → w.grownBy w' v.ownBlock → wpList P ops Q rest (a.put o.dst v') w') : wpList P ops Q (o :: rest) a w := by
  refine wpList_plain hgd fun K hK => ?_
  obtain ⟨v', w', hr, h2, h3⟩ := run_append_zeros (P := P) w base t ti o.type e i ht hti hi hz hsize hby v n xs hown hn1 k hk hbase
  unfold Oper.wp execOp
  simp only [ho, resolve, invoke, builtin, Sem.run_bind, Sem.run_pure, Result.andThen_ok, List.map_toArray, List.map_cons, List.map_nil, hs, hx, hr]
  exact hK _ _ (h v' w' h2 h3)
end

end Go.Proofs.Ytagjffjdoimhbad
