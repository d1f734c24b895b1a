/- What 'append([]byte{7}, more...)' makes: a slice of bytes, one longer, that can be read; nothing that was there has turned. Conditions: more can be read and holds at most 1048576 bytes. -/
import Derived.Test.YtimpmiamfpnjaaaSrcOf
import Derived.Deep.AppendSrc
import Derived.OwnWalk
namespace Go.Proofs.Ytimpmiamfpnjaaa
open Go.ChangeShapes Go.WideShapes Go.ChangeAt Go.RowKit

theorem infoByte : (Try.prog.info? 5).map (fun i => (i.zero, i.size, i.bytes)) = some (some (.int .u8 0), 1, 1) := by kernel_rfl

theorem below_grown {w w' : World} (h : w.grownBy w' none) : Below w.heap.size w w' := (Below.refl _ _).grown h (Nat.le_refl _) (fun k e => by cases e)

theorem wp_app7 (w : World) {ops : Array Oper} {rest : List Oper} {o : Oper} {a : Act} {Q : Exit → Act → World → Prop}
    (hg : o.guard = none) (s x : Operand) (hop : o.op = Op.call { callee := Callee.builtin Builtin.append, args := #[s, x], argTypes := #[22, 22] })
    (g : Nat) (hs : a.eval s = .slice (some ⟨g, 0, none⟩) 1 1) (h7 : w.cell? ⟨g, 0, none⟩ = some (.int .u8 7))
    (c : Option Addr) (len cap : Nat) (hx : a.eval x = .slice c len cap) (hB : Bytes w c len) (hl : len ≤ 1048576)
    (hK : ∀ c' cap' w', Bytes w' c' (1 + len) → Below w.heap.size w w' → wpList Try.prog ops Q rest (a.put o.dst (.slice c' (1 + len) cap')) w') :
    wpList Try.prog ops Q (o :: rest) a w := by
  obtain ⟨i0, hi, hz0, hz1, hz2⟩ := info_parts infoByte
  by_cases hz : len = 0
  · subst hz
    have hsrc : Go.Src Try.prog i0.size 22 (.slice c 0 cap) 0 [] w := by
      cases c with
      | none => exact Go.Src.ofNil w Try.underlying22 cap
      | some ad => exact Go.Src.ofSlice w Try.underlying22 ad 0 cap [] (by simp) (by intro j u h; simp at h) (by intro u h; cases h)
    have hrun := run_append_room_src (P := Try.prog) w 22 22 o.type 5 i0 Try.underlying22 hi g 0 1 1 _ 0 [] hsrc (by omega) (by intro j h; simp at h) (by intro j h; simp at h)
    refine wpList_plain hg fun K hK' => ?_
    unfold Oper.wp
    simp [execOp, hop, resolve, invoke, builtin, hs, hx, hrun, Result.andThen]
    refine hK' _ _ (hK (some ⟨g, 0, none⟩) 1 _ ?_ (Below.refl _ _))
    intro i hi'
    obtain rfl : i = 0 := by omega
    exact ⟨g, 0, 7, rfl, block_lt_of_cell h7, h7, by omega, by omega⟩
  · obtain ⟨xb, xo, z, rfl, hb, _⟩ := hB 0 (by omega)
    have hcell : ∀ j, j < len → ∃ z : Int, w.cell? ⟨xb, xo + j, none⟩ = some (.int .u8 z) ∧ 0 ≤ z ∧ z ≤ 255 := by
      intro j hj
      obtain ⟨xb', xo', z', e, _, cz, z0, z1⟩ := hB j hj
      obtain ⟨rfl, rfl⟩ : xb = xb' ∧ xo = xo' := by simpa using e
      exact ⟨z', cz, z0, z1⟩
    refine wpList_append_grows w hg s x 22 hop 5 i0 (.int .u8 0) 1 1 Try.underlying22 hi hz0 hz1 hz2 rfl (by decide) (some ⟨g, 0, none⟩) 1 1 [.int .u8 7] hs (by intro h; cases h) rfl ?_
      ⟨xb, xo, none⟩ len cap ((List.range len).map fun j => (w.cell? ⟨xb, xo + j, none⟩).getD (.int .u8 0)) hx (by simp) ?_ ?_ (by omega) (by unfold maxLen; omega) (by omega) ?_
    · intro b e j u h
      obtain rfl : (⟨g, 0, none⟩ : Addr) = b := by simpa using e
      match j, h with
      | 0, h => simp at h; subst h; simpa [Addr.add] using h7
    · intro j u h
      rw [List.getElem?_map] at h
      by_cases hj : j < len
      · rw [List.getElem?_range hj] at h
        obtain ⟨z, cz, _⟩ := hcell j hj
        simp only [Option.map_some, cz, Option.getD_some, Option.some.injEq] at h
        subst h
        rw [Addr.add_lit, cz]
      · rw [List.getElem?_eq_none (by simp; omega)] at h
        cases h
    · intro u hu
      obtain ⟨j, hj, rfl⟩ := List.mem_map.1 hu
      obtain ⟨z, cz, _⟩ := hcell j (by simpa using hj)
      rw [cz]
      rfl
    · intro v' w' hown hgr
      have hown' := hown
      obtain ⟨_, ⟨_, h0⟩ | ⟨g', cap', cur, rfl, hbase, hcur, hle, hcl, hsz, htk⟩⟩ := hown
      · omega
      · refine hK _ _ _ ?_ (below_grown hgr)
        intro i hi'
        have hc := hown'.cellAt i (by omega)
        by_cases h0 : i = 0
        · subst h0
          refine ⟨g', 0, 7, rfl, (by have := block_lt_of_cell (show w'.cell? ⟨g', 0, none⟩ = some (.int .u8 7) by rw [hc]; rfl); exact this), ?_, by omega, by omega⟩
          rw [Nat.zero_add, hc]
          rfl
        · obtain ⟨z, cz, z0, z1⟩ := hcell (i - 1) (by omega)
          have hv : w'.cell? ⟨g', i, none⟩ = some (.int .u8 z) := by
            rw [hc, List.singleton_append, List.getElem?_cons, if_neg h0, List.getElem?_map, List.getElem?_range (by omega)]
            simp only [Option.map_some, cz, Option.getD_some]
          exact ⟨g', 0, z, rfl, block_lt_of_cell hv, by rw [Nat.zero_add]; exact hv, z0, z1⟩
end Go.Proofs.Ytimpmiamfpnjaaa
