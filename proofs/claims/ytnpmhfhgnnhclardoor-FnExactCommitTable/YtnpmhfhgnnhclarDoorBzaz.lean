/- Several texts in one: 'append(x, make([]T, k)...)', T of two cells that are 0 at first: a law. No program is named here; no condition but those that each theorem states. · What the model's EncodeWord answers: a contract. Conditions: lists that can be read, of at most 2 to the 40. -/
import Derived.Test.YtnpmhfhgnnhclarDoorBzaa
import Derived.Laws.AppendOwn
import Derived.ArgAppend
import Derived.Test.YtnpmhfhgnnhclarDoorBzaw
import Derived.Test.YtnpmhfhgnnhclarDoorBzaf
namespace Go.Proofs.YtnpmhfhgnnhclarDoor
open Go.RowKit
set_option linter.unusedVariables false
set_option linter.unusedSimpArgs false

/-- k elements of two cells that are 0. -/
def zl (k : Nat) : List Value := (List.range (k * 2)).map (fun _ => .int .i64 0)
theorem zl_length (k : Nat) : (zl k).length = k * 2 := by unfold zl; simp
theorem zl_one (k : Nat) : ∀ u ∈ zl k, u.oneCell' = true := by
  intro u hu
  unfold zl at hu
  simp at hu
  obtain ⟨_, rfl⟩ := hu
  rfl
theorem zeroCells_zl (k : Nat) : Builtin.zeroCells (Value.cells (.agg #[.int .i64 0, .int .i64 0])) k = (zl k).toArray := by
  unfold Builtin.zeroCells zl
  apply Array.ext'
  simp only [Array.toList_map, Array.toList_range, List.toList_toArray, Value.cells]
  apply List.map_congr_left
  intro i hi
  rcases (by omega : i % 2 = 0 ∨ i % 2 = 1) with q | q <;> simp [q]

section
variable {P : Program} (w : World)
theorem run_append_zeros (base : Nat) (t ti ty e : TypeId) (i : TypeInfo) (ht : P.underlying t = some (.slice e)) (hti : P.underlying ti = some (.int .i64)) (hi : P.info? e = some i) (hz : i.zero = some (.agg #[.int .i64 0, .int .i64 0]))
    (hsize : i.size = 2) (hby : i.bytes = 16) (v : Value) (n : Nat) (xs : List Value) (hown : w.ownsRow base e 2 v n xs) (hn1 : 1 ≤ n) (k : Nat) (hk : n + k ≤ 65536) (hbase : base ≤ w.heap.size) :
    ∃ v' w', (Builtin.append_ #[t, ti] ty #[v, .int .i64 (k : Int)]).run P w = .ok v' w' ∧ w'.ownsRow base e 2 v' (n + k) (xs ++ zl k) ∧ w.grownBy w' v.ownBlock := by
  have hlen : (xs ++ zl k).length = (n + k) * 2 := by rw [List.length_append, hown.1, zl_length, Nat.add_mul]
  have hwk : IntKind.i64.wrap (k : Int) = (k : Int) := by rw [IntKind.wrap_i64]; omega
  have hk0 : ¬ (k : Int) < 0 := by omega
  have hk48 : ¬ (281474976710656 < (k : Int) * 16) := by omega
  rcases hown.2 with ⟨rfl, rfl⟩ | ⟨g, cap, cur, rfl, hbg, hg, hnc, hcm, hcs, htake⟩
  · omega
  · by_cases hroom : n + k ≤ cap
    · have hfit : n * 2 + 0 + (zl k).length ≤ cur.size := by rw [zl_length, hcs]; omega
      have hst := run_storeCells_at P g (n * 2) e (zl k) 0 cur w hg hfit (zl_one k)
      simp only [Nat.add_zero] at hst
      have hr : (Builtin.append_ #[t, ti] ty #[.slice (some ⟨g, 0, none⟩) n cap, .int .i64 (k : Int)]).run P w = .ok (.slice (some ⟨g, 0, none⟩) (n + k) cap) (w.setRow g (cur.toList.take (n * 2) ++ zl k ++ cur.toList.drop (n * 2 + (zl k).length)).toArray) := by
        by_cases h0 : k = 0
        · subst h0
          have e0 : zl 0 = [] := rfl
          rw [e0] at hst ⊢
          simp [Builtin.append_, run_underlying ht, run_underlying hti, sizeOf, typeInfo, hi, hsize, hby, asInt, asIntOf, show IntKind.i64.wrap 0 = 0 by (rw [IntKind.wrap_i64]; rfl), hnc, Addr.add_lit, hst]
        · have hk2 : ¬ k * 2 = 0 := by omega
          simp [Builtin.append_, run_underlying ht, run_underlying hti, sizeOf, typeInfo, zeroValue, hi, hz, hsize, hby, asInt, asIntOf, hwk, hk0, hk48, hk2, h0, hroom, zeroCells_zl, Addr.add_lit, hst]
      refine ⟨_, _, hr, ⟨hlen, .inr ⟨g, cap, _, rfl, hbg, setRow_heap w g cur _ e _ hg, hroom, hcm, ?_, ?_⟩⟩, ⟨rfl, rfl, rfl, by simp, fun k _ hk => setRow_other w g k _ (fun e => hk (by simp [Value.ownBlock, e]))⟩⟩
      · simp only [List.size_toArray, List.length_append, List.length_take, List.length_drop, Array.length_toList]
        omega
      · rw [htake, ← hlen]
        exact List.take_left
    · have holds : ∀ j u, xs[j]? = some u → w.cell? ((⟨g, 0, none⟩ : Addr).add j) = some u := hown.cells (g := g) rfl
      have hfo := run_firstCells_some (P := P) w.drew 2 n ⟨g, 0, none⟩ n cap xs hown.1 (by simpa using holds)
      have hn : ¬ (n + k ≤ cap) := hroom
      have h63' : ¬ (9223372036854775807 < ((n : Int) + (k : Int))) := by omega
      have h48 := growslice_fits (need := n + k) (old := cap) (bytes := 16) (by omega) (by omega)
      have h48' : ¬ (281474976710656 < Builtin.nextslicecap (n + k) cap * 16) := by omega
      have h0 : ¬ k = 0 := by omega
      have hk2 : ¬ k * 2 = 0 := by omega
      have hge := grownCap_ge w (n + k) cap e
      have hcm' : grownCap w (n + k) cap e ≤ maxLen := grownCap_le_maxLen w (n + k) cap e (by unfold maxLen; omega)
      have hr : (Builtin.append_ #[t, ti] ty #[.slice (some ⟨g, 0, none⟩) n cap, .int .i64 (k : Int)]).run P w = .ok (.slice (some ⟨w.heap.size, 0, none⟩) (n + k) (grownCap w (n + k) cap e)) (w.drew.alloc (.cells (xs.toArray ++ (zl k).toArray ++ (zl (grownCap w (n + k) cap e - (n + k))).toArray) e)) := by
        simp [Builtin.append_, run_underlying ht, run_underlying hti, sizeOf, typeInfo, zeroValue, hi, hz, hsize, hby, asInt, asIntOf, hwk, hk0, hk48, hk2, h0, hn, h63', h48', Question.forced, hfo, zeroCells_zl, newRow, grownCap]
      refine ⟨_, _, hr, ⟨hlen, .inr ⟨w.heap.size, _, _, rfl, hbase, heap_alloc_new w.drew _, hge, hcm', ?_, ?_⟩⟩, ⟨rfl, rfl, rfl, by simp, fun k hk _ => (by first | exact heap_alloc_old w.drew _ hk | exact Go.heap_alloc_old w.drew _ k hk)⟩⟩
      · simp only [Array.size_append, List.size_toArray, zl_length, hown.1]
        omega
      · simp only [Array.toList_append, List.append_assoc, List.toList_toArray]
        rw [← List.append_assoc, ← hlen]
        exact List.take_left

/-- At the operation. -/
theorem wpList_append_zeros {ops : Array Oper} {rest : List Oper} {o : Oper} {a : Act} {Q : Exit → Act → World → Prop} (hgd : o.guard = none) (s x : Operand) (t ti : TypeId)
    (ho : o.op = .call { callee := .builtin .append, args := #[s, x], argTypes := #[t, ti] })
    (base : Nat) (e : TypeId) (i : TypeInfo) (ht : P.underlying t = some (.slice e)) (hti : P.underlying ti = some (.int .i64)) (hi : P.info? e = some i) (hz : i.zero = some (.agg #[.int .i64 0, .int .i64 0]))
    (hsize : i.size = 2) (hby : i.bytes = 16) (v : Value) (n : Nat) (xs : List Value) (hs : a.eval s = v) (hown : w.ownsRow base e 2 v n xs) (hn1 : 1 ≤ n) (k : Nat) (hx : a.eval x = .int .i64 (k : Int)) (hk : n + k ≤ 65536) (hbase : base ≤ w.heap.size)
    (h : ∀ v' w', w'.ownsRow base e 2 v' (n + k) (xs ++ zl k) → w.grownBy w' v.ownBlock → wpList P ops Q rest (a.put o.dst v') w') : wpList P ops Q (o :: rest) a w := by
  refine wpList_plain hgd fun K hK => ?_
  obtain ⟨v', w', hr, h2, h3⟩ := run_append_zeros (P := P) w base t ti o.type e i ht hti hi hz hsize hby v n xs hown hn1 k hk hbase
  unfold Oper.wp execOp
  simp only [ho, resolve, invoke, builtin, Sem.run_bind, Sem.run_pure, Result.andThen_ok, List.map_toArray, List.map_cons, List.map_nil, hs, hx, hr]
  exact hK _ _ (h v' w' h2 h3)
end

end Go.Proofs.YtnpmhfhgnnhclarDoor

namespace Go.Proofs.YtnpmhfhgnnhclarDoor
open Go.ChangeShapes Go.WideShapes Go.ChangeAt Go.RowKit
set_option linter.unusedVariables false
set_option maxRecDepth 100000
set_option linter.unusedSimpArgs false

theorem fit_list (t : Nat → El) (n k : Nat) : (List.range (n * 2)).map (pf (cA t) (cB t)) ++ zl k = (List.range ((n + k) * 2)).map (pf (cA (fitE t n zE)) (cB (fitE t n zE))) := by
  apply List.ext_getElem?
  intro i
  by_cases h1 : i < n * 2
  · rw [List.getElem?_append_left (by simpa using h1), List.getElem?_map, List.getElem?_range h1, List.getElem?_map, List.getElem?_range (by omega)]
    simp only [Option.map_some, Option.some.injEq]
    unfold pf cA cB fitE
    rw [if_pos (show i / 2 < n by omega)]
  · rw [List.getElem?_append_right (by simpa using Nat.le_of_not_lt h1)]
    simp only [List.length_map, List.length_range, zl]
    by_cases h2 : i < (n + k) * 2
    · rw [List.getElem?_map, List.getElem?_range (by omega), List.getElem?_map, List.getElem?_range h2]
      simp only [Option.map_some, Option.some.injEq]
      unfold pf cA cB fitE zE
      rw [if_neg (show ¬ i / 2 < n by omega)]
      split <;> rfl
    · rw [List.getElem?_eq_none (by simp; omega), List.getElem?_eq_none (by simp; omega)]
theorem ul_int : Tryd.prog.underlying 3 = some (.int .i64) := Tryd.underlying3

set_option maxHeartbeats 4000000 in
theorem sEncode_any {m q : Nat} (hmq : m + q ≤ 9) (c : Option Addr) (n cap : Nat) (t : Nat → El) (w : World) (HN : Hid (n = 2 ^ m)) (h : Hid (PairE w c n t)) :
    Calls Tryd.prog 26 #[.slice c n cap, .int .i64 (q : Int)] w fun e w' => SlAns w (n * 2 ^ q) (El.nt (m + q) (fitE t n zE) (El.rtE (m + q))) e w' := by
  have hn5 : n ≤ 512 := by rw [HN.out]; exact pow_le9 (by omega)
  have hn1 : 1 ≤ n := by rw [HN.out]; exact Nat.one_le_two_pow
  obtain ⟨z, hz⟩ : ∃ z, z = n * 2 ^ q := ⟨_, rfl⟩
  rw [← hz]
  have hsh : IntKind.i64.wrap ((n : Int) * 2 ^ q) = (z : Int) := by rw [hz]; exact shl9 hn5 (by omega)
  have HZP := hik (show z = 2 ^ (m + q) by rw [hz, HN.out, ← Nat.pow_add])
  have hz5 : z ≤ 512 := by rw [HZP.out]; exact pow_le9 hmq
  have hnz : n ≤ z := by rw [hz]; exact Nat.le_mul_of_pos_right n (Nat.two_pow_pos q)
  have hwq : IntKind.u64.wrap (q : Int) = (q : Int) := by rw [IntKind.wrap_u64]; omega
  have hq0 : (0 : Int) ≤ (q : Int) := by omega
  have hq9 : (q : Int) ≤ 9 := by omega
  obtain ⟨k, hk⟩ : ∃ k, k = z - n := ⟨_, rfl⟩
  have hwk : IntKind.i64.wrap ((z : Int) - (n : Int)) = (k : Int) := by rw [IntKind.wrap_i64]; omega
  have HK := hik (show n + k = z by omega)
  clear hz hk
  obtain ⟨xb, xo, ec, hxb, _, _⟩ := PairE.at_ h.out (show 0 < n by omega)
  subst ec
  obtain ⟨i0, hi, hz0, hz1, hz2⟩ := info_parts infoExt
  have HI := hik hi
  have HZ0 := hik hz0
  have HZ1 := hik hz1
  have HZ2 := hik hz2
  clear hi hz0 hz1 hz2
  have P0 := hik (PairE.keep h.out ((Chg.refl nob w).alloc (.cells #[] 38)))
  have hcs : ∀ j u, ((List.range (n * 2)).map (pf (cA t) (cB t)))[j]? = some u → (w.alloc (.cells #[] 38)).cell? ((⟨xb, xo, none⟩ : Addr).add j) = some u := by
    intro j v hj
    by_cases hjr : j < n * 2
    · rw [List.getElem?_map, List.getElem?_range hjr] at hj
      simp at hj
      subst hj
      rw [Go.WideShapes.add_plain]
      rcases (show j % 2 = 0 ∨ j % 2 = 1 by omega) with q | q
      · rw [show xo + j = xo + j / 2 * 2 by omega, P0.out.c0 (i := j / 2) (by omega)]
        unfold pf; rw [if_pos q]; rfl
      · rw [show xo + j = xo + j / 2 * 2 + 1 by omega, P0.out.c1 (i := j / 2) (by omega)]
        unfold pf; rw [if_neg (by omega)]; rfl
    · rw [List.getElem?_eq_none (by simp; omega)] at hj
      cases hj
  have HCS := hik hcs
  clear hcs
  go_enter Tryd.func26, Tryd.ntmps26
  go_wp2_with (at_builtin; refine wpList_append_grows _ rfl (.tmp 12) (.tmp 13) 26 rfl 38 i0 (.agg #[.int .i64 0, .int .i64 0]) 2 16 Tryd.underlying26 HI.out HZ0.out HZ1.out HZ2.out rfl (by decide) (some ⟨w.heap.size, 0, none⟩) 0 0 [] rfl (by intro h; cases h) rfl (by intro b _ j u h; simp at h) ⟨xb, xo, none⟩ n cap ((List.range (n * 2)).map (pf (cA t) (cB t))) rfl (by simp) HCS.out ?c1 (by omega) ?c2 ?c3 ?c4)
  case c1 =>
    intro u hu
    simp at hu
    obtain ⟨j, _, rfl⟩ := hu
    rfl
  case c2 => unfold maxLen; omega
  case c3 => omega
  case c4 =>
    intro v1 W1 o1 g1
    obtain ⟨b1, cp1, cur1, e1, _⟩ : ∃ b1 cp1 cur1, v1 = .slice (some ⟨b1, 0, none⟩) n cp1 ∧ W1.heap[b1]? = some (.cells cur1 38 (0, 0)) := by
      rcases o1.2 with ⟨_, h0⟩ | ⟨b, cp, cur, ev, _, hg, _⟩
      · omega
      · exact ⟨b, cp, cur, ev, hg⟩
    subst e1
    have O1 := hik o1
    have G1 := hik (((Chg.refl nob w).alloc (.cells #[] 38)).grown g1 (fun k e => by cases e))
    have hb1 : w.heap.size + 1 ≤ b1 := (o1.lt b1 rfl).1
    have hs1 : w.heap.size + 1 ≤ W1.heap.size := by have := g1.size; simpa using this
    clear o1 g1
    go_wp2_with (at_builtin; refine wpList_append_zeros _ rfl (.tmp 14) (.tmp 18) 26 3 rfl (w.heap.size + 1) 38 i0 Tryd.underlying26 ul_int HI.out HZ0.out HZ1.out HZ2.out _ n _ rfl O1.out hn1 k rfl (by rw [HK.out]; omega) hs1 ?c5)
    case c5 =>
      intro v2 W2 o2 g2
      rw [fit_list, HK.out] at o2
      obtain ⟨c2, cap2, e2, hc2, ho2⟩ := OwnE.of_owns o2
      subst e2
      have P2 := hik (show PairE W2 c2 z (fitE t n zE) from OwnE.pairs ho2)
      have G2 := hik (Chg.grown G1.out g2 (fun j e l => by simp [Value.ownBlock] at e; omega))
      clear o2 g2 ho2 O1 G1
      go_wp2_with fail
      refine (sVars_any hmq z HZP _).mono ?_
      rintro e W3 ⟨rfl, hw1⟩
      have hw1' := hw1.symm
      clear hw1
      subst hw1'
      go_wp2_with fail
      refine (sRtN_any hmq _).mono ?_
      rintro e W3 ⟨rfl, hw1⟩
      have hw1' := hw1.symm
      clear hw1
      subst hw1'
      go_wp2_with fail
      refine (sNtt_any (m + q) c2 z cap2 (fitE t n zE) (Fld.sq (24 - (m + q))) _ HZP.out P2 hmq (Fld.sq_lo _) (Fld.sq_hi _)).mono ?_
      rintro e W4 ⟨c', cap', rfl, h1c, h2c, ho, k4⟩
      have K4 := hik (G2.out.trans k4)
      have HO := hik ho
      have h2s := G2.out.size
      clear k4 ho
      go_wp2
      go_ret
      exact ⟨c', cap', rfl, h1c, h2c, OwnE.low HO.out h2s, K4.out⟩


end Go.Proofs.YtnpmhfhgnnhclarDoor
