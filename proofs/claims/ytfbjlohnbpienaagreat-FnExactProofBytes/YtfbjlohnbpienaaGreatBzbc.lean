/- Several texts in one: Bytes of a list that grow by append, out of a converted string too: words and laws. No program is named here. · The program's appends of elements onto a growing row: contracts. Conditions: right elements, lengths of at most 2 to the 16. -/
import Derived.Test.YtfbjlohnbpienaaGreatBzbb
import Derived.Test.YtfbjlohnbpienaaGreatBzat
import Derived.Test.YtfbjlohnbpienaaGreatBzba
namespace Go.Proofs.YtfbjlohnbpienaaGreat
open Go.RowKit
set_option linter.unusedVariables false

/-- n bytes, a list, in a block from B on, all its places to be written. -/
structure GRow (W : World) (B g n cap : Nat) (xs : List Value) : Prop where
  e : n = xs.length
  lo : B ≤ g
  lt : g < W.heap.size
  le : n ≤ cap
  at_ : ∀ (i : Nat) (u : Value), xs[i]? = some u → W.cell? ⟨g, i, none⟩ = some u
  there : ∀ i, i < cap → (W.cell? ⟨g, i, none⟩).isSome = true ∧ W.frozen? ⟨g, i, none⟩ = false
  m : cap ≤ maxLen
theorem GRow.chg {P : Nat → Prop} {W W' : World} {B g n cap : Nat} {xs : List Value} (h : GRow W B g n cap xs) (k : Chg P W W') (hp : ¬ P g) : GRow W' B g n cap xs :=
  ⟨h.e, h.lo, Nat.lt_of_lt_of_le h.lt k.size, h.le, fun i u hu => by rw [k.cell (p := ⟨g, i, none⟩) h.lt hp]; exact h.at_ i u hu, fun i hi => by
    rw [k.cell (p := ⟨g, i, none⟩) h.lt hp, World.frozen?_of_block (a := ⟨g, i, none⟩) (k.block g h.lt hp)]; exact h.there i hi, h.m⟩
theorem GRow.keep {W W' : World} {B g n cap : Nat} {xs : List Value} (h : GRow W B g n cap xs) (k : Chg nob W W') : GRow W' B g n cap xs := h.chg k (fun x => x)
theorem GRow.low {W : World} {B B' g n cap : Nat} {xs : List Value} (h : GRow W B g n cap xs) (l : B' ≤ B) : GRow W B' g n cap xs := ⟨h.e, Nat.le_trans l h.lo, h.lt, h.le, h.at_, h.there, h.m⟩
theorem GRow.of_owns {W : World} {B n : Nat} {t : TypeId} {v : Value} {xs : List Value} (ho : W.ownsRow B t 1 v n xs) (hn : 0 < n) : ∃ g cap, v = .slice (some ⟨g, 0, none⟩) n cap ∧ GRow W B g n cap xs := by
  have hl : xs.length = n := by simpa using ho.1
  rcases ho.2 with ⟨_, h0⟩ | ⟨g, cap, cur, rfl, hb, hcur, hl2, hm, hsz, _⟩
  · exact absurd h0 (by omega)
  · refine ⟨g, cap, rfl, hl.symm, hb, (Array.getElem?_eq_some_iff.1 hcur).1, hl2, fun i u hu => ?_, fun i hi => ?_, hm⟩
    · have := ho.cells rfl i u hu
      rw [Go.WideShapes.add_plain, Nat.zero_add] at this
      exact this
    · simp [World.cell?, World.frozen?, hcur]
      omega
/-- A string's bytes, converted. -/
theorem tB_bvs (s : ByteArray) : tB s = bvs s := by
  apply List.ext_getElem
  · rw [tB_len, bvs_len]
  · intro i h1 h2
    rw [tB_len] at h1
    have hz : zs s i = ((s.data.toList[i]'(by simpa using h1)).toNat : Int) := by
      unfold zs
      rw [List.getElem?_eq_getElem (by simpa using h1)]
      rfl
    simp [tB, bvs, Go.Lib.strCells, bb, hz]
theorem GRow.of_brow {W : World} {B g n cap : Nat} {s : ByteArray} (h : BRow W B g n cap (zs s)) (hn : n = s.size) (hm : cap ≤ maxLen) : GRow W B g n cap (tB s) := by
  subst hn
  refine ⟨(tB_len s).symm, h.lo, h.lt, h.le, fun i u hu => ?_, h.there, hm⟩
  rw [tB_bvs] at hu
  obtain ⟨a, rfl⟩ := bvs_get s hu
  exact h.at_ i a
/-- It can be read, and is its maker's own. -/
theorem GRow.mine {W : World} {B g n cap : Nat} {xs : List Value} (h : GRow W B g n cap xs) (hB : isB xs) : Mine W B W.heap.size (some ⟨g, 0, none⟩) n (bw (yB xs)) := by
  refine .inr ⟨g, rfl, h.lo, h.lt, h.lt, fun i hi => ?_, fun i hi => (h.there i (Nat.lt_of_lt_of_le hi h.le)).2⟩
  have hi' : i < xs.length := by rw [← h.e]; exact hi
  obtain ⟨x, ex⟩ := hB xs[i] (List.getElem_mem hi')
  refine h.at_ i _ ?_
  rw [List.getElem?_eq_getElem hi', ex]
  simp [bw, yB, hi', ex]
section
variable {P : Program}
theorem run_append_gr (w : World) (t ty e : TypeId) (i : TypeInfo) (z0 : Value) (h1 : P.underlying t = some (.slice e)) (h2 : P.info? e = some i) (h3 : i.zero = some z0) (h4 : i.size = 1) (h5 : i.bytes = 1) (h6 : z0.cells.size = 1)
    (B g n cap : Nat) (T : List Value) (hB : B ≤ w.heap.size) (hb : GRow w B g n cap T) (ad : Addr) (m c : Nat) (U : List Value) (hm : m = U.length) (hc : ∀ j u, U[j]? = some u → w.cell? (ad.add j) = some u) (h1c : ∀ u ∈ U, u.oneCell' = true) (hU : 0 < m) (hn : n + m ≤ 1000000) :
    ∃ g' cap' w', (Builtin.append_ #[t, t] ty #[.slice (some ⟨g, 0, none⟩) n cap, .slice (some ad) m c]).run P w = .ok (.slice (some ⟨g', 0, none⟩) (n + m) cap') w' ∧ GRow w' B g' (n + m) cap' (T ++ U) ∧ Chg (fun b => b = g) w w' ∧ (g' = g ∨ w.heap.size ≤ g') := by
  obtain ⟨eN, hlo, hlt, hle, hat, hthere, hm'⟩ := hb
  subst hm
  subst eN
  have holds : ∀ j u, T[j]? = some u → w.cell? ((⟨g, 0, none⟩ : Addr).add j) = some u := fun j u h => by
    rw [Go.WideShapes.add_plain, Nat.zero_add]
    exact hat j u h
  have hl1 : U.length = U.length * i.size := by rw [h4]; omega
  by_cases hr : T.length + U.length ≤ cap
  · have hsp : ∀ j, j < U.length → (w.cell? ⟨g, 0 + T.length * i.size + j, none⟩).isSome = true ∧ w.frozen? ⟨g, 0 + T.length * i.size + j, none⟩ = false := fun j hj => by
      rw [h4, Nat.mul_one, Nat.zero_add]
      exact hthere _ (by omega)
    have hrun := run_append_room_cells (P := P) w t ty e i h1 h2 g 0 T.length cap ad U.length c U hl1 hc h1c hr (fun j hj => (hsp j hj).1) (fun j hj => (hsp j hj).2)
    have hin : ∀ k, k < U.length → (w.cell? ⟨g, T.length + k, none⟩).isSome = true := fun k hk => by
      have := (hsp k hk).1
      rwa [h4, Nat.mul_one, Nat.zero_add] at this
    rw [h4, Nat.mul_one, Nat.zero_add] at hrun
    have kk : Chg (fun b => b = g) w (w.setCells g T.length U) := chg_setCells (P := fun b => b = g) rfl _ _ _ (Chg.refl _ w)
    refine ⟨g, cap, _, hrun, ⟨List.length_append.symm, hlo, Nat.lt_of_lt_of_le hlt kk.size, hr, fun j u hj => ?_, fun j hj => ?_, hm'⟩, kk, .inl rfl⟩
    · by_cases ej : j < T.length
      · rw [List.getElem?_append_left ej] at hj
        rw [World.cell?_setCells_out g U T.length w _ (by intro _ _; simp; omega), hat j u hj]
      · rw [List.getElem?_append_right (by omega)] at hj
        have hj2 : j - T.length < U.length := by
          by_cases q : j - T.length < U.length
          · exact q
          · rw [List.getElem?_eq_none (by omega)] at hj
            cases hj
        have q := World.cell?_setCells_in g U T.length w (by intro k hk; exact hin k hk) (j - T.length) hj2
        rw [show T.length + (j - T.length) = j by omega] at q
        rw [q, ← hj, List.getElem?_eq_getElem hj2]
    · refine ⟨?_, by rw [World.frozen?_setCells]; exact (hthere j hj).2⟩
      by_cases ej : j < T.length ∨ T.length + U.length ≤ j
      · rw [World.cell?_setCells_out g U T.length w _ (by intro _ q; omega)]
        exact (hthere j hj).1
      · have q := World.cell?_setCells_in g U T.length w (by intro k hk; exact hin k hk) (j - T.length) (by omega)
        rw [show T.length + (j - T.length) = j by omega] at q
        rw [q]
        rfl
  · obtain ⟨v', w', hrun, ho, hg⟩ := run_append_arg_grows (P := P) w t ty e i z0 1 1 h1 h2 h3 h4 h5 h6 (by omega) ⟨g, 0, none⟩ T.length cap T (by omega) holds ad U.length c U (by omega) hc (by omega) (by unfold maxLen; omega) (by omega)
    rcases ho.2 with ⟨_, h0⟩ | ⟨g', cap', cur, rfl, hb, hcur, hl, hcm, hsz, _⟩
    · exact absurd h0 (by omega)
    · refine ⟨g', cap', w', hrun, ⟨List.length_append.symm, Nat.le_trans hB hb, (Array.getElem?_eq_some_iff.1 hcur).1, hl, fun j u hj => ?_, fun j hj => ?_, hcm⟩, (Chg.refl _ w).grown hg (fun k e => by cases e), .inr hb⟩
      · have := ho.cells rfl j u hj
        rw [Go.WideShapes.add_plain, Nat.zero_add] at this
        exact this
      · simp [World.cell?, World.frozen?, hcur]
        omega
variable (w : World) {ops : Array Oper} {rest : List Oper} {o : Oper} {a : Act} {Q : Exit → Act → World → Prop}
theorem wpList_append_gr (hgd : o.guard = none) (s x : Operand) (t : TypeId) (hop : o.op = Op.call { callee := Callee.builtin Builtin.append, args := #[s, x], argTypes := #[t, t] })
    (e : TypeId) (i : TypeInfo) (z0 : Value) (h1 : P.underlying t = some (.slice e)) (h2 : P.info? e = some i) (h3 : i.zero = some z0) (h4 : i.size = 1) (h5 : i.bytes = 1) (h6 : z0.cells.size = 1)
    (B g n cap : Nat) (T : List Value) (hs : a.eval s = .slice (some ⟨g, 0, none⟩) n cap) (hB : B ≤ w.heap.size) (hb : GRow w B g n cap T) (ad : Addr) (m c : Nat) (U : List Value) (hx : a.eval x = .slice (some ad) m c) (hm : m = U.length) (hc : ∀ j u, U[j]? = some u → w.cell? (ad.add j) = some u) (h1c : ∀ u ∈ U, u.oneCell' = true) (hU : 0 < m) (hn : n + m ≤ 1000000)
    (hK : ∀ g' cap' w', GRow w' B g' (n + m) cap' (T ++ U) → Chg (fun b => b = g) w w' → (g' = g ∨ w.heap.size ≤ g') → wpList P ops Q rest (a.put o.dst (.slice (some ⟨g', 0, none⟩) (n + m) cap')) w') : wpList P ops Q (o :: rest) a w := by
  refine wpList_plain hgd fun K hK' => ?_
  obtain ⟨g', cap', w', hrun, r1, r2, r3⟩ := run_append_gr (P := P) w t o.type e i z0 h1 h2 h3 h4 h5 h6 B g n cap T hB hb ad m c U hm hc h1c hU hn
  unfold Oper.wp execOp
  simp only [hop, resolve, invoke, builtin, Sem.run_bind, Sem.run_pure, Result.andThen_ok, List.map_toArray, List.map_cons, List.map_nil, hs, hx, hrun]
  exact hK' _ _ (hK g' cap' w' r1 r2 r3)
theorem stepL_append_gr {K : Act → World → Prop} {E : Prop} (s x : Operand) (t : TypeId) (hop : o.op = Op.call { callee := Callee.builtin Builtin.append, args := #[s, x], argTypes := #[t, t] }) (hw : Region.wanted o (yielded ops a.tmps) = true)
    (e : TypeId) (i : TypeInfo) (z0 : Value) (h1 : P.underlying t = some (.slice e)) (h2 : P.info? e = some i) (h3 : i.zero = some z0) (h4 : i.size = 1) (h5 : i.bytes = 1) (h6 : z0.cells.size = 1)
    (B g n cap : Nat) (T : List Value) (hs : a.eval s = .slice (some ⟨g, 0, none⟩) n cap) (hB : B ≤ w.heap.size) (hb : GRow w B g n cap T) (ad : Addr) (m c : Nat) (U : List Value) (hx : a.eval x = .slice (some ad) m c) (hm : m = U.length) (hc : ∀ j u, U[j]? = some u → w.cell? (ad.add j) = some u) (h1c : ∀ u ∈ U, u.oneCell' = true) (hU : 0 < m) (hn : n + m ≤ 1000000)
    (hK : ∀ g' cap' w', GRow w' B g' (n + m) cap' (T ++ U) → Chg (fun b => b = g) w w' → (g' = g ∨ w.heap.size ≤ g') → K (a.put o.dst (.slice (some ⟨g', 0, none⟩) (n + m) cap')) w') : if Region.wanted o (yielded ops a.tmps) = true then Oper.wp P o a w K Q else E := by
  rw [if_pos hw]
  obtain ⟨g', cap', w', hrun, r1, r2, r3⟩ := run_append_gr (P := P) w t o.type e i z0 h1 h2 h3 h4 h5 h6 B g n cap T hB hb ad m c U hm hc h1c hU hn
  unfold Oper.wp execOp
  simp only [hop, resolve, invoke, builtin, Sem.run_bind, Sem.run_pure, Result.andThen_ok, List.map_toArray, List.map_cons, List.map_nil, hs, hx, hrun]
  exact hK g' cap' w' r1 r2 r3
end

end Go.Proofs.YtfbjlohnbpienaaGreat

namespace Go.Proofs.YtfbjlohnbpienaaGreat
open Go.ChangeShapes Go.WideShapes Go.ChangeAt Go.RowKit
set_option linter.unusedVariables false
set_option maxRecDepth 100000
set_option linter.unusedSimpArgs false

/-- Bytes that were put behind others. -/
def GpAns (w : World) (B g0 N : Nat) (ys : List Value) (e : Ending) (w' : World) : Prop :=
  ∃ g cap : Nat, e = .returned (.slice (some ⟨g, 0, none⟩) N cap) ∧ GRow w' B g N cap ys ∧ Chg (fun b => b = g0) w w' ∧ (g = g0 ∨ w.heap.size ≤ g)
/-- A text as bytes. -/
theorem conv_gr (s : ByteArray) (w : World) (hs : s.size ≤ 1048576) : ∃ (W0 : World) (cap0 : Nat), (convert 9 38 (.string s)).run Tryz.prog w = .ok (.slice (some ⟨w.heap.size, 0, none⟩) s.size cap0) W0 ∧ Hid (GRow W0 w.heap.size w.heap.size s.size cap0 (tB s)) ∧ Hid (Chg nob w W0) ∧ (cap0 : Int) ≤ 9223372036854775807 :=
  ⟨_, _, Go.Lib.run_convert_string_bytes w 9 38 5 s Tryz.underlying9 Tryz.underlying38 Tryz.underlying5, hik (GRow.of_brow (BRow.of_string w 5 s) rfl (grownCap_le_maxLen w s.size 0 5 (by unfold maxLen; omega))), hik (chg_string w 5 s), by
    have h := grownCap_le_maxLen w s.size 0 5 (by unfold maxLen; omega)
    unfold maxLen at h
    omega⟩
set_option maxHeartbeats 1000000 in
theorem appendExts_g (B g0 n cap0 : Nat) (xs : List Value) (c : Option Addr) (m cap : Nat) (f g : Nat → Int) (w : World) (ho : Hid (GRow w B g0 n cap0 xs)) (h : Hid (PairV w c m f g)) (hok : okP f g m = true) (m1 : 1 ≤ m) (m2 : m ≤ 16) (hn : n ≤ 100000) (hB : B ≤ w.heap.size) :
    Calls Tryz.prog 29 #[.slice (some ⟨g0, 0, none⟩) n cap0, .slice c m cap] w fun e w' => GpAns w B g0 (n + m * 8) (xs ++ eB f g m) e w' := by
  obtain ⟨i0, hi, hz0, hz1, hz2⟩ := info_parts infoU8
  have HI := hik hi
  have HZ0 := hik hz0
  have HZ1 := hik hz1
  have HZ2 := hik hz2
  clear hi hz0 hz1 hz2
  have hb : bc f g m = 0 := by unfold bc; rw [if_neg (by omega), hok]; rfl
  go_enter Tryz.func29, Tryz.ntmps29
  go_wp2_with fail
  refine (extBytes_yes c m cap f g _ (extBytes_any c m cap f g _ h (by omega)) hb).mono ?_
  rintro e W1 ⟨b1, hb1, rfl, hr, kk⟩
  have HO := hik (ho.out.keep kk)
  have HR := hik hr
  have K1 := hik (Chg.wide (P := fun b => b = g0) kk)
  have S1 := kk.size
  clear hr kk hb1
  go_wp2_with (at_builtin; refine wpList_append_gr _ rfl (.tmp 12) (.tmp 13) 38 rfl 5 i0 (.int .u8 0) Tryz.underlying38 HI.out HZ0.out HZ1.out HZ2.out rfl B g0 n cap0 xs rfl (by omega) HO.out ⟨b1, 0, none⟩ (m * 8) (m * 8) (eB f g m) rfl (by rw [eB_len]) (news_row HR.out) (eB_one f g m) (by omega) (by omega) ?_)
  intro g7 cp7 w7 o7 k7 l7
  have K7 := hik (K1.out.trans k7)
  have O7 := hik o7
  have L7 := hik (show g7 = g0 ∨ w.heap.size ≤ g7 from l7.imp id (fun q => by omega))
  clear o7 k7 l7 HR HO K1
  go_wp2
  go_ret
  exact ⟨_, _, rfl, O7.out, K7.out, L7.out⟩
set_option maxHeartbeats 1000000 in
theorem appendRounds_g (B g0 n cap0 : Nat) (xs : List Value) (c : Option Addr) (m cap : Nat) (l : Nat → Nat) (f g : Nat → Nat → Int) (w0 w : World) (ho : Hid (GRow w B g0 n cap0 xs)) (h : Hid ((dEE m l f g).Rep w0 (.slice c m cap))) (hk : Hid (Chg nob w0 w)) (hB0 : w0.heap.size ≤ B) (hB : B ≤ w.heap.size) (hok : Hid (∀ i, i < m → 1 ≤ l i ∧ l i ≤ 8 ∧ okP (f i) (g i) (l i) = true)) (m2 : m ≤ 8) (hn : n ≤ 10000) :
    Calls Tryz.prog 28 #[.slice (some ⟨g0, 0, none⟩) n cap0, .slice c m cap] w fun e w' => GpAns w B g0 (n + (obE l f g m).length) (xs ++ obE l f g m) e w' := by
  go_enter Tryz.func28, Tryz.ntmps28
  go_wp2
  go_loopw [0, 9] (fun v i W => ∃ (k N g' cap' : Nat), k ≤ m ∧ N ≤ 20000 ∧ i = .int .i64 (k : Int) ∧ v = .slice (some ⟨g', 0, none⟩) N cap' ∧ Hid (N = n + (obE l f g k).length) ∧ Hid (GRow W B g' N cap' (xs ++ obE l f g k)) ∧ Hid (Chg nob w0 W) ∧ Hid (Chg (fun b => b = g0) w W) ∧ Hid (g' = g0 ∨ w.heap.size ≤ g')) (fun _ i _ => m - (intOf i).toNat)
  case atStart => exact ⟨0, n, g0, cap0, Nat.zero_le _, by omega, rfl, rfl, hik (by simp [obE, catN]), hik (by simpa [obE, catN] using ho.out), hk, hik (Chg.refl _ _), hik (.inl rfl)⟩
  case round =>
    obtain ⟨k, N, g', cap', hk, hN2, rfl, rfl, HN, HO, HW, HG, HC⟩ := hrel
    rename World => wi
    by_cases hlt : k < m
    · have hk1 : (k : Int) < (m : Int) := by omega
      have hk0 : (0 : Int) ≤ (k : Int) := by omega
      obtain ⟨xb, xo, ec, hxb, hcc⟩ := (rep_list (h.out.keep HW.out)).2 k hlt
      obtain ⟨u, hc, hu⟩ := hcc 0 (by omega)
      obtain ⟨c1, p1, rfl, hP⟩ := hu
      subst ec
      rw [show xo + (k * 1 + 0) = xo + k by omega] at hc
      have PJ := hik hP
      have RK := hik (hok.out k hlt)
      have hBw := HG.out.size
      clear hP hcc
      go_wp2_with fail
      refine (appendExts_g B g' N cap' (xs ++ obE l f g k) c1 (l k) p1 (f k) (g k) _ HO PJ RK.out.2.2 RK.out.1 (by have := RK.out.2.1; omega) (by omega) (by omega)).mono ?_
      rintro e W2 ⟨g2, cap2, rfl, o2, k2, a2⟩
      have HO2 := hik (show GRow W2 B g2 (N + l k * 8) cap2 (xs ++ obE l f g (k + 1)) by have q := o2; rw [List.append_assoc] at q; exact q)
      have HW2 := hik (HW.out.near k2 (fun i e => by have := HO.out.lo; omega))
      have HG2 := hik (HG.out.onto k2 (fun i hi e => by
        rcases HC.out with q | q
        · exact e.trans q
        · omega))
      have HC2 := hik (show g2 = g0 ∨ w.heap.size ≤ g2 by
        rcases a2 with q | q
        · rcases HC.out with q' | q'
          · exact .inl (q.trans q')
          · right; omega
        · right; omega)
      have HN3 := hik (show N + l k * 8 = n + (obE l f g (k + 1)).length by rw [HN.out]; simp only [obE, catN, List.length_append, eB_len]; omega)
      have hl := obE_len (fun i hi => hok.out i hi) (k := k + 1) (by omega)
      obtain ⟨M, hM⟩ : ∃ M, M = N + l k * 8 := ⟨_, rfl⟩
      rw [← hM] at HO2 HN3 ⊢
      have hN2 : M ≤ 20000 := by have := HN3.out; omega
      clear o2 k2 a2 hc PJ hl hM RK
      go_wp2
      go_roundw
      case rel => exact ⟨k + 1, M, _, _, by omega, hN2, by go_num, rfl, HN3, HO2, HW2, HG2, HC2⟩
      case measure => simp [intOf]; omega
    · obtain rfl : m = k := by omega
      have hcc : ¬ (m : Int) < (m : Int) := by omega
      go_wp2
      go_ret
      have e := HN.out
      subst e
      exact ⟨_, _, rfl, HO.out, HG.out, HC.out⟩

end Go.Proofs.YtfbjlohnbpienaaGreat
