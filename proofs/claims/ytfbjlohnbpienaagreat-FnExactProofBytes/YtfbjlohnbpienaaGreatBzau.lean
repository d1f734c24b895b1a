/- Several texts in one: append(b, s...), s a text, onto a row of a call's own: where the new slice lies: a law. No program is named here; no condition but those that are stated. · What ExtBytes answers: a contract. Condition: a row that can be read. -/
import Derived.Lib.AppendStr
import Derived.Deep.AppendLies
import Derived.Test.YtfbjlohnbpienaaGreatBzab
import Derived.Deep.RegionWith
namespace Go.Proofs.YtfbjlohnbpienaaGreat
open Go.Lib

section
variable {P : Program} (w : World)
theorem run_append_text_lies (t u ty : TypeId) (base : Nat) (e : TypeId) (i : TypeInfo) (ht : P.underlying t = some (.slice e)) (hu : P.underlying u = some .string) (hi : P.info? e = some i) (hz : i.zero = some (.int .u8 0))
    (hsize : i.size = 1) (hby : i.bytes = 1) (v : Value) (n : Nat) (xs : List Value) (hown : w.ownsRow base e 1 v n xs) (s : ByteArray) (hs : 0 < s.size)
    (h63 : n + s.size ≤ maxLen) (hbytes : n + s.size ≤ 140737488355328) (hbase : base ≤ w.heap.size) :
    ∃ g cap w', (Builtin.append_ #[t, u] ty #[v, .string s]).run P w = .ok (.slice (some ⟨g, 0, none⟩) (n + s.size) cap) w' ∧
      w'.ownsRow base e 1 (.slice (some ⟨g, 0, none⟩) (n + s.size) cap) (n + s.size) (xs ++ strCells s) ∧ w.grownBy w' v.ownBlock ∧ (v.ownBlock = some g ∨ g = w.heap.size) := by
  obtain ⟨v', w', hr, h2, h3, _⟩ := run_append_own_string (P := P) w base t u ty e i ht hu hi hz hsize hby v n xs hown s h63 hbytes hbase
  obtain ⟨g, cap, rfl, _, hlt⟩ := h2.form (by omega)
  refine ⟨g, cap, w', hr, h2, h3, ?_⟩
  rcases hown.2 with ⟨rfl, rfl⟩ | ⟨g0, cap0, cur, rfl, hbg, hg, hnc, hcm, hcs, htake⟩
  · have hq := run_append_nil_string (P := P) w t u ty e i (.int .u8 0) ht hu hi hz s hs (by simp only [maxLen] at h63; omega) (by rw [hby]; omega)
    rw [hq] at hr
    injection hr with hv _
    injection hv with hc _ _
    injection hc with hc
    injection hc with hb _ _
    exact .inr hb.symm
  · have hxl : xs.length = n := by simpa using hown.1
    by_cases hroom : n + s.size ≤ cap0
    · have hcs' : cur.size = cap0 := by simpa using hcs
      have hq := run_append_room_string (P := P) w t u ty e i ht hu hi hsize g0 n cap0 cur hg s hroom (by omega)
      rw [hq] at hr
      injection hr with hv _
      injection hv with hc _ _
      injection hc with hc
      injection hc with hb _ _
      exact .inl (by simp [Value.ownBlock, hb])
    · have holds : ∀ j u, xs[j]? = some u → w.cell? ((⟨g0, 0, none⟩ : Addr).add j) = some u := hown.cells (g := g0) rfl
      have hq := run_append_grow_string (P := P) w t u ty e i (.int .u8 0) ht hu hi hz ⟨g0, 0, none⟩ n cap0 xs (by rw [hsize]; simpa using hxl) holds s (by omega) (by simp only [maxLen] at h63; omega) (by rw [hby]; exact growslice_fits (by omega) (by omega))
      rw [hq] at hr
      injection hr with hv _
      injection hv with hc _ _
      injection hc with hc
      injection hc with hb _ _
      exact .inr hb.symm
theorem wpList_append_text_lies {ops : Array Oper} {rest : List Oper} {o : Oper} {a : Act} {Q : Exit → Act → World → Prop} (hgd : o.guard = none) (sl x : Operand) (t u : TypeId)
    (ho : o.op = .call { callee := .builtin .append, args := #[sl, x], argTypes := #[t, u] })
    (base : Nat) (e : TypeId) (i : TypeInfo) (ht : P.underlying t = some (.slice e)) (hu : P.underlying u = some .string) (hi : P.info? e = some i) (hz : i.zero = some (.int .u8 0))
    (hsize : i.size = 1) (hby : i.bytes = 1)
    (v : Value) (n : Nat) (xs : List Value) (hs : a.eval sl = v) (hown : w.ownsRow base e 1 v n xs) (s : ByteArray) (hx : a.eval x = .string s) (hsz : 0 < s.size)
    (h63 : n + s.size ≤ maxLen) (hbytes : n + s.size ≤ 140737488355328) (hbase : base ≤ w.heap.size)
    (h : ∀ g cap w', w'.ownsRow base e 1 (.slice (some ⟨g, 0, none⟩) (n + s.size) cap) (n + s.size) (xs ++ strCells s) → w.grownBy w' v.ownBlock → (v.ownBlock = some g ∨ g = w.heap.size) → wpList P ops Q rest (a.put o.dst (.slice (some ⟨g, 0, none⟩) (n + s.size) cap)) w') : wpList P ops Q (o :: rest) a w := by
  refine wpList_plain hgd fun K hK => ?_
  obtain ⟨g, cap, w', hr, h2, h3, h4⟩ := run_append_text_lies (P := P) w t u o.type base e i ht hu hi hz hsize hby v n xs hown s hsz h63 hbytes hbase
  unfold Oper.wp execOp
  simp only [ho, resolve, invoke, builtin, Sem.run_bind, Sem.run_pure, Result.andThen_ok, List.map_toArray, List.map_cons, List.map_nil, hs, hx, hr]
  exact hK _ _ (h g cap w' h2 h3 h4)
end

end Go.Proofs.YtfbjlohnbpienaaGreat

namespace Go.Proofs.YtfbjlohnbpienaaGreat
open Go.ChangeShapes Go.WideShapes Go.ChangeAt Go.RowKit
set_option linter.unusedVariables false
set_option linter.unusedSimpArgs false

set_option maxHeartbeats 1000000 in
theorem extBytes_any (c : Option Addr) (n cap : Nat) (f g : Nat → Int) (w : World) (h : Hid (PairV w c n f g)) (hn : n ≤ 1099511627776) :
    Calls Tryz.prog 56 #[.slice c n cap] w fun e w' => EAns w n f g e w' := by
  by_cases hl : 4096 < n
  · have hl' : 4096 < (n : Int) := by omega
    have HB := hide (show bc f g n = 2 by simp [bc, hl])
    go_enter Tryz.func56, Tryz.ntmps56
    go_wp2
    go_ret2
    exact EAns.no HB.out (by omega) rfl (Chg.refl _ _)
  have hl' : ¬ 4096 < (n : Int) := by omega
  cases ho : okP f g n
  · have HB := hide (show bc f g n = 1 by simp [bc, hl, ho])
    go_enter Tryz.func56, Tryz.ntmps56
    go_wp2_with fail
    refine (extsOK_any c n cap f g _ h hn).mono ?_
    rintro e w1 ⟨rfl, k1⟩
    go_wp2
    go_ret2
    exact EAns.no HB.out (by omega) rfl k1
  have HB := hide (show bc f g n = 0 by simp [bc, hl, ho])
  have HOK := hide ho
  obtain ⟨i0, hi, hz0, hz1, hz2⟩ := info_parts infoU8
  have HI := hide hi
  have HZ0 := hide hz0
  have HZ1 := hide hz1
  have hb : i0.bytes * (n * 8) ≤ 281474976710656 := by rw [hz2]; omega
  clear hi hz0 hz1 hz2
  go_enter Tryz.func56, Tryz.ntmps56
  go_wp2_with fail
  refine (extsOK_any c n cap f g _ h hn).mono ?_
  rintro e w1 ⟨rfl, k1⟩
  have K1 := hide k1
  clear k1
  go_wp2_with (at_make; refine wpList_make_own _ rfl (.const (.int .i64 0)) (.tmp 15) 38 rfl w1.heap.size 5 i0 (.int .u8 0) 1 Tryz.underlying38 HI.out HZ0.out HZ1.out .i64 .i64 _ (n * 8) rfl rfl (by omega) hb (by unfold maxLen; omega) (Nat.le_refl _) ?_)
  intro w2 hown hgr
  have HW0 := hide hown
  have K2 := hide (K1.out.grown hgr (fun b e _ => by cases e))
  clear hown hgr hb HI HZ0 HZ1
  go_wp2
  go_loopw [4, 19] (fun v i W => ∃ k : Nat, k ≤ n ∧ i = .int .i64 k ∧ v = .slice (some ⟨w1.heap.size, 0, none⟩) (k * 8) (n * 8) ∧ Hid (W.ownsRow w1.heap.size 5 1 (.slice (some ⟨w1.heap.size, 0, none⟩) (k * 8) (n * 8)) (k * 8) ((List.range (k * 8)).map (bvl f g))) ∧ Hid (Chg nob w W)) (fun _ i _ => n - (intOf i).toNat)
  case atStart => exact ⟨0, Nat.zero_le _, rfl, rfl, HW0, K2⟩
  case round =>
    obtain ⟨k, hk, rfl, rfl, HW, HC⟩ := hrel
    by_cases hlt : k < n
    · obtain ⟨xb, xo, rfl, hxb, hx0, hx1⟩ := (h.out.keep HC.out) k hlt
      have ee := okP_all f g n HOK.out k hlt
      have a0 := fok_lo (eok_a ee)
      have a1 := fok_hi (eok_a ee)
      have b0 := fok_lo (eok_b ee)
      have b1 := fok_hi (eok_b ee)
      clear ee
      have hb1 : w1.heap.size < wr.heap.size := (HW.out.lt w1.heap.size rfl).2
      have hne : ¬ wr.heap.size = w1.heap.size := by omega
      have hw1 := K1.out.size
      have s0 : (wr.alloc (.cells #[.int .i64 (f k), .int .i64 (g k)] 42)).drew.cell? ⟨wr.heap.size, 0, none⟩ = some (.int .i64 (f k)) := by go_simp
      have s1 : (wr.alloc (.cells #[.int .i64 (f k), .int .i64 (g k)] 42)).drew.cell? ⟨wr.heap.size, 1, none⟩ = some (.int .i64 (g k)) := by go_simp
      have HS0 := hide s0
      have HS1 := hide s1
      clear s0 s1
      go_wp2
      go_region_held3 (fun w' => w'.cell? ⟨wr.heap.size, 0, none⟩ = some (.int .i64 (f k)) ∧ w'.cell? ⟨wr.heap.size, 1, none⟩ = some (.int .i64 (g k))) (first | with_reducible exact ⟨HS0.out, HS1.out⟩ | with_reducible exact ⟨k2.lookP hne (k1.lookP hne HS0.out), k2.lookP hne (k1.lookP hne HS1.out)⟩ | with_reducible exact ⟨k1.lookP hne HS0.out, k1.lookP hne HS1.out⟩) (first | (go_at_call_of 58 (Value.int IntKind.i64 (f k)); refine (appendWord_any w1.heap.size w1.heap.size (k * 8) (n * 8) _ (f k) _ (hide ((HW.out.alloc _).drew)) (by simp; omega) (by omega) a0 a1).mono ?_; rintro e w3 ⟨rfl, o1, k1⟩; have HO1 : Hid (w3.ownsRow w1.heap.size 5 1 (.slice (some ⟨w1.heap.size, 0, none⟩) (k * 8 + 4) (n * 8)) (k * 8 + 4) ((List.range (k * 8 + 4)).map (bvl f g))) := hide (by rw [← bytes_a]; exact o1); have hs1 : wr.heap.size + 1 ≤ w3.heap.size := (by have := k1.size; simpa using this); clear o1) | (go_at_call_of 58 (Value.int IntKind.i64 (g k)); refine (appendWord_any w1.heap.size w1.heap.size (k * 8 + 4) (n * 8) _ (g k) _ HO1 (by omega) (by omega) b0 b1).mono ?_; rintro e w4 ⟨rfl, o2, k2⟩; have HO2 : Hid (w4.ownsRow w1.heap.size 5 1 (.slice (some ⟨w1.heap.size, 0, none⟩) (k * 8 + 4 + 4) (n * 8)) (k * 8 + 4 + 4) ((List.range ((k + 1) * 8)).map (bvl f g))) := hide (by rw [← bytes_b]; exact o2); clear o2))
      have HC2 : Hid (Chg nob w w4) := hide ((((HC.out.alloc _).drew.wide.trans k1).trans k2).mono (fun i hi e => by omega))
      clear k1 k2
      go_wp2
      go_roundw
      case rel => exact ⟨k + 1, by omega, by go_num, by rw [show (k + 1) * 8 = k * 8 + 4 + 4 by omega], hide (by have q := HO2.out; rw [show k * 8 + 4 + 4 = (k + 1) * 8 by omega] at q; exact q), HC2⟩
      case measure => simp [intOf]; omega
    · obtain rfl : k = n := by omega
      go_wp2
      go_ret2
      exact .inr ⟨HB.out, w1.heap.size, K1.out.size, rfl, rowIs_of_owns HW.out, HC.out⟩


end Go.Proofs.YtfbjlohnbpienaaGreat
