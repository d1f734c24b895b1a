/- Lists of lists in the laws: their sizes, copies, comparisons, marks: contracts. Conditions: lists that can be read, of at most 2 to the 40. -/
import Derived.Test.YtfbjlohnbpienaaTbsE
import Derived.Test.YtfbjlohnbpienaaLawN
namespace Go.Proofs.Ytfbjlohnbpienaa
open Go.ChangeShapes Go.WideShapes Go.ChangeAt Go.RowKit
set_option linter.unusedVariables false
set_option maxRecDepth 100000
set_option linter.unusedSimpArgs false

/-- How long lists are in all. -/
def tot (L : Nat → Nat) : Nat → Nat
  | 0 => 0
  | n + 1 => tot L n + L n
theorem tot_le (L : Nat → Nat) {i n : Nat} (h : i < n) : L i ≤ tot L n := by
  induction n with
  | zero => omega
  | succ n ih =>
    rw [tot]
    by_cases e : i = n
    · subst e; omega
    · have := ih (by omega); omega
theorem tot_mono (L : Nat → Nat) {i n : Nat} (h : i ≤ n) : tot L i ≤ tot L n := by
  induction n with
  | zero => obtain rfl : i = 0 := (by omega); exact Nat.le_refl _
  | succ n ih =>
    by_cases e : i = n + 1
    · subst e; exact Nat.le_refl _
    · have := ih (by omega); rw [tot]; omega

set_option maxHeartbeats 1000000 in
theorem szSS_ok (c : Option Addr) (n cap : Nat) (A : Nat → Option Addr) (L C : Nat → Nat) (f g : Nat → Nat → Int) (l : Int) (w : World) (h : Hid (RowsV w c n A L C f g)) (h0 : (n : Int) + (tot L n : Int) ≤ l) (h1 : l ≤ 1048576) :
    Calls Try.prog 20 #[.slice c n cap, .int .i64 l] w fun e w' => e = .returned (.int .i64 (l - n - (tot L n : Int))) ∧ w' = w := by
  have h2 : ¬ l - (n : Int) < 0 := by omega
  have H0 := hik h0
  have hnn : (n : Int) ≤ 1048576 := by omega
  clear h0
  go_enter Try.func20, Try.ntmps20
  go_wp2
  go_loop [1, 5] (fun v i => ∃ k : Nat, k ≤ n ∧ i = .int .i64 (k : Int) ∧ v = .int .i64 (l - n - (tot L k : Int))) (fun _ i => n - (intOf i).toNat)
  case atStart => exact ⟨0, Nat.zero_le _, rfl, by simp [tot]⟩
  case round =>
    obtain ⟨k, hk, rfl, rfl⟩ := hrel
    by_cases hlt : k < n
    · have hk1 : (k : Int) < (n : Int) := by omega
      have hk0 : (0 : Int) ≤ (k : Int) := by omega
      obtain ⟨xb, xo, ec, hxb, hc, hP⟩ := h.out k hlt
      subst ec
      have hm := tot_mono L (show k + 1 ≤ n by omega)
      rw [tot] at hm
      have hs : ((L k : Nat) : Int) ≤ l - n - (tot L k : Int) := by have := H0.out; omega
      have hs2 : l - n - (tot L k : Int) ≤ 1048576 := by omega
      have hs3 : ¬ l - n - (tot L k : Int) - (L k : Int) < 0 := by omega
      have hst : l - n - (tot L k : Int) - (L k : Int) = l - n - (tot L (k + 1) : Int) := by rw [tot]; omega
      have HST := hik hst
      clear hst hP hm
      go_wp2_with fail
      refine (szExtS_ok (A k) (L k) (C k) (l - n - (tot L k : Int)) _ hs hs2).mono ?_
      rintro e W1 ⟨rfl, hw⟩
      have hw' := hw.symm
      clear hw
      subst hw'
      go_wp2
      go_round
      case rel => exact ⟨k + 1, by omega, by go_num, by rw [HST.out]⟩
      case measure => simp [intOf]; omega
    · obtain rfl : n = k := by omega
      have hcc : ¬ (n : Int) < (n : Int) := by omega
      go_wp2
      go_ret
      exact ⟨rfl, rfl⟩

set_option maxHeartbeats 1000000 in
theorem szSS_no (c : Option Addr) (n cap : Nat) (A : Nat → Option Addr) (L C : Nat → Nat) (f g : Nat → Nat → Int) (l : Int) (w : World) (h : Hid (RowsV w c n A L C f g)) (hL : Hid (∀ i, i < n → (L i : Int) ≤ 9223372036854775807)) (hn : (n : Int) ≤ 9223372036854775807) (h0 : l < (n : Int) + (tot L n : Int)) (h1 : 0 ≤ l) (h2 : l ≤ 1048576) :
    Calls Try.prog 20 #[.slice c n cap, .int .i64 l] w fun e w' => e = .returned (.int .i64 (-1)) ∧ w' = w := by
  have H0 := hik h0
  clear h0
  by_cases hnl : l - (n : Int) < 0
  · go_enter Try.func20, Try.ntmps20
    go_wp2
    go_ret
    exact ⟨rfl, rfl⟩
  · have hnn : (n : Int) ≤ 1048576 := by omega
    go_enter Try.func20, Try.ntmps20
    go_wp2
    go_loop [1, 5] (fun v i => ∃ k : Nat, k ≤ n ∧ i = .int .i64 (k : Int) ∧ v = .int .i64 (l - n - (tot L k : Int)) ∧ Hid ((n : Int) + (tot L k : Int) ≤ l)) (fun _ i => n - (intOf i).toNat)
    case atStart => exact ⟨0, Nat.zero_le _, rfl, by simp [tot], hik (by simp [tot]; omega)⟩
    case round =>
      obtain ⟨k, hk, rfl, rfl, HB⟩ := hrel
      by_cases hlt : k < n
      · have hk1 : (k : Int) < (n : Int) := by omega
        have hk0 : (0 : Int) ≤ (k : Int) := by omega
        obtain ⟨xb, xo, ec, hxb, hc, hP⟩ := h.out k hlt
        subst ec
        have hb := HB.out
        have hs2 : l - n - (tot L k : Int) ≤ 1048576 := by omega
        have hs4 : 0 ≤ l - n - (tot L k : Int) := by omega
        clear hb hP
        by_cases hq : ((L k : Nat) : Int) ≤ l - n - (tot L k : Int)
        · have hs3 : ¬ l - n - (tot L k : Int) - (L k : Int) < 0 := by omega
          have hst : l - n - (tot L k : Int) - (L k : Int) = l - n - (tot L (k + 1) : Int) := by rw [tot]; omega
          have HST := hik hst
          have HB2 := hik (show (n : Int) + (tot L (k + 1) : Int) ≤ l by rw [tot]; omega)
          clear hst
          go_wp2_with fail
          refine (szExtS_ok (A k) (L k) (C k) (l - n - (tot L k : Int)) _ hq hs2).mono ?_
          rintro e W1 ⟨rfl, hw⟩
          have hw' := hw.symm
          clear hw
          subst hw'
          go_wp2
          go_round
          case rel => exact ⟨k + 1, by omega, by go_num, by rw [HST.out], HB2⟩
          case measure => simp [intOf]; omega
        · go_wp2_with fail
          refine (szExtS_no (A k) (L k) (C k) (l - n - (tot L k : Int)) _ (by omega) hs4 (hL.out k hlt)).mono ?_
          rintro e W1 ⟨rfl, hw⟩
          have hw' := hw.symm
          clear hw
          subst hw'
          go_wp2
          go_ret
          exact ⟨rfl, rfl⟩
      · obtain rfl : n = k := by omega
        exact absurd H0.out (by have := HB.out; omega)

/-- make([]T, n), T a slice. -/
theorem wpList_make_rows {P : Program} (w : World) {ops : Array Oper} {rest : List Oper} {o : Oper} {a : Act} {Q : Exit → Act → World → Prop}
    (hg : o.guard = none) (l c : Operand) (t : TypeId) (hop : o.op = Op.makeSlice t l c) (e : TypeId) (i : TypeInfo)
    (h1 : P.underlying t = some (.slice e)) (h2 : P.info? e = some i) (h3 : i.zero = some (.slice none 0 0)) (h4 : i.size = 1)
    (kl kc : IntKind) (L C : Int) (n : Nat) (hl : a.eval l = .int kl L) (hc : a.eval c = .int kc C) (hL : L = (n : Int)) (hC : C = (n : Int)) (b2 : i.bytes * n ≤ 281474976710656) (b3 : n ≤ 9223372036854775807)
    (hK : ∀ w', w'.rowIs w.heap.size e n (fun _ => .slice none 0 0) → Chg nob w w' → wpList P ops Q rest (a.put o.dst (.slice (some ⟨w.heap.size, 0, none⟩) n n)) w') :
    wpList P ops Q (o :: rest) a w := by
  refine wpList_plain hg fun K hK' => ?_
  have hb' : (i.bytes : Int) * (n : Int) ≤ 281474976710656 := by
    have h : ((i.bytes * n : Nat) : Int) ≤ 281474976710656 := by omega
    rwa [Int.natCast_mul] at h
  have hrun := run_make (P := P) w t e i _ h1 h2 h3 kl kc n n (by omega) (Int.le_refl _) hb' (by omega)
  simp only [Int.toNat_natCast, h4, Nat.mul_one] at hrun
  subst hL
  subst hC
  unfold Oper.wp
  simp [execOp, hop, hl, hc, hrun, Result.andThen]
  refine hK' _ _ (hK _ ⟨_, Go.Deep.blk_alloc_new _ _, size_madeCells _ _, fun j hj => ?_⟩ ((Chg.refl _ _).alloc _))
  simp [madeCells, hj, Value.cells, Nat.mod_one]

/-- The first k of lists of lists copied. -/
def cpr (G L : Nat → Nat) (k i : Nat) : Value := if i < k then .slice (some ⟨G i, 0, none⟩) (L i) (L i) else .slice none 0 0
theorem cpr_step (G L : Nat → Nat) (k b i : Nat) : (if i = k then Value.slice (some ⟨b, 0, none⟩) (L k) (L k) else cpr G L k i) = cpr (fun i => if i = k then b else G i) L (k + 1) i := by
  unfold cpr
  by_cases e : i = k
  · subst e; rw [if_pos rfl, if_pos (by omega)]; simp
  · rw [if_neg e]
    by_cases h : i < k
    · rw [if_pos h, if_pos (by omega)]; simp [e]
    · rw [if_neg h, if_neg (by omega)]
/-- A copy of lists of lists: a new row at the heap's end, its lists behind it. -/
def CopiedSS (w : World) (n : Nat) (L : Nat → Nat) (f g : Nat → Nat → Int) (e : Ending) (w' : World) : Prop :=
  ∃ G : Nat → Nat, e = .returned (.slice (some ⟨w.heap.size, 0, none⟩) n n) ∧ w'.rowIs w.heap.size 73 n (cpr G L n) ∧ (∀ i, i < n → w.heap.size < G i ∧ w'.rowIs (G i) 36 (L i * 2) (pf (f i) (g i))) ∧ (∀ i j, i < j → j < n → G i < G j) ∧ Chg nob w w'
theorem CopiedSS.rows {w w' : World} {n : Nat} {L G : Nat → Nat} {f g : Nat → Nat → Int} {b : Nat} (h : w'.rowIs b 73 n (cpr G L n)) (k : ∀ i, i < n → w'.rowIs (G i) 36 (L i * 2) (pf (f i) (g i))) : RowsV w' (some ⟨b, 0, none⟩) n (fun i => some ⟨G i, 0, none⟩) L L f g := by
  intro i hi
  refine ⟨b, 0, rfl, h.lt, ?_, PairV.of_row (k i hi) (Nat.le_refl _)⟩
  rw [Nat.zero_add, h.cell hi]
  unfold cpr
  rw [if_pos hi]

set_option maxHeartbeats 2000000 in
theorem toSS_any (c : Option Addr) (n cap : Nat) (A : Nat → Option Addr) (L C : Nat → Nat) (f g : Nat → Nat → Int) (w : World) (h : Hid (RowsV w c n A L C f g)) (hL : Hid (∀ i, i < n → L i ≤ 1099511627776)) (hn : n ≤ 1099511627776) :
    Calls Try.prog 25 #[.slice c n cap] w fun e w' => CopiedSS w n L f g e w' := by
  obtain ⟨i1, hi, hz0, hz1, hz2⟩ := info_parts infoRow
  have HI := hik hi
  have HZ0 := hik hz0
  have HZ1 := hik hz1
  have hb : i1.bytes * n ≤ 281474976710656 := by rw [hz2]; omega
  clear hi hz0 hz1 hz2
  go_enter Try.func25, Try.ntmps25
  go_wp2_with (at_make; refine wpList_make_rows _ rfl (.tmp 6) (.tmp 6) 35 rfl 73 i1 Try.underlying35 HI.out HZ0.out HZ1.out .i64 .i64 _ _ n rfl rfl rfl rfl hb (by omega) ?_)
  intro w0 hr hk
  have HR0 := hik hr
  have HK0 := hik hk
  clear hb HI HZ0 HZ1 hr hk
  go_wp2
  go_loopw [4] (fun i W => ∃ (k : Nat) (G : Nat → Nat), k ≤ n ∧ i = .int .i64 (k : Int) ∧ Hid (W.rowIs w.heap.size 73 n (cpr G L k)) ∧ Hid (∀ i, i < k → w.heap.size < G i ∧ W.rowIs (G i) 36 (L i * 2) (pf (f i) (g i))) ∧ Hid (∀ i j, i < j → j < k → G i < G j) ∧ Hid (Chg nob w W)) (fun i _ => n - (intOf i).toNat)
  case atStart => exact ⟨0, fun _ => 0, Nat.zero_le _, rfl, hik (HR0.out.congr (fun i _ => by unfold cpr; rw [if_neg (by omega)])), hik (fun i hi => absurd hi (by omega)), hik (fun i j _ hj => absurd hj (by omega)), HK0⟩
  case round =>
    clear HR0 HK0
    obtain ⟨k, G, hk, rfl, HR, HT, HD, HG⟩ := hrel
    rename World => wi
    by_cases hlt : k < n
    · have hk1 : (k : Int) < (n : Int) := by omega
      have hk0 : (0 : Int) ≤ (k : Int) := by omega
      obtain ⟨xb, xo, ec, hxb, hc, hP⟩ := (RowsV.keep h.out HG.out) k hlt
      subst ec
      have PJ := hik hP
      have hsz := HG.out.size
      have hwl : w.heap.size < wi.heap.size := HR.out.lt
      have HL := hik (show ∀ i, i < k → G i < wi.heap.size from fun i hi => (HT.out i hi).2.lt)
      clear hP
      go_wp2_with fail
      refine (toExtS_any (A k) (L k) (C k) (f k) (g k) _ PJ (hL.out k hlt)).mono ?_
      rintro e W1 ⟨rfl, r1, k1⟩
      have HR1 := hik (rowIs_keep HR.out k1)
      have HT1 := hik (show ∀ i, i < k → w.heap.size < G i ∧ W1.rowIs (G i) 36 (L i * 2) (pf (f i) (g i)) from fun i hi => ⟨(HT.out i hi).1, rowIs_keep (HT.out i hi).2 k1⟩)
      have HG1 := hik (HG.out.trans k1)
      have R1 := hik r1
      clear k1 r1 HR HT HG PJ hc
      have g0 := HR1.out.cell hlt
      have f0 := HR1.out.frozen k
      have hgv : cpr G L k k = .slice none 0 0 := by unfold cpr; rw [if_neg (by omega)]
      rw [hgv] at g0
      clear hgv
      have HR2 := hik ((HR1.out.set k (.slice (some ⟨wi.heap.size, 0, none⟩) (L k) (L k))).congr (g := cpr (fun i => if i = k then wi.heap.size else G i) L (k + 1)) (fun i _ => cpr_step G L k wi.heap.size i))
      have HT2 := hik (show ∀ i, i < k + 1 → w.heap.size < (fun i => if i = k then wi.heap.size else G i) i ∧ (W1.setCell ⟨w.heap.size, k, none⟩ (.slice (some ⟨wi.heap.size, 0, none⟩) (L k) (L k))).rowIs ((fun i => if i = k then wi.heap.size else G i) i) 36 (L i * 2) (pf (f i) (g i)) from fun i hi => by
        by_cases e : i = k
        · subst e
          simp only [if_true]
          exact ⟨hwl, R1.out.setOther (a := ⟨w.heap.size, i, none⟩) (show wi.heap.size ≠ w.heap.size by omega) _⟩
        · simp only [e, if_false]
          obtain ⟨q1, q2⟩ := HT1.out i (by omega)
          exact ⟨q1, q2.setOther (a := ⟨w.heap.size, k, none⟩) (show G i ≠ w.heap.size by omega) _⟩)
      have HD2 := hik (show ∀ i j, i < j → j < k + 1 → (fun i => if i = k then wi.heap.size else G i) i < (fun i => if i = k then wi.heap.size else G i) j from fun i j hij hj => by
        have e : ¬ i = k := by omega
        by_cases e2 : j = k
        · simp only [e, e2, if_true, if_false]; exact HL.out i (by omega)
        · simp only [e, e2, if_false]; exact HD.out i j hij (by omega))
      have HG2 := hik (HG1.out.setCell (p := ⟨w.heap.size, k, none⟩) (fun l => absurd l (by simp)) (.slice (some ⟨wi.heap.size, 0, none⟩) (L k) (L k)))
      go_wp2
      go_roundw
      case rel => exact ⟨k + 1, _, by omega, by go_num, HR2, HT2, HD2, HG2⟩
      case measure => simp [intOf]; omega
    · obtain rfl : n = k := by omega
      have hcc : ¬ (n : Int) < (n : Int) := by omega
      go_wp2
      go_ret
      exact ⟨G, rfl, HR.out, HT.out, HD.out, HG.out⟩

set_option maxHeartbeats 2000000 in
theorem eqSS_any (c d : Option Addr) (n cap cap' : Nat) (A A' : Nat → Option Addr) (L C C' : Nat → Nat) (f g f' g' : Nat → Nat → Int) (w : World) (h : Hid (RowsV w c n A L C f g)) (h' : Hid (RowsV w d n A' L C' f' g')) (he : ∀ i, i < n → ∀ j, j < L i → f i j = f' i j ∧ g i j = g' i j) (hL : Hid (∀ i, i < n → L i ≤ 1099511627776)) (hn : n ≤ 1099511627776) :
    Calls Try.prog 34 #[.slice c n cap, .slice d n cap'] w fun e w' => e = .returned (.bool true) ∧ Chg nob w w' := by
  have HE := hik he
  clear he
  go_enter Try.func34, Try.ntmps34
  go_wp2
  go_loopw [5] (fun i W => ∃ k : Nat, k ≤ n ∧ i = .int .i64 (k : Int) ∧ Hid (Chg nob w W)) (fun i _ => n - (intOf i).toNat)
  case atStart => exact ⟨0, Nat.zero_le _, rfl, hik (Chg.refl _ _)⟩
  case round =>
    obtain ⟨k, hk, rfl, HG⟩ := hrel
    rename World => wi
    by_cases hlt : k < n
    · have hk1 : (k : Int) < (n : Int) := by omega
      have hk0 : (0 : Int) ≤ (k : Int) := by omega
      obtain ⟨xb, xo, ec, hxb, x0, hP⟩ := (RowsV.keep h.out HG.out) k hlt
      subst ec
      obtain ⟨yb, yo, ec, hyb, y0, hP'⟩ := (RowsV.keep h'.out HG.out) k hlt
      subst ec
      have PX := hik hP
      have PY := hik hP'
      clear hP hP'
      go_wp2
      have KW := hik ((Chg.refl nob wi).drew1)
      have SA := hik (fun (WW : World) (kW : Chg nob wi WW) => (show (WW.cell? ⟨xb, xo + k, none⟩ = some (.slice (A k) (L k) (C k)) ∧ WW.cell? ⟨yb, yo + k, none⟩ = some (.slice (A' k) (L k) (C' k))) from ⟨kW.see x0, kW.see y0⟩))
      refine wp_region_held_drew (S := fun w' => w'.cell? ⟨xb, xo + k, none⟩ = some (.slice (A k) (L k) (C k)) ∧ w'.cell? ⟨yb, yo + k, none⟩ = some (.slice (A' k) (L k) (C' k))) (by kernel_rfl) ⟨x0, y0⟩ (fun hHeld => ?_)
      refine wpAnyH_take (i := 0) (v := ?_) rfl (by kernel_rfl) (by kernel_rfl) (by kernel_rfl) (fun _ _ _ h => h) (Or.inl ⟨by rfl, ?_⟩) (by assumption) ?_
      rotate_left 1
      · (intro w' hSw; (try dsimp only at hSw); go_simp; try with_reducible rfl)
      try simp only [Act.put, List.setIfInBounds_toArray, List.set_cons_zero, List.set_cons_succ, List.getElem_toArray, List.getElem_cons_zero, List.getElem_cons_succ]
      refine wpAnyH_take (i := 1) (v := ?_) rfl (by kernel_rfl) (by kernel_rfl) (by kernel_rfl) (fun _ _ _ h => h) (Or.inl ⟨by rfl, ?_⟩) (by assumption) ?_
      rotate_left 1
      · (intro w' hSw; (try dsimp only at hSw); go_simp; try with_reducible rfl)
      try simp only [Act.put, List.setIfInBounds_toArray, List.set_cons_zero, List.set_cons_succ, List.getElem_toArray, List.getElem_cons_zero, List.getElem_cons_succ]
      refine wpAnyH_take (i := 2) (v := ?_) rfl (by kernel_rfl) (by kernel_rfl) (by kernel_rfl) (fun _ _ _ h => h) (Or.inl ⟨by rfl, ?_⟩) (by assumption) ?_
      rotate_left 1
      · (intro w' hSw; (try dsimp only at hSw); go_simp; try with_reducible rfl)
      try simp only [Act.put, List.setIfInBounds_toArray, List.set_cons_zero, List.set_cons_succ, List.getElem_toArray, List.getElem_cons_zero, List.getElem_cons_succ]
      refine wpAnyH_take (i := 3) (v := ?_) rfl (by kernel_rfl) (by kernel_rfl) (by kernel_rfl) (fun _ _ _ h => h) (Or.inl ⟨by rfl, ?_⟩) (by assumption) ?_
      rotate_left 1
      · (intro w' hSw; (try dsimp only at hSw); go_simp; try with_reducible rfl)
      try simp only [Act.put, List.setIfInBounds_toArray, List.set_cons_zero, List.set_cons_succ, List.getElem_toArray, List.getElem_cons_zero, List.getElem_cons_succ]
      refine wpAnyH_take (i := 4) (v := ?_) rfl (by kernel_rfl) (by kernel_rfl) (by kernel_rfl) (fun _ _ _ h => h) (Or.inl ⟨by rfl, ?_⟩) (by assumption) ?_
      rotate_left 1
      · (intro w' hSw; (try dsimp only at hSw); go_simp; try with_reducible rfl)
      try simp only [Act.put, List.setIfInBounds_toArray, List.set_cons_zero, List.set_cons_succ, List.getElem_toArray, List.getElem_cons_zero, List.getElem_cons_succ]
      refine wpAnyH_take (i := 5) (v := ?_) rfl (by kernel_rfl) (by kernel_rfl) (by kernel_rfl) (fun _ _ _ h => h) (Or.inl ⟨by rfl, ?_⟩) (by assumption) ?_
      rotate_left 1
      · (intro w' hSw; (try dsimp only at hSw); go_simp; try with_reducible rfl)
      try simp only [Act.put, List.setIfInBounds_toArray, List.set_cons_zero, List.set_cons_succ, List.getElem_toArray, List.getElem_cons_zero, List.getElem_cons_succ]
      refine wpAnyH_take (i := 6) (v := ?_) rfl (by kernel_rfl) (by kernel_rfl) (by kernel_rfl) (fun _ _ _ h => h) (Or.inl ⟨by rfl, ?_⟩) (by assumption) ?_
      rotate_left 1
      · (intro w' hSw; (try dsimp only at hSw); go_simp; try with_reducible rfl)
      try simp only [Act.put, List.setIfInBounds_toArray, List.set_cons_zero, List.set_cons_succ, List.getElem_toArray, List.getElem_cons_zero, List.getElem_cons_succ]
      refine wpAnyH_take (i := 7) (v := ?_) rfl (by kernel_rfl) (by kernel_rfl) (by kernel_rfl) (fun _ _ _ h => h) (Or.inl ⟨by rfl, ?_⟩) (by assumption) ?_
      rotate_left 1
      · (intro w' hSw; (try dsimp only at hSw); go_simp; try with_reducible rfl)
      try simp only [Act.put, List.setIfInBounds_toArray, List.set_cons_zero, List.set_cons_succ, List.getElem_toArray, List.getElem_cons_zero, List.getElem_cons_succ]
      refine wpAnyH_ready (rs := [8]) (by kernel_rfl) (by simp) ?_
      refine AllReadyH.cons rfl (fun K hK => ?_) AllReadyH.nil
      refine stepL_callN 66 #[.tmp 20, .tmp 24] #[73, 73] (by rfl) (by rfl) #[.slice (A k) (L k) (C k), .slice (A' k) (L k) (C' k)] (by simp only [List.map_toArray, List.map_cons, List.map_nil] <;> rfl) (run_go Try.func66 (by kernel_rfl) (by kernel_rfl) _ _) (eqExtS_any (A k) (A' k) (L k) (L k) (C k) (C' k) (f k) (g k) (f' k) (g' k) _ (hik (PX.out.keep KW.out)) (hik (PY.out.keep KW.out)) rfl (HE.out k hlt) (hL.out k hlt)) ?_
      rintro e U1 ⟨he, kk⟩
      refine ⟨_, he, ?_⟩
      replace KW := hik (KW.out.trans kk)
      refine hK.out _ _ (SA.out _ KW.out) (fun hHeld => ?_)
      clear hK K
      try simp only [Act.put, List.setIfInBounds_toArray, List.set_cons_zero, List.set_cons_succ, List.getElem_toArray, List.getElem_cons_zero, List.getElem_cons_succ]
      clear he kk
      refine wpAnyH_take (i := 9) (v := ?_) rfl (by kernel_rfl) (by kernel_rfl) (by kernel_rfl) (fun _ _ _ h => h) (Or.inl ⟨by rfl, ?_⟩) (by assumption) ?_
      rotate_left 1
      · (intro w' hSw; (try dsimp only at hSw); go_simp; try with_reducible rfl)
      try simp only [Act.put, List.setIfInBounds_toArray, List.set_cons_zero, List.set_cons_succ, List.getElem_toArray, List.getElem_cons_zero, List.getElem_cons_succ]
      refine wpAnyH_done (by kernel_rfl) ?_ _
      have GE := hik (HG.out.trans KW.out)
      clear KW SA hHeld x0 y0 PX PY HG
      go_wp2
      go_roundw
      case rel => exact ⟨k + 1, by omega, by go_num, GE⟩
      case measure => simp [intOf]; omega
    · obtain rfl : n = k := by omega
      have hcc : ¬ (n : Int) < (n : Int) := by omega
      go_wp2
      go_ret
      exact ⟨rfl, HG.out⟩

/-- The blocks of lists. -/
def Mks (G : Nat → Nat) (n b : Nat) : Prop := ∃ i, i < n ∧ b = G i
theorem OwnE.pastS {u w w' : World} {B n m : Nat} {c : Option Addr} {f g : Nat → Int} {G : Nat → Nat} (h0 : OwnE u B c n f g) (h : OwnE w B c n f g) (k : Chg (Mks G m) w w') (hG : ∀ i, i < m → u.heap.size ≤ G i) : OwnE w' B c n f g := by
  rcases h0 with rfl | ⟨b0, N0, h0, rfl, hB0, hr0, _, _⟩
  · exact OwnE.zero
  · exact h.chg k (fun b _ ec ⟨i, hi, e⟩ => by
      cases ec
      have := hG i hi
      have := hr0.lt
      omega)
theorem OwnE.aheadS {w w' : World} {B n m : Nat} {c : Option Addr} {f g : Nat → Int} {G : Nat → Nat} (h : OwnE w B c n f g) (k : Chg (Mks G m) w w') (hG : ∀ i, i < m → G i < B) : OwnE w' B c n f g :=
  h.chg k (fun b hb _ ⟨i, hi, e⟩ => by have := hG i hi; omega)
theorem near_mks {w W W' : World} {m : Nat} {G : Nat → Nat} (h : Chg nob w W) (k : Chg (Mks G m) W W') (hG : ∀ i, i < m → w.heap.size ≤ G i) : Chg nob w W' := h.near k (fun b ⟨i, hi, e⟩ => by rw [e]; exact hG i hi)
set_option maxHeartbeats 2000000 in
theorem markSS_own (b n : Nat) (L G : Nat → Nat) (f g : Nat → Nat → Int) (q : Int) (w : World) (hb : Hid (w.rowIs b 73 n (cpr G L n))) (h : Hid (∀ i, i < n → b < G i ∧ w.rowIs (G i) 36 (L i * 2) (pf (f i) (g i)))) (hd : Hid (∀ i j, i < j → j < n → G i < G j)) (hT : Hid (tot L n ≤ 1048576)) (hn : n ≤ 1048576) (q0 : 0 ≤ q) (q1 : q ≤ 1048576) :
    Calls Try.prog 38 #[.slice (some ⟨b, 0, none⟩) n n, .int .i64 q] w fun e w' => e = .returned (.int .i64 (q + 2 * (tot L n : Int))) ∧ Chg (Mks G n) w w' := by
  go_enter Try.func38, Try.ntmps38
  go_wp2
  go_loopw [1, 5] (fun v i W => ∃ (k : Nat), k ≤ n ∧ i = .int .i64 (k : Int) ∧ v = .int .i64 (q + 2 * (tot L k : Int)) ∧ Hid (W.rowIs b 73 n (cpr G L n)) ∧ Hid (∀ i, i < n → ∃ f' g', OwnE W (G i) (some ⟨G i, 0, none⟩) (L i) f' g') ∧ Hid (Chg (Mks G n) w W)) (fun _ i _ => n - (intOf i).toNat)
  case atStart => exact ⟨0, Nat.zero_le _, rfl, by simp [tot], hb, hik (fun i hi => ⟨_, _, OwnE.of_row (h.out i hi).2 (Nat.le_refl _)⟩), hik (Chg.refl _ _)⟩
  case round =>
    obtain ⟨k, hk, rfl, rfl, HR, HT, HG⟩ := hrel
    rename World => wi
    by_cases hlt : k < n
    · have hk1 : (k : Int) < (n : Int) := by omega
      have hk0 : (0 : Int) ≤ (k : Int) := by omega
      have hm := tot_mono L (show k + 1 ≤ n by omega)
      rw [tot] at hm
      have hTT := hT.out
      have hlk : L k ≤ 1099511627776 := by omega
      have hq2 : 0 ≤ q + 2 * (tot L k : Int) := by omega
      have hq3 : q + 2 * (tot L k : Int) ≤ 1099511627776 := by omega
      have hst : q + 2 * (tot L k : Int) + 2 * (L k : Int) = q + 2 * (tot L (k + 1) : Int) := by rw [tot]; omega
      have HST := hik hst
      have hc := HR.out.cell hlt
      have hcv : cpr G L n k = .slice (some ⟨G k, 0, none⟩) (L k) (L k) := by unfold cpr; rw [if_pos hlt]
      rw [hcv] at hc
      obtain ⟨f', g', hr⟩ := HT.out k hlt
      have hbl : b < wi.heap.size := HR.out.lt
      have HO := hik hr
      clear hm hTT hst hcv hr
      go_wp2_with fail
      refine (markExtS_own (G k) (some ⟨G k, 0, none⟩) (L k) (L k) f' g' (q + 2 * (tot L k : Int)) _ HO hlk hq2 hq3).mono ?_
      rintro e W1 ⟨rfl, o1, k1⟩
      have kG : Chg (fun x => x = G k) wi W1 := k1.mono (fun i _ m => by have e2 := m.2.1; cases e2; rfl)
      have HR1 := hik (rowIs_chg HR.out kG (by have := (h.out k hlt).1; omega))
      have HT1 := hik (show ∀ i, i < n → ∃ f' g', OwnE W1 (G i) (some ⟨G i, 0, none⟩) (L i) f' g' from fun i hi => by
        by_cases e : i = k
        · subst e
          exact ⟨_, _, o1⟩
        · obtain ⟨f2, g2, r2⟩ := HT.out i hi
          exact ⟨f2, g2, r2.chg kG (fun b' _ ec => by
            cases ec
            rcases (show i < k ∨ k < i by omega) with l | l
            · have := hd.out i k l hlt; omega
            · have := hd.out k i l hi; omega)⟩)
      have HG1 := hik (HG.out.trans (kG.mono (fun i _ e => ⟨k, hlt, e⟩)))
      clear o1 k1 kG HO HR HT HG hc
      go_wp2
      go_roundw
      case rel => exact ⟨k + 1, by omega, by go_num, by rw [HST.out], HR1, HT1, HG1⟩
      case measure => simp [intOf]; omega
    · obtain rfl : n = k := by omega
      have hcc : ¬ (n : Int) < (n : Int) := by omega
      go_wp2
      go_ret
      exact ⟨rfl, HG.out⟩
end Go.Proofs.Ytfbjlohnbpienaa
