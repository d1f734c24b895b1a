/- Several texts in one: The program's numbers as four bytes: contracts. Conditions: numbers below the prime. · What the program's look at sources answers: a contract. Condition: rows that can be read. · What the program's copies of sources are, and its new sources: contracts. Conditions: rows that can be read, the tables hold the shifts and the rounds' constants. · The least nonce that does, and whether one does, by the model, with their codes: contracts. Conditions: rows that can be read. -/
import Derived.Test.YtkpohajmcngjcaaGreatDoorBzbb
import Derived.Test.YtkpohajmcngjcaaGreatDoorBzae
import Derived.Test.YtkpohajmcngjcaaGreatDoorBzaz
import Derived.Lib.SliceRun
import Derived.Test.YtkpohajmcngjcaaGreatDoorBzbg
namespace Go.Proofs.YtkpohajmcngjcaaGreatDoor
open Go.ChangeShapes Go.WideShapes Go.ChangeAt Go.RowKit
set_option linter.unusedVariables false
set_option maxRecDepth 100000
set_option linter.unusedSimpArgs false

theorem owns_nil (w : World) (B : Nat) (t : TypeId) (z : Nat) : w.ownsRow B t z (.slice none 0 0) 0 [] := ⟨by simp, .inl ⟨rfl, rfl⟩⟩

set_option maxHeartbeats 1000000 in
theorem appendWord_nil (a : Int) (w : World) (a0 : 0 ≤ a) (a1 : a < 2130706433) :
    Calls Tryz.prog 108 #[.slice none 0 0, .int .i64 a] w fun e w' => Four w a e w' := by
  obtain ⟨i0, hi, hz0, hz1, hz2⟩ := info_parts infoU8
  have HI := hide hi
  have HZ0 := hide hz0
  have HZ1 := hide hz1
  have HZ2 := hide hz2
  clear hi hz0 hz1 hz2
  go_enter Tryz.func108, Tryz.ntmps108
  go_wp2_with (at_builtin; refine wpList_append_own _ rfl (.tmp 5) (.tmp 17) 53 rfl w.heap.size 5 i0 (.int .u8 0) 1 1 Tryz.underlying53 HI.out HZ0.out HZ1.out HZ2.out rfl (by decide) _ 0 _ rfl (owns_nil _ _ _ _) ⟨_, 0, none⟩ 4 4 (wv a) rfl rfl ?c1 ?c2 ?c3 ?c4 ?c5 ?c6)
  case c1 =>
    intro j u hj
    match j, hj with
    | 0, hj => simp [wv, wb] at hj; subst hj; simp [Addr.add]; omega
    | 1, hj => simp [wv, wb] at hj; subst hj; simp [Addr.add]
    | 2, hj => simp [wv, wb] at hj; subst hj; simp [Addr.add]
    | 3, hj => simp [wv, wb] at hj; subst hj; simp [Addr.add]
    | j + 4, hj => simp [wv] at hj
  case c2 => intro u hu; simp [wv] at hu; rcases hu with rfl | rfl | rfl | rfl <;> rfl
  case c3 => unfold maxLen; omega
  case c4 => omega
  case c5 => simp
  case c6 =>
    intro v' w1 hown hgr _
    have HO : Hid (w1.ownsRow w.heap.size 5 1 v' 4 (wv a)) := hik (by simpa using hown)
    have HG := hik (((Chg.refl nob w).alloc _).grown hgr (fun b e _ => by cases e))
    clear hown hgr
    go_wp2
    go_ret
    exact four_of HO.out HG.out

set_option maxHeartbeats 1000000 in
theorem wordText_any (a : Int) (w : World) (a0 : 0 ≤ a) (a1 : a < 2130706433) :
    Calls Tryz.prog 120 #[.int .i64 a] w fun e w' => e = .returned (.string (be4 a)) ∧ Chg nob w w' := by
  go_enter Tryz.func120, Tryz.ntmps120
  go_wp2_with fail
  refine (appendWord_nil a _ a0 a1).mono ?_
  rintro e W1 ⟨b1, p1, hb1, rfl, hcells, k1⟩
  have K1 := hik k1
  have hcv := convB (some ⟨b1, 0, none⟩) 4 p1 (wb a) W1 (four_row (World.block_lt_of_cell? W1 _ (hcells 0 _ rfl)) hcells)
  have hcv : (convert 53 9 (.slice (some ⟨b1, 0, none⟩) 4 p1)).run Tryz.prog W1 = .ok (.string (be4 a)) W1 := hcv
  clear hcells k1 hb1
  go_wp2
  go_ret
  exact ⟨rfl, K1.out⟩

end Go.Proofs.YtkpohajmcngjcaaGreatDoor

namespace Go.Proofs.YtkpohajmcngjcaaGreatDoor
open Go.ChangeShapes Go.WideShapes Go.ChangeAt Go.RowKit
set_option linter.unusedVariables false
set_option maxRecDepth 100000
set_option linter.unusedSimpArgs false

theorem inW_no {n a b : Int} (h : ¬ (a ≤ n ∧ n ≤ b)) : inW n a b = false := decide_eq_false h
theorem inW_yes {n a b : Int} (h : a ≤ n ∧ n ≤ b) : inW n a b = true := decide_eq_true h

set_option maxHeartbeats 2000000 in
theorem sourceOK_any (c : Option Addr) (len cap : Nat) (at' : Int) (st : ByteArray) (ct : Int) (f g : Nat → Int) (w : World) (h : Hid (PairV w c len f g)) (hl : (len : Int) ≤ 9223372036854775807) (hs : (st.size : Int) ≤ 9223372036854775807) :
    Calls Tryz.prog 75 #[.agg #[.slice c len cap, .int .i64 at', .string st, .int .i64 ct]] w fun e w' => e = .returned (.bool (sokb f g len at' st ct)) ∧ Chg nob w w' := by
  by_cases h1 : (len : Int) ≤ 64
  · have e1 : decide (len ≤ 64) = true := decide_eq_true (by omega)
    have hl40 : len ≤ 1099511627776 := by omega
    cases h2 : okP f g len
    · have E := hik (show sokb f g len at' st ct = false by unfold sokb; rw [h2]; simp)
      go_enter Tryz.func75, Tryz.ntmps75
      go_wp2_with (go_at_call 51; refine (extsOK_any c len cap f g _ (hik (h.out.keep ((Chg.refl nob w).alloc _))) hl40).mono ?_; rintro e W1 ⟨he, k1⟩; rw [h2] at he; subst he; have G1 := hik (((Chg.refl nob w).alloc (.cells #[.slice c len cap, .int .i64 at', .string st, .int .i64 ct] 35)).trans k1); obtain ⟨hc1, _, _⟩ := kcell k1 (w.heap.size + 1) (by simp); clear k1)
      go_ret
      exact ⟨by rw [E.out]; rfl, G1.out⟩
    by_cases h4 : (st.size : Int) = 32
    · have e4 : decide (st.size = 32) = true := decide_eq_true (by omega)
      by_cases a0 : 0 ≤ at'
      · by_cases a1 : at' ≤ 1000000
        · have e3 : inW at' 0 1000000 = true := inW_yes ⟨a0, a1⟩
          by_cases c0 : 0 ≤ ct
          · have E := hik (show sokb f g len at' st ct = decide (ct ≤ 1000000) by
              unfold sokb inW
              rw [e1, h2, e4]
              simp [a0, a1, c0])
            go_enter Tryz.func75, Tryz.ntmps75
            go_wp2_with (go_at_call 51; refine (extsOK_any c len cap f g _ (hik (h.out.keep ((Chg.refl nob w).alloc _))) hl40).mono ?_; rintro e W1 ⟨he, k1⟩; rw [h2] at he; subst he; have G1 := hik (((Chg.refl nob w).alloc (.cells #[.slice c len cap, .int .i64 at', .string st, .int .i64 ct] 35)).trans k1); obtain ⟨hc1, _, _⟩ := kcell k1 (w.heap.size + 1) (by simp); clear k1)
            go_ret
            exact ⟨by rw [E.out]; rfl, G1.out⟩
          · have E := hik (show sokb f g len at' st ct = false by unfold sokb; rw [inW_no (n := ct) (fun x => c0 x.1)]; simp)
            go_enter Tryz.func75, Tryz.ntmps75
            go_wp2_with (go_at_call 51; refine (extsOK_any c len cap f g _ (hik (h.out.keep ((Chg.refl nob w).alloc _))) hl40).mono ?_; rintro e W1 ⟨he, k1⟩; rw [h2] at he; subst he; have G1 := hik (((Chg.refl nob w).alloc (.cells #[.slice c len cap, .int .i64 at', .string st, .int .i64 ct] 35)).trans k1); obtain ⟨hc1, _, _⟩ := kcell k1 (w.heap.size + 1) (by simp); clear k1)
            go_ret
            exact ⟨by rw [E.out]; rfl, G1.out⟩
        · have E := hik (show sokb f g len at' st ct = false by unfold sokb; rw [inW_no (n := at') (fun x => a1 x.2)]; simp)
          go_enter Tryz.func75, Tryz.ntmps75
          go_wp2_with (go_at_call 51; refine (extsOK_any c len cap f g _ (hik (h.out.keep ((Chg.refl nob w).alloc _))) hl40).mono ?_; rintro e W1 ⟨he, k1⟩; rw [h2] at he; subst he; have G1 := hik (((Chg.refl nob w).alloc (.cells #[.slice c len cap, .int .i64 at', .string st, .int .i64 ct] 35)).trans k1); obtain ⟨hc1, _, _⟩ := kcell k1 (w.heap.size + 1) (by simp); clear k1)
          go_ret
          exact ⟨by rw [E.out]; rfl, G1.out⟩
      · have E := hik (show sokb f g len at' st ct = false by unfold sokb; rw [inW_no (n := at') (fun x => a0 x.1)]; simp)
        go_enter Tryz.func75, Tryz.ntmps75
        go_wp2_with (go_at_call 51; refine (extsOK_any c len cap f g _ (hik (h.out.keep ((Chg.refl nob w).alloc _))) hl40).mono ?_; rintro e W1 ⟨he, k1⟩; rw [h2] at he; subst he; have G1 := hik (((Chg.refl nob w).alloc (.cells #[.slice c len cap, .int .i64 at', .string st, .int .i64 ct] 35)).trans k1); obtain ⟨hc1, _, _⟩ := kcell k1 (w.heap.size + 1) (by simp); clear k1)
        go_ret
        exact ⟨by rw [E.out]; rfl, G1.out⟩
    · have E := hik (show sokb f g len at' st ct = false by
        have e4 : decide (st.size = 32) = false := decide_eq_false (by omega)
        unfold sokb; rw [e4]; simp)
      go_enter Tryz.func75, Tryz.ntmps75
      go_wp2_with (go_at_call 51; refine (extsOK_any c len cap f g _ (hik (h.out.keep ((Chg.refl nob w).alloc _))) hl40).mono ?_; rintro e W1 ⟨he, k1⟩; rw [h2] at he; subst he; have G1 := hik (((Chg.refl nob w).alloc (.cells #[.slice c len cap, .int .i64 at', .string st, .int .i64 ct] 35)).trans k1); obtain ⟨hc1, _, _⟩ := kcell k1 (w.heap.size + 1) (by simp); clear k1)
      go_ret
      exact ⟨by rw [E.out]; rfl, G1.out⟩
  · have E := hik (show sokb f g len at' st ct = false by
      have e1 : decide (len ≤ 64) = false := decide_eq_false (by omega)
      unfold sokb; rw [e1]; rfl)
    go_enter Tryz.func75, Tryz.ntmps75
    go_wp2
    go_ret
    exact ⟨by rw [E.out]; rfl, (Chg.refl _ _).alloc _⟩

end Go.Proofs.YtkpohajmcngjcaaGreatDoor

namespace Go.Proofs.YtkpohajmcngjcaaGreatDoor
open Go.ChangeShapes Go.WideShapes Go.ChangeAt Go.RowKit
set_option linter.unusedVariables false
set_option maxRecDepth 100000
set_option linter.unusedSimpArgs false

set_option maxHeartbeats 1000000 in
theorem clone_any (c : Option Addr) (n cap : Nat) (f g : Nat → Int) (w : World) (h : Hid (PairV w c n f g)) (hn : n ≤ 1099511627776) :
    Calls Tryz.prog 133 #[.slice c n cap] w fun e w' => ClAns w n f g e w' := by
  obtain ⟨i0, hi, hz0, hz1, hz2⟩ := info_parts infoExt
  have HI := hik hi
  have HZ0 := hik hz0
  have HZ1 := hik hz1
  have HZ2 := hik hz2
  clear hi hz0 hz1 hz2
  have qT : ∀ (w : World) (a : Option Addr) (n c n' c' : Nat), (binOp .eql 33 (.slice a n c) (.slice none n' c')).run Tryz.prog w = .ok (.bool a.isNone) w := fun w a n c n' c' => Lib.run_eql_slice_nil w _ _ a n c n' c' Tryz.underlying33
  cases c with
  | none =>
    have h0 : n = 0 := by
      by_cases e : n = 0
      · exact e
      · obtain ⟨xb, xo, ex, _⟩ := h.out 0 (by omega)
        cases ex
    subst h0
    go_enter Tryz.func133, Tryz.ntmps133
    go_wp2
    go_ret
    exact ⟨_, _, rfl, .inl rfl, Chg.refl _ _⟩
  | some ad =>
    go_enter Tryz.func133, Tryz.ntmps133
    go_wp2_with (at_builtin; refine wpList_append_pairs _ (.tmp 5) (.tmp 6) 33 rfl rfl i0 Tryz.underlying33 HI.out HZ0.out HZ1.out HZ2.out w.heap.size (by simp) rfl (some ad) n cap f g rfl (h.out.keep ((Chg.refl nob w).alloc _)) hn ?_)
    intro c' cap' w1 ho hle hm k1
    have HO := hik (ho.low (B' := w.heap.size) (by simp))
    have K1 := hik (((Chg.refl nob w).alloc _).trans k1)
    clear ho hle hm k1 qT
    go_wp2
    go_ret
    exact ⟨_, _, rfl, HO.out, K1.out⟩

set_option maxRecDepth 100000 in
set_option maxHeartbeats 1000000 in
theorem copied_any (c : Option Addr) (n cap : Nat) (f g : Nat → Int) (at' : Int) (st : ByteArray) (ct : Int) (w : World) (h : Hid (PairV w c n f g)) (hn : n ≤ 1099511627776) :
    Calls Tryz.prog 121 #[.agg #[.slice c n cap, .int .i64 at', .string st, .int .i64 ct]] w fun e w' => SrAns w n f g at' st ct e w' := by
  go_enter Tryz.func121, Tryz.ntmps121
  go_wp2_with fail
  refine (clone_any c n cap f g _ (hik (h.out.keep (((Chg.refl nob w).alloc _).alloc _))) hn).mono ?_
  rintro e W1 ⟨c1, cap1, rfl, ho, k1⟩
  have R0 := hik (rowIs_keep (World.rowIs.alloc (row4_new w (.slice c n cap) (.int .i64 at') (.string st) (.int .i64 ct) 35) (.cells #[.slice none 0 0, .int .i64 0, .string ⟨#[]⟩, .int .i64 0] 35)) k1)
  have R1 := hik (rowIs_keep (row4_new (w.alloc (.cells #[.slice c n cap, .int .i64 at', .string st, .int .i64 ct] 35)) (.slice none 0 0) (.int .i64 0) (.string ⟨#[]⟩) (.int .i64 0) 35) k1)
  have G1 := hik ((((Chg.refl nob w).alloc (.cells #[.slice c n cap, .int .i64 at', .string st, .int .i64 ct] 35)).alloc (.cells #[.slice none 0 0, .int .i64 0, .string ⟨#[]⟩, .int .i64 0] 35)).trans k1)
  have HO := hik ho
  obtain ⟨hc1, hf1, hz1⟩ := kcell k1 (w.heap.size + 2) (by simp)
  clear k1 ho
  go_wp2
  have R2 : Hid ((W1.setCell ⟨w.heap.size, 0, none⟩ (.slice c1 n cap1)).rowIs (w.heap.size + 1) 35 4 (pv4 (.slice none 0 0) (.int .i64 0) (.string ⟨#[]⟩) (.int .i64 0))) := hik (World.rowIs.setOther (by simpa using R1.out) (by simp) _)
  exact bodyPost_ret (v := .agg #[.slice c1 n cap1, .int .i64 at', .string st, .int .i64 ct]) (by simp [results, Tryz.results121, go_sem, row4_s0 R2.out (.slice c1 n cap1), row4_s1 R2.out (.slice c1 n cap1) (.int .i64 at'), row4_s2 R2.out (.slice c1 n cap1) (.int .i64 at') (.string st), row4_s3 R2.out (.slice c1 n cap1) (.int .i64 at') (.string st) (.int .i64 ct)]) rfl ⟨_, _, rfl, ((HO.out.chg (P := fun b => b < w.heap.size + 2) (chg4_set ((Chg.refl _ W1).setCell (p := ⟨w.heap.size, 0, none⟩) (fun _ => (by show w.heap.size < w.heap.size + 2; omega)) _) _ (fun _ => (by show w.heap.size + 1 < w.heap.size + 2; omega)) _ _ _ _) (fun b hb _ hp => (by simp at hb; omega))).low (B' := w.heap.size) (by simp; omega)), chg4_set (G1.out.setCell (p := ⟨w.heap.size, 0, none⟩) (fun l => absurd l (by simp)) _) _ (fun l => absurd l (by simp)) _ _ _ _⟩


end Go.Proofs.YtkpohajmcngjcaaGreatDoor

namespace Go.Proofs.YtkpohajmcngjcaaGreatDoor
open Go.ChangeShapes Go.WideShapes Go.ChangeAt Go.RowKit
set_option linter.unusedVariables false
set_option maxRecDepth 100000
set_option linter.unusedSimpArgs false


end Go.Proofs.YtkpohajmcngjcaaGreatDoor
