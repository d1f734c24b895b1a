/- What the program's copies of sources are, and its new sources: contracts. Conditions: rows that can be read, the tables hold the shifts and the rounds' constants. -/
import Derived.Test.YtmnakafplpmphabDoorBde
import Derived.Test.YtmnakafplpmphabDoorIpsW
import Derived.Test.YtmnakafplpmphabDoorSpsX
import Derived.Test.YtmnakafplpmphabDoorHshI
import Derived.Lib.SliceRun
namespace Go.Proofs.YtmnakafplpmphabDoor
open Go.ChangeShapes Go.WideShapes Go.ChangeAt Go.RowKit
set_option linter.unusedVariables false
set_option maxRecDepth 100000
set_option linter.unusedSimpArgs false

set_option maxHeartbeats 1000000 in
theorem clone_any (c : Option Addr) (n cap : Nat) (f g : Nat → Int) (w : World) (h : Hid (PairV w c n f g)) (hn : n ≤ 1099511627776) :
    Calls Tryd.prog 116 #[.slice c n cap] w fun e w' => ClAns w n f g e w' := by
  obtain ⟨i0, hi, hz0, hz1, hz2⟩ := info_parts infoExt
  have HI := hik hi
  have HZ0 := hik hz0
  have HZ1 := hik hz1
  have HZ2 := hik hz2
  clear hi hz0 hz1 hz2
  have qT : ∀ (w : World) (a : Option Addr) (n c n' c' : Nat), (binOp .eql 45 (.slice a n c) (.slice none n' c')).run Tryd.prog w = .ok (.bool a.isNone) w := fun w a n c n' c' => Lib.run_eql_slice_nil w _ _ a n c n' c' Tryd.underlying45
  cases c with
  | none =>
    have h0 : n = 0 := by
      by_cases e : n = 0
      · exact e
      · obtain ⟨xb, xo, ex, _⟩ := h.out 0 (by omega)
        cases ex
    subst h0
    go_enter Tryd.func116, Tryd.ntmps116
    go_wp2
    go_ret
    exact ⟨_, _, rfl, .inl rfl, Chg.refl _ _⟩
  | some ad =>
    go_enter Tryd.func116, Tryd.ntmps116
    go_wp2_with (at_builtin; refine wpList_append_pairs _ (.tmp 5) (.tmp 6) 45 rfl rfl i0 Tryd.underlying45 HI.out HZ0.out HZ1.out HZ2.out w.heap.size (by simp) rfl (some ad) n cap f g rfl (h.out.keep ((Chg.refl nob w).alloc _)) hn ?_)
    intro c' cap' w1 ho hle hm k1
    have HO := hik (ho.low (B' := w.heap.size) (by simp))
    have K1 := hik (((Chg.refl nob w).alloc _).trans k1)
    clear ho hle hm k1 qT
    go_wp2
    go_ret
    exact ⟨_, _, rfl, HO.out, K1.out⟩

set_option maxRecDepth 100000 in
set_option maxHeartbeats 1000000 in
theorem copied_any (c : Option Addr) (n cap : Nat) (f g : Nat → Int) (at' : Int) (st : ByteArray) (ct : Int) (w : World) (h : Hid (PairV w c n f g)) (hn : n ≤ 1099511627776) :
    Calls Tryd.prog 84 #[.agg #[.slice c n cap, .int .i64 at', .string st, .int .i64 ct]] w fun e w' => SrAns w n f g at' st ct e w' := by
  go_enter Tryd.func84, Tryd.ntmps84
  go_wp2_with fail
  refine (clone_any c n cap f g _ (hik (h.out.keep (((Chg.refl nob w).alloc _).alloc _))) hn).mono ?_
  rintro e W1 ⟨c1, cap1, rfl, ho, k1⟩
  have R0 := hik (rowIs_keep (World.rowIs.alloc (row4_new w (.slice c n cap) (.int .i64 at') (.string st) (.int .i64 ct) 47) (.cells #[.slice none 0 0, .int .i64 0, .string ⟨#[]⟩, .int .i64 0] 47)) k1)
  have R1 := hik (rowIs_keep (row4_new (w.alloc (.cells #[.slice c n cap, .int .i64 at', .string st, .int .i64 ct] 47)) (.slice none 0 0) (.int .i64 0) (.string ⟨#[]⟩) (.int .i64 0) 47) k1)
  have G1 := hik ((((Chg.refl nob w).alloc (.cells #[.slice c n cap, .int .i64 at', .string st, .int .i64 ct] 47)).alloc (.cells #[.slice none 0 0, .int .i64 0, .string ⟨#[]⟩, .int .i64 0] 47)).trans k1)
  have HO := hik ho
  obtain ⟨hc1, hf1, hz1⟩ := kcell k1 (w.heap.size + 2) (by simp)
  clear k1 ho
  go_wp2
  have R2 : Hid ((W1.setCell ⟨w.heap.size, 0, none⟩ (.slice c1 n cap1)).rowIs (w.heap.size + 1) 47 4 (pv4 (.slice none 0 0) (.int .i64 0) (.string ⟨#[]⟩) (.int .i64 0))) := hik (World.rowIs.setOther (by simpa using R1.out) (by simp) _)
  exact bodyPost_ret (v := .agg #[.slice c1 n cap1, .int .i64 at', .string st, .int .i64 ct]) (by simp [results, Tryd.results84, go_sem, row4_s0 R2.out (.slice c1 n cap1), row4_s1 R2.out (.slice c1 n cap1) (.int .i64 at'), row4_s2 R2.out (.slice c1 n cap1) (.int .i64 at') (.string st), row4_s3 R2.out (.slice c1 n cap1) (.int .i64 at') (.string st) (.int .i64 ct)]) rfl ⟨_, _, rfl, ((HO.out.chg (P := fun b => b < w.heap.size + 2) (chg4_set ((Chg.refl _ W1).setCell (p := ⟨w.heap.size, 0, none⟩) (fun _ => (by show w.heap.size < w.heap.size + 2; omega)) _) _ (fun _ => (by show w.heap.size + 1 < w.heap.size + 2; omega)) _ _ _ _) (fun b hb _ hp => (by simp at hb; omega))).low (B' := w.heap.size) (by simp; omega)), chg4_set (G1.out.setCell (p := ⟨w.heap.size, 0, none⟩) (fun l => absurd l (by simp)) _) _ (fun l => absurd l (by simp)) _ _ _ _⟩

set_option maxRecDepth 100000 in
set_option maxHeartbeats 1000000 in
theorem newSponge_any (label : ByteArray) (w : World) (ht : Hid (Tabs w)) (hm : (label.size : Int) ≤ 9223372036854775807) :
    Calls Tryd.prog 46 #[.string label] w fun e w' => SCAns w (lbc label.size) 0 (fun _ => 0) (fun _ => 0) 0 (lbS label) 0 e w' := by
  by_cases h1 : 65536 < label.size
  · have h1' : 65536 < (label.size : Int) := by omega
    rw [(lb_long h1).1, (lb_long h1).2]
    go_enter Tryd.func46, Tryd.ntmps46
    go_wp2
    exact bodyPost_ret (v := .tuple #[.agg #[.slice none 0 0, .int .i64 0, .string ⟨#[]⟩, .int .i64 0], .int .i64 2]) (by simp [results, Tryd.results46, go_sem]) rfl ⟨_, _, rfl, .inl rfl, (Chg.refl _ _).alloc _⟩
  have h1' : ¬ 65536 < (label.size : Int) := by omega
  by_cases h2 : 100 < label.size
  · have h2' : 100 < (label.size : Int) := by omega
    rw [(lb_range h1 h2).1, (lb_range h1 h2).2]
    go_enter Tryd.func46, Tryd.ntmps46
    go_wp2
    exact bodyPost_ret (v := .tuple #[.agg #[.slice none 0 0, .int .i64 0, .string ⟨#[]⟩, .int .i64 0], .int .i64 4]) (by simp [results, Tryd.results46, go_sem]) rfl ⟨_, _, rfl, .inl rfl, (Chg.refl _ _).alloc _⟩
  have h2' : ¬ 100 < (label.size : Int) := by omega
  rw [(lb_ok h2).1, (lb_ok h2).2]
  have hsz := nwT_in label (by omega)
  go_enter Tryd.func46, Tryd.ntmps46
  go_wp2_with (go_at_call 70; refine (hashOf_any (nwT label) _ (hik (ht.out.keep ((Chg.refl nob w).alloc _))) hsz).mono ?_; rintro e W1 ⟨he, k1⟩; have he : e = .returned (.string (nwS label)) := he; subst he; have G1 := hik (((Chg.refl nob w).alloc (.cells #[.slice none 0 0, .int .i64 0, .string ⟨#[]⟩, .int .i64 0] 47)).trans k1); have R1 := hik (rowIs_keep (row4_new w (.slice none 0 0) (.int .i64 0) (.string ⟨#[]⟩) (.int .i64 0) 47) k1); obtain ⟨hc1, hf1, hz1⟩ := kcell k1 (w.heap.size + 1) (by simp); clear k1)
  exact bodyPost_ret (v := .tuple #[.agg #[.slice none 0 0, .int .i64 0, .string (nwS label), .int .i64 0], .int .i64 0]) (by simp [results, Tryd.results46, go_sem, row4_s0 R1.out (.slice none 0 0), row4_s1 R1.out (.slice none 0 0) (.int .i64 0), row4_s2 R1.out (.slice none 0 0) (.int .i64 0) (.string (nwS label)), row4_s3 R1.out (.slice none 0 0) (.int .i64 0) (.string (nwS label)) (.int .i64 0)]) rfl ⟨_, _, rfl, .inl rfl, chg4_set G1.out _ (fun l => absurd l (by simp)) _ _ _ _⟩

end Go.Proofs.YtmnakafplpmphabDoor
