/- What the laws' helpers on sources do: contracts. Conditions: rows that can be read, lengths of at most 2 to the 40. -/
import Derived.Test.YtmnakafplpmphanDoorERow
import Derived.Test.YtmnakafplpmphanDoorRow4
import Derived.Deep.QuietTactic
import Derived.Deep.RegionHeld3
import Derived.BigQuiet
namespace Go.Proofs.YtmnakafplpmphanDoor
open Go.ChangeShapes Go.WideShapes Go.ChangeAt Go.RowKit
set_option linter.unusedVariables false
set_option maxRecDepth 100000
set_option linter.unusedSimpArgs false

/-- A source in memory of its own. -/
def CopiedS (w : World) (n : Nat) (f g : Nat → Int) (at' : Int) (st : ByteArray) (ct : Int) (e : Ending) (w' : World) : Prop :=
  ∃ b : Nat, w.heap.size ≤ b ∧ e = .returned (.agg #[.slice (some ⟨b, 0, none⟩) n n, .int .i64 at', .string st, .int .i64 ct]) ∧ w'.rowIs b 49 (n * 2) (pf f g) ∧ Chg nob w w'

set_option maxRecDepth 100000 in
set_option maxHeartbeats 2000000 in
theorem toSource_any (c : Option Addr) (n cap : Nat) (f g : Nat → Int) (at' : Int) (st : ByteArray) (ct : Int) (w : World) (h : Hid (PairV w c n f g)) (hn : n ≤ 1099511627776) :
    Calls Tryd.prog 7 #[.agg #[.slice c n cap, .int .i64 at', .string st, .int .i64 ct]] w fun e w' => CopiedS w n f g at' st ct e w' := by
  go_enter Tryd.func7, Tryd.ntmps7
  go_wp2_with (go_at_call 16; refine (toExtS_any c n cap f g _ (hik (h.out.keep ((((Chg.refl nob w).alloc _).alloc _).alloc _))) hn).mono ?_; rintro e W1 ⟨he, hr, k1⟩; subst he; have HR := hik hr; have K1 := hik k1; obtain ⟨hc1, hf1, hz1⟩ := kcell k1 (w.heap.size + 3) (by simp); clear k1 hr)
  have R2 := hik (rowIs_keep (row4_new ((w.alloc (.cells #[.slice c n cap, .int .i64 at', .string st, .int .i64 ct] 24)).alloc (.cells #[.slice none 0 0, .int .i64 0, .string ⟨#[]⟩, .int .i64 0] 30)) (.slice none 0 0) (.int .i64 0) (.string ⟨#[]⟩) (.int .i64 0) 30) K1.out)
  have R1 := hik (rowIs_keep (World.rowIs.alloc (row4_new (w.alloc (.cells #[.slice c n cap, .int .i64 at', .string st, .int .i64 ct] 24)) (.slice none 0 0) (.int .i64 0) (.string ⟨#[]⟩) (.int .i64 0) 30) (.cells #[.slice none 0 0, .int .i64 0, .string ⟨#[]⟩, .int .i64 0] 30)) K1.out)
  have R3 : Hid (((((W1.setCell ⟨w.heap.size + 1 + 1, 0, none⟩ (.slice (some ⟨w.heap.size + 1 + 1 + 1, 0, none⟩) n n)).setCell ⟨w.heap.size + 1 + 1, 1, none⟩ (.int .i64 at')).setCell ⟨w.heap.size + 1 + 1, 2, none⟩ (.string st)).setCell ⟨w.heap.size + 1 + 1, 3, none⟩ (.int .i64 ct)).rowIs (w.heap.size + 1) 30 4 (pv4 (.slice none 0 0) (.int .i64 0) (.string ⟨#[]⟩) (.int .i64 0))) := hik (row4_other (by simpa using R1.out) (by omega) _ _ _ _)
  have G0 : Hid (Chg nob w W1) := hik (((((Chg.refl nob w).alloc _).alloc _).alloc _).trans K1.out)
  exact bodyPost_ret (v := .agg #[.slice (some ⟨w.heap.size + 1 + 1 + 1, 0, none⟩) n n, .int .i64 at', .string st, .int .i64 ct]) (by simp [results, Tryd.results7, go_sem, row4_s0 R3.out (.slice (some ⟨w.heap.size + 1 + 1 + 1, 0, none⟩) n n), row4_s1 R3.out (.slice (some ⟨w.heap.size + 1 + 1 + 1, 0, none⟩) n n) (.int .i64 at'), row4_s2 R3.out (.slice (some ⟨w.heap.size + 1 + 1 + 1, 0, none⟩) n n) (.int .i64 at') (.string st), row4_s3 R3.out (.slice (some ⟨w.heap.size + 1 + 1 + 1, 0, none⟩) n n) (.int .i64 at') (.string st) (.int .i64 ct)]) rfl ⟨_, by omega, rfl, row4_other (row4_other (by simpa using HR.out) (by omega) _ _ _ _) (by omega) _ _ _ _, chg4_set (chg4_set G0.out _ (fun l => absurd l (by omega)) _ _ _ _) _ (fun l => absurd l (by omega)) _ _ _ _⟩

set_option maxHeartbeats 1000000 in
theorem szSource_ok (c : Option Addr) (n cap : Nat) (at' : Int) (st : ByteArray) (ct l : Int) (w : World) (h0 : (n : Int) + (st.size : Int) ≤ l) (h1 : l ≤ 1048576) :
    Calls Tryd.prog 5 #[.agg #[.slice c n cap, .int .i64 at', .string st, .int .i64 ct], .int .i64 l] w fun e w' => e = .returned (.int .i64 (l - n - st.size)) ∧ Chg nob w w' := by
  have h2 : ¬ l - (n : Int) < 0 := by omega
  have h3 : ¬ l - (n : Int) - (st.size : Int) < 0 := by omega
  have hs : (st.size : Int) ≤ 9223372036854775807 := by omega
  go_enter Tryd.func5, Tryd.ntmps5
  go_wp2_with (go_at_call 12; refine (szExtS_ok _ _ _ _ _ (by omega) (by omega)).mono ?_; rintro e w' ⟨rfl, rfl⟩)
  go_ret
  exact ⟨rfl, (Chg.refl _ _).alloc _⟩

set_option maxHeartbeats 1000000 in
theorem szSource_no (c : Option Addr) (n cap : Nat) (at' : Int) (st : ByteArray) (ct l : Int) (w : World) (h0 : l < (n : Int) + (st.size : Int)) (h1 : l ≤ 1048576) (hl : 0 ≤ l) (hn : (n : Int) ≤ 9223372036854775807) (hs : (st.size : Int) ≤ 9223372036854775807) :
    Calls Tryd.prog 5 #[.agg #[.slice c n cap, .int .i64 at', .string st, .int .i64 ct], .int .i64 l] w fun e w' => e = .returned (.int .i64 (-1)) ∧ Chg nob w w' := by
  by_cases h2 : l < (n : Int)
  · go_enter Tryd.func5, Tryd.ntmps5
    go_wp2_with (go_at_call 12; refine (szExtS_no _ _ _ _ _ h2 hl hn).mono ?_; rintro e w' ⟨rfl, rfl⟩)
    go_ret
    exact ⟨rfl, (Chg.refl _ _).alloc _⟩
  · have h3 : ¬ l - (n : Int) < 0 := by omega
    have h4 : l - (n : Int) - (st.size : Int) < 0 := by omega
    go_enter Tryd.func5, Tryd.ntmps5
    go_wp2_with (go_at_call 12; refine (szExtS_ok _ _ _ _ _ (by omega) (by omega)).mono ?_; rintro e w' ⟨rfl, rfl⟩)
    go_ret
    exact ⟨rfl, (Chg.refl _ _).alloc _⟩

set_option maxHeartbeats 1000000 in
theorem eqSource_any (c d : Option Addr) (n m cap cap' : Nat) (f g f' g' : Nat → Int) (at' : Int) (st : ByteArray) (ct : Int) (w : World) (h : Hid (PairV w c n f g)) (h' : Hid (PairV w d m f' g')) (hm : n = m) (he : ∀ i, i < n → f i = f' i ∧ g i = g' i) (hn : n ≤ 1099511627776) :
    Calls Tryd.prog 9 #[.agg #[.slice c n cap, .int .i64 at', .string st, .int .i64 ct], .agg #[.slice d m cap', .int .i64 at', .string st, .int .i64 ct]] w fun e w' => e = .returned (.bool true) ∧ Chg nob w w' := by
  subst hm
  go_enter Tryd.func9, Tryd.ntmps9
  go_wp2_with fail
  refine (eqExtS_any c d n n cap cap' f g f' g' _ (hik (h.out.keep (((Chg.refl nob w).alloc _).alloc _))) (hik (h'.out.keep (((Chg.refl nob w).alloc _).alloc _))) rfl he hn).mono ?_
  rintro e W1 ⟨rfl, k1⟩
  have G1 := hik ((((Chg.refl nob w).alloc (.cells #[.slice c n cap, .int .i64 at', .string st, .int .i64 ct] 30)).alloc (.cells #[.slice d n cap', .int .i64 at', .string st, .int .i64 ct] 30)).trans k1)
  have x1 : W1.cell? ⟨w.heap.size, 1, none⟩ = some (.int .i64 at') := k1.look (by go_simp)
  have x2 : W1.cell? ⟨w.heap.size, 2, none⟩ = some (.string st) := k1.look (by go_simp)
  have x3 : W1.cell? ⟨w.heap.size, 3, none⟩ = some (.int .i64 ct) := k1.look (by go_simp)
  have y1 : W1.cell? ⟨w.heap.size + 1, 1, none⟩ = some (.int .i64 at') := k1.look (by go_simp)
  have y2 : W1.cell? ⟨w.heap.size + 1, 2, none⟩ = some (.string st) := k1.look (by go_simp)
  have y3 : W1.cell? ⟨w.heap.size + 1, 3, none⟩ = some (.int .i64 ct) := k1.look (by go_simp)
  clear k1
  go_wp2
  go_ret
  exact ⟨rfl, G1.out⟩

theorem szExtS_c (c : Option Addr) (n cap : Nat) (l : Int) (w : World) (h0 : (n : Int) ≤ l) (h1 : l ≤ 1048576) :
    Calls Tryd.prog 12 #[.slice c n cap, .int .i64 l] w fun e w' => e = .returned (.int .i64 (l - n)) ∧ Chg nob w w' := by
  refine (szExtS_ok c n cap l w h0 h1).mono ?_
  rintro e w' ⟨he, hw⟩
  subst hw
  exact ⟨he, Chg.refl _ _⟩

end Go.Proofs.YtmnakafplpmphanDoor
