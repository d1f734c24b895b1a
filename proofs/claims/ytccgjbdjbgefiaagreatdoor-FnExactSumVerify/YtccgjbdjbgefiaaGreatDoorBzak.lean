/- Several texts in one: What the model's bound tables and its rounds answer: contracts. Conditions: tables of at most 64 values that can be read. · What the model's sources are behind what they take in: contracts. Conditions: rows that can be read. · What the model's sources are behind elements that they take in: contracts. Conditions: rows that can be read. · Plain facts: how a proof of a sum goes on round by round: its tables, the source's state and its two numbers. No condition but those that each theorem states. -/
import Derived.Test.YtccgjbdjbgefiaaGreatDoorBzai
import Derived.Test.YtccgjbdjbgefiaaGreatDoorBzas
import Derived.Test.YtccgjbdjbgefiaaGreatDoorBzap
namespace Go.Proofs.YtccgjbdjbgefiaaGreatDoor
open Go.ChangeShapes Go.WideShapes Go.ChangeAt Go.RowKit
set_option linter.unusedVariables false
set_option maxRecDepth 100000
set_option linter.unusedSimpArgs false


end Go.Proofs.YtccgjbdjbgefiaaGreatDoor

namespace Go.Proofs.YtccgjbdjbgefiaaGreatDoor
open Go.ChangeShapes Go.WideShapes Go.ChangeAt Go.RowKit
set_option linter.unusedVariables false
set_option maxRecDepth 100000
set_option linter.unusedSimpArgs false

/-- The code of a text that is taken in. -/
def atc (m : Nat) (ok : Bool) : Int := if 65536 < m then 2 else if ok then 0 else 1
def scI (code : Int) (a : Int) : Int := if code = 0 then a else 0
theorem atc_long {m : Nat} {ok : Bool} (h : 65536 < m) : atc m ok = 2 := if_pos h
theorem atc_bad {m : Nat} (h : ¬ 65536 < m) : atc m false = 1 := by unfold atc; rw [if_neg h]; rfl
theorem atc_ok {m : Nat} (h : ¬ 65536 < m) : atc m true = 0 := by unfold atc; rw [if_neg h]; rfl
theorem sokb_parts {f g : Nat → Int} {len : Nat} {at' : Int} {st : ByteArray} {ct : Int} (h : sokb f g len at' st ct = true) : len ≤ 64 ∧ okP f g len = true ∧ (0 ≤ at' ∧ at' ≤ 1000000) ∧ st.size = 32 ∧ (0 ≤ ct ∧ ct ≤ 1000000) := by
  unfold sokb inW at h
  simp only [Bool.and_eq_true, decide_eq_true_eq] at h
  exact ⟨h.1.1.1.1, h.1.1.1.2, h.1.1.2, h.1.2, h.2⟩


end Go.Proofs.YtccgjbdjbgefiaaGreatDoor

namespace Go.Proofs.YtccgjbdjbgefiaaGreatDoor
open Go.ChangeShapes Go.WideShapes Go.ChangeAt Go.RowKit
set_option linter.unusedVariables false
set_option maxRecDepth 100000
set_option linter.unusedSimpArgs false

/-- The text of elements. -/
def etx (f g : Nat → Int) (n : Nat) : ByteArray := bt (byt f g) (n * 8)
theorem etx_size (f g : Nat → Int) (n : Nat) : (etx f g n).size = n * 8 := bt_size _ _

set_option maxHeartbeats 2000000 in
theorem sExts_any (c : Option Addr) (len cap : Nat) (at' : Int) (st : ByteArray) (ct : Int) (c1 : Option Addr) (n1 cap1 : Nat) (f1 g1 : Nat → Int) (w : World) (h1 : Hid (PairV w c1 n1 f1 g1)) (hn : n1 ≤ 4096) (hok : Hid (okP f1 g1 n1 = true)) (hst : st.size = 32) :
    Calls Tryz.prog 40 #[.agg #[.slice c len cap, .int .i64 at', .string st, .int .i64 ct], .slice c1 n1 cap1] w fun e w' => e = .returned (.agg #[.slice c len cap, .int .i64 at', .string (abS st (etx f1 g1 n1)), .int .i64 0]) ∧ Chg nob w w' := by
  have hsz := hik (show (etx f1 g1 n1).size ≤ 65536 by rw [etx_size]; omega)
  go_enter Tryz.func40, Tryz.ntmps40
  go_wp2
  refine wp_region_held_drew (S := fun w' => w'.cell? ⟨w.heap.size, 0, none⟩ = some (.slice c len cap) ∧ w'.cell? ⟨w.heap.size, 1, none⟩ = some (.int .i64 at') ∧ w'.cell? ⟨w.heap.size, 2, none⟩ = some (.string st) ∧ w'.cell? ⟨w.heap.size, 3, none⟩ = some (.int .i64 ct)) (by kernel_rfl) ⟨by go_simp, by go_simp, by go_simp, by go_simp⟩ (fun hHeld => ?_)
  refine wpAnyH_take (i := 0) (v := ?_) rfl (by kernel_rfl) (by kernel_rfl) (by kernel_rfl) (fun _ _ _ h => h) (Or.inl ⟨by rfl, ?_⟩) (by assumption) ?_
  rotate_left 1
  · (intro w' hSw; (try dsimp only at hSw); go_simp; try with_reducible rfl)
  try simp only [Act.put, List.setIfInBounds_toArray, List.set_cons_zero, List.set_cons_succ, List.getElem_toArray, List.getElem_cons_zero, List.getElem_cons_succ]
  refine wpAnyH_take (i := 1) (v := ?_) rfl (by kernel_rfl) (by kernel_rfl) (by kernel_rfl) (fun _ _ _ h => h) (Or.inl ⟨by rfl, ?_⟩) (by assumption) ?_
  rotate_left 1
  · (intro w' hSw; (try dsimp only at hSw); go_simp; try with_reducible rfl)
  try simp only [Act.put, List.setIfInBounds_toArray, List.set_cons_zero, List.set_cons_succ, List.getElem_toArray, List.getElem_cons_zero, List.getElem_cons_succ]
  refine wpAnyH_ready (rs := [2]) (by kernel_rfl) (by simp) ?_
  refine AllReadyH.cons rfl (fun K hK => ?_) AllReadyH.nil
  refine stepL_callN 58 #[.tmp 6] #[30] (by rfl) (by rfl) #[.slice c1 n1 cap1] (by simp only [List.map_toArray, List.map_cons, List.map_nil]; rfl) (run_go Tryz.func58 (by kernel_rfl) (by kernel_rfl) _ _) (l02Bytes_any c1 n1 cap1 f1 g1 _ (hik (h1.out.keep (((Chg.refl nob w).alloc _).alloc _).drew1)) hn hok) ?_
  rintro e W1 ⟨c0, cap0, he, hrow, k1⟩
  refine ⟨_, he, ?_⟩
  refine hK.out _ _ ⟨k1.see hHeld.1, k1.see hHeld.2.1, k1.see hHeld.2.2.1, k1.see hHeld.2.2.2⟩ (fun hHeld => ?_)
  clear hK K
  try simp only [Act.put, List.setIfInBounds_toArray, List.set_cons_zero, List.set_cons_succ, List.getElem_toArray, List.getElem_cons_zero, List.getElem_cons_succ]
  have K1 := hik k1
  have hcv := convB c0 (n1 * 8) cap0 (byt f1 g1) W1 hrow
  have hcv : (convert 86 9 (.slice c0 (n1 * 8) cap0)).run Tryz.prog W1 = .ok (.string (etx f1 g1 n1)) W1 := hcv
  clear he hrow k1
  refine wpAnyH_ready (rs := [3]) (by kernel_rfl) (by simp) ?_
  refine AllReadyH.cons rfl (fun K hK => ?_) AllReadyH.nil
  refine stepL_conv 86 9 (.tmp 7) (by rfl) (by rfl) _ _ _ (by rfl) hcv ?_
  refine hK.out _ _ hHeld (fun hHeld => ?_)
  clear hK K
  try simp only [Act.put, List.setIfInBounds_toArray, List.set_cons_zero, List.set_cons_succ, List.getElem_toArray, List.getElem_cons_zero, List.getElem_cons_succ]
  clear hcv
  refine wpAnyH_ready (rs := [4]) (by kernel_rfl) (by simp) ?_
  refine AllReadyH.cons rfl (fun K hK => ?_) AllReadyH.nil
  refine stepL_callN 57 #[.tmp 5, .tmp 8] #[33, 9] (by rfl) (by rfl) #[.agg #[.slice c len cap, .int .i64 at', .string st, .int .i64 ct], .string (etx f1 g1 n1)] (by simp only [List.map_toArray, List.map_cons, List.map_nil]; rfl) (run_go Tryz.func57 (by kernel_rfl) (by kernel_rfl) _ _) (sAbsorb_any c len cap at' st ct (etx f1 g1 n1) _ hst hsz.out) ?_
  rintro e W2 ⟨he, k1⟩
  refine ⟨_, he, ?_⟩
  refine hK.out _ _ ⟨k1.see hHeld.1, k1.see hHeld.2.1, k1.see hHeld.2.2.1, k1.see hHeld.2.2.2⟩ (fun hHeld => ?_)
  clear hK K
  try simp only [Act.put, List.setIfInBounds_toArray, List.set_cons_zero, List.set_cons_succ, List.getElem_toArray, List.getElem_cons_zero, List.getElem_cons_succ]
  have KK : Chg nob ((w.alloc (.cells #[.slice c len cap, .int .i64 at', .string st, .int .i64 ct] 33)).alloc (.cells #[.slice none 0 0, .int .i64 0, .string ⟨#[]⟩, .int .i64 0] 33)) W2 := (Chg.refl nob _).drew1.trans (K1.out.trans k1)
  have G3 := hik ((((Chg.refl nob w).alloc (.cells #[.slice c len cap, .int .i64 at', .string st, .int .i64 ct] 33)).alloc (.cells #[.slice none 0 0, .int .i64 0, .string ⟨#[]⟩, .int .i64 0] 33)).trans KK)
  have R1 := hik (rowIs_keep (row4_new (w.alloc (.cells #[.slice c len cap, .int .i64 at', .string st, .int .i64 ct] 33)) (.slice none 0 0) (.int .i64 0) (.string ⟨#[]⟩) (.int .i64 0) 33) KK)
  have R2 : Hid (W2.rowIs (w.heap.size + 1) 33 4 (pv4 (.slice none 0 0) (.int .i64 0) (.string ⟨#[]⟩) (.int .i64 0))) := hik (by simpa using R1.out)
  clear he K1 k1 KK R1
  have hz9 : w.heap.size + 1 < W2.heap.size := R2.out.lt
  have y0 := R2.out.cell (i := 0) (by omega)
  have v0 := R2.out.frozen 0
  have y1 := R2.out.cell (i := 1) (by omega)
  have v1 := R2.out.frozen 1
  have y2 := R2.out.cell (i := 2) (by omega)
  have v2 := R2.out.frozen 2
  have y3 := R2.out.cell (i := 3) (by omega)
  have v3 := R2.out.frozen 3
  refine wpAnyH_ready (rs := [5]) (by kernel_rfl) (by simp) ?_
  refine AllReadyH.cons rfl (fun K hK => ?_) AllReadyH.nil
  simp only [List.getElem_toArray, List.getElem_cons_zero, List.getElem_cons_succ]
  go_simp
  refine hK.out _ _ ⟨by go_simp, by go_simp, by go_simp, by go_simp⟩ (fun hHeld => ?_)
  clear hK K
  try simp only [Act.put, List.setIfInBounds_toArray, List.set_cons_zero, List.set_cons_succ, List.getElem_toArray, List.getElem_cons_zero, List.getElem_cons_succ]
  refine wpAnyH_done (by kernel_rfl) ?_ _
  go_wp2
  exact bodyPost_ret (v := .agg #[.slice c len cap, .int .i64 at', .string (abS st (etx f1 g1 n1)), .int .i64 0]) (by simp [results, Tryz.results40, go_sem, row4_s0 R2.out (.slice c len cap), row4_s1 R2.out (.slice c len cap) (.int .i64 at'), row4_s2 R2.out (.slice c len cap) (.int .i64 at') (.string (abS st (etx f1 g1 n1))), row4_s3 R2.out (.slice c len cap) (.int .i64 at') (.string (abS st (etx f1 g1 n1))) (.int .i64 0)]) rfl ⟨rfl, chg4_set G3.out _ (fun l => absurd l (by simp)) _ _ _ _⟩

/-- The code of elements that are taken in. -/
def aec (n : Nat) (okl oks : Bool) : Int := if 4096 < n then 2 else if okl && oks then 0 else 1
theorem bc_zero {f g : Nat → Int} {n : Nat} (h : bc f g n = 0) : n ≤ 4096 ∧ okP f g n = true := by
  unfold bc at h
  by_cases h1 : 4096 < n
  · rw [if_pos h1] at h; cases h
  · rw [if_neg h1] at h
    cases h2 : okP f g n
    · rw [h2] at h; cases h
    · exact ⟨by omega, rfl⟩
theorem bc_aec {f g : Nat → Int} {n : Nat} {b : Bool} (h : ¬ bc f g n = 0) : aec n (okP f g n) b = bc f g n := by
  unfold bc at h ⊢
  unfold aec
  by_cases h1 : 4096 < n
  · rw [if_pos h1, if_pos h1]
  · rw [if_neg h1] at h ⊢
    rw [if_neg h1]
    cases h2 : okP f g n
    · rfl
    · rw [h2] at h; exact absurd rfl h


end Go.Proofs.YtccgjbdjbgefiaaGreatDoor

namespace Go.Proofs.YtccgjbdjbgefiaaGreatDoor
open Go.ChangeShapes Go.WideShapes Go.ChangeAt Go.RowKit
set_option linter.unusedVariables false
set_option linter.unusedSimpArgs false

theorem dr_fit {f g : Nat → Int} {len : Nat} (h : okP f g len = true) (at' : Int) (st : ByteArray) (ct : Int) (k : Nat) : eok (drE f len at' st ct k) (drF g len at' st ct k) = true := by
  unfold drE drF
  by_cases h0 : 0 < len
  · rw [if_pos h0, if_pos h0]
    exact okP_all f g len h _ (Nat.mod_lt (at' + k).toNat h0)
  · rw [if_neg h0, if_neg h0]
    exact eok_mk (fok_mk (fl8_in _ 8).1 (fl8_in _ 8).2) (fok_mk (fl8_in _ 8).1 (fl8_in _ 8).2)


end Go.Proofs.YtccgjbdjbgefiaaGreatDoor
