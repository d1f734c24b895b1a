/- A drawn setting is a right one of few queries: contracts. Conditions: those of each theorem. -/
import Derived.Test.YtbjhppamolmpeaaBzay
namespace Go.Proofs.Ytbjhppamolmpeaa
open Go.ChangeShapes Go.WideShapes Go.ChangeAt Go.RowKit
set_option linter.unusedVariables false
set_option maxRecDepth 100000
set_option linter.unusedSimpArgs false

/-- A drawn setting. -/
def SetDr7 (b : Nat) (w : World) (e : Ending) (w' : World) : Prop := ∃ r n g : Int, e = .returned (.agg #[.int .i64 r, .int .i64 n, .int .i64 g]) ∧ (stb r n g = true ∧ r ≤ 2 ∧ n ≤ 3 ∧ g ≤ 2) ∧ Chg (fun k => k = b) w w'
def NewZ7 (w : World) (e : Ending) (w' : World) : Prop := ∃ r n g : Int, e = .returned (.agg #[.int .i64 r, .int .i64 n, .int .i64 g]) ∧ (stb r n g = true ∧ r ≤ 2 ∧ n ≤ 3 ∧ g ≤ 2) ∧ Chg nob w w'

set_option maxHeartbeats 2000000 in
theorem settingD7_any (n b : Nat) (w : World) (h : Src n w b) (hn : n ≤ 999999990000) :
    Calls Try.prog 45 #[.pointer (some ⟨b, 0, none⟩)] w fun e w' => SetDr7 b w e w' := by
  have hb := h.lt
  have K0 := hik ((Chg.refl (fun k => k = b) w).alloc (.cells #[.int .i64 0, .int .i64 0, .int .i64 0] 26))
  have A0 := hik (rowN_new w 3 #[.int .i64 0, .int .i64 0, .int .i64 0] 26 rfl)
  have S0 := hik (h.keep ((Chg.refl nob w).alloc (.cells #[.int .i64 0, .int .i64 0, .int .i64 0] 26)))
  go_enter Try.func45, Try.ntmps45
  go_wp2_with fail
  generalize hW : w.alloc (.cells #[.int .i64 0, .int .i64 0, .int .i64 0] 26) = W0 at K0 A0 S0 ⊢
  clear hW
  refine (nextC_any 2 _ _ _ S0.out (by omega) (by omega) (by omega)).mono ?_
  rintro e W1 ⟨x1, rfl, l1, u1, s1, kk⟩
  replace K0 := hik (K0.out.trans kk)
  replace A0 := hik (rowIs_chg A0.out kk (by omega))
  have S1 := hik s1
  clear kk s1 S0
  go_wp2_with fail
  refine (nextC_any 3 _ _ _ S1.out (by omega) (by omega) (by omega)).mono ?_
  rintro e W2 ⟨x2, rfl, l2, u2, s2, kk⟩
  replace K0 := hik (K0.out.trans kk)
  replace A0 := hik (rowIs_chg A0.out kk (by omega))
  have S2 := hik s2
  clear kk s2 S1
  go_wp2_with fail
  refine (nextC_any 3 _ _ _ S2.out (by omega) (by omega) (by omega)).mono ?_
  rintro e W3 ⟨x3, rfl, l3, u3, s3, kk⟩
  replace K0 := hik (K0.out.trans kk)
  replace A0 := hik (rowIs_chg A0.out kk (by omega))
  clear kk s3 S2
  have z0 : W3.cell? ⟨w.heap.size, 0, none⟩ = some (.int .i64 0) := A0.out.cell (i := 0) (by omega)
  have z1 : W3.cell? ⟨w.heap.size, 1, none⟩ = some (.int .i64 0) := A0.out.cell (i := 1) (by omega)
  have z2 : W3.cell? ⟨w.heap.size, 2, none⟩ = some (.int .i64 0) := A0.out.cell (i := 2) (by omega)
  have f0 := A0.out.frozen 0
  have f1 := A0.out.frozen 1
  have f2 := A0.out.frozen 2
  have zl := A0.out.lt
  have RE := hik (set3_all A0.out (.int .i64 (1 + x1)) (.int .i64 (1 + x2)) (.int .i64 x3))
  have KE := hik (chg3_at K0.out w.heap.size (fun l => absurd l (by omega)) (.int .i64 (1 + x1)) (.int .i64 (1 + x2)) (.int .i64 x3))
  clear A0
  go_wp2
  have d0 := RE.out.cell (i := 0) (by omega)
  have d1 := RE.out.cell (i := 1) (by omega)
  have d2 := RE.out.cell (i := 2) (by omega)
  simp at d0 d1 d2
  exact bodyPost_ret (v := .agg #[.int .i64 (1 + x1), .int .i64 (1 + x2), .int .i64 x3]) (by simp [results, Try.results45, go_sem, d0, d1, d2]) rfl ⟨1 + x1, 1 + x2, x3, rfl, ⟨decide_eq_true (by omega), by omega, by omega, by omega⟩, KE.out⟩

set_option maxHeartbeats 2000000 in
theorem settingOf7_any (c : Option Addr) (len cap : Nat) (w : World) (h : Bytes w c len) (hl : (len : Int) ≤ 9223372036854775807) :
    Calls Try.prog 24 #[.slice c len cap] w fun e w' => NewZ7 w e w' := by
  have K0 := hik ((Chg.refl nob w).alloc (.cells #[.int .i64 0, .int .i64 0, .int .i64 0] 26))
  have A0 := hik (rowN_new w 3 #[.int .i64 0, .int .i64 0, .int .i64 0] 26 rfl)
  go_enter Try.func24, Try.ntmps24
  go_wp2_with fail
  refine (l00Source_any c len cap _ (h.below K0.out.belowAll) hl).mono ?_
  rintro e W1 ⟨rfl, hs, hb⟩
  have k1 := chg_of_below hb
  have l0 : w.heap.size < (w.alloc (.cells #[.int .i64 0, .int .i64 0, .int .i64 0] 26)).heap.size := A0.out.lt
  replace A0 := hik (rowIs_keep A0.out k1)
  replace K0 := hik (K0.out.trans k1)
  have S1 := hik hs
  clear hs hb k1
  generalize hE : w.alloc (.cells #[.int .i64 0, .int .i64 0, .int .i64 0] 26) = W0 at S1 l0 ⊢
  clear hE
  go_wp2_with fail
  refine (settingD7_any 0 _ _ S1.out (by omega)).mono ?_
  rintro e W2 ⟨r, n, g, rfl, hok, k2⟩
  replace A0 := hik (rowIs_chg A0.out k2 (by omega))
  replace K0 := hik (K0.out.near k2 (fun i e => by have e : i = W0.heap.size := e; omega))
  clear k2 S1
  have z0 : W2.cell? ⟨w.heap.size, 0, none⟩ = some (.int .i64 0) := A0.out.cell (i := 0) (by omega)
  have z1 : W2.cell? ⟨w.heap.size, 1, none⟩ = some (.int .i64 0) := A0.out.cell (i := 1) (by omega)
  have z2 : W2.cell? ⟨w.heap.size, 2, none⟩ = some (.int .i64 0) := A0.out.cell (i := 2) (by omega)
  have f0 := A0.out.frozen 0
  have f1 := A0.out.frozen 1
  have f2 := A0.out.frozen 2
  have zl := A0.out.lt
  have HOK := hik hok
  clear hok
  have RE := hik (set3_all A0.out (.int .i64 r) (.int .i64 n) (.int .i64 g))
  have KE := hik (chg3_at K0.out w.heap.size (fun l => absurd l (by omega)) (.int .i64 r) (.int .i64 n) (.int .i64 g))
  clear A0
  go_wp2
  have d0 := RE.out.cell (i := 0) (by omega)
  have d1 := RE.out.cell (i := 1) (by omega)
  have d2 := RE.out.cell (i := 2) (by omega)
  simp at d0 d1 d2
  exact bodyPost_ret (v := .agg #[.int .i64 r, .int .i64 n, .int .i64 g]) (by simp [results, Try.results24, go_sem, d0, d1, d2]) rfl ⟨r, n, g, rfl, HOK.out, KE.out⟩

end Go.Proofs.Ytbjhppamolmpeaa
