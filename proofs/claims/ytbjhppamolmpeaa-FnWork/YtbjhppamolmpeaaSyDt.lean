/- The law's drawn system: contract. Conditions: those of each theorem. -/
import Derived.Test.YtbjhppamolmpeaaBzbi
namespace Go.Proofs.Ytbjhppamolmpeaa
open Go.ChangeShapes Go.WideShapes Go.ChangeAt Go.RowKit
set_option linter.unusedVariables false
set_option maxRecDepth 100000
set_option linter.unusedSimpArgs false

/-- A system out of a code. -/
def NewY (w : World) (e : Ending) (w' : World) : Prop := ∃ (s : Sy) (y : SyA), e = .returned (.agg #[.int .i64 s.r, .int .i64 s.q, .int .i64 s.p, .slice y.cA s.nA y.pA, .slice y.cB s.nB y.pB, .slice y.cC s.nC y.pC]) ∧ SyV w' s y ∧ sysb s = true ∧ s.r ≤ 2 ∧ s.q ≤ 3 ∧ Chg nob w w'
set_option maxHeartbeats 4000000 in
theorem sysDrawn_any (c : Option Addr) (len cap : Nat) (w : World) (h : Bytes w c len) (hl : (len : Int) ≤ 9223372036854775807) :
    Calls Try.prog 23 #[.slice c len cap] w fun e w' => NewY w e w' := by
  have K0 := hik ((Chg.refl nob w).alloc (.cells #[.int .i64 0, .int .i64 0, .int .i64 0, .slice none 0 0, .slice none 0 0, .slice none 0 0] 46))
  have A0 := hik (row6_new w (.int .i64 0) (.int .i64 0) (.int .i64 0) (.slice none 0 0) (.slice none 0 0) (.slice none 0 0) 46)
  go_enter Try.func23, Try.ntmps23
  go_wp2_with fail
  refine (l00Source_any c len cap _ (h.below K0.out.belowAll) hl).mono ?_
  rintro e W1 ⟨rfl, hs, hb⟩
  have k1 := chg_of_below hb
  have A1 := hik (rowIs_keep A0.out k1)
  have K1 := hik (K0.out.trans k1)
  have S1 := hik hs
  have l0 : w.heap.size < (w.alloc (.cells #[.int .i64 0, .int .i64 0, .int .i64 0, .slice none 0 0, .slice none 0 0, .slice none 0 0] 46)).heap.size := A0.out.lt
  clear hs hb k1 A0 K0
  generalize hE : w.alloc (.cells #[.int .i64 0, .int .i64 0, .int .i64 0, .slice none 0 0, .slice none 0 0, .slice none 0 0] 46) = W0 at S1 l0 ⊢
  clear hE
  have l1 : W0.heap.size < W1.heap.size := S1.out.lt
  go_wp2_with fail
  refine (sysD_any 0 _ _ S1.out (by omega)).mono ?_
  rintro e W2 ⟨s, y, rfl, hv, hok, hr, hq, hu, _, k2⟩
  have A2 := hik (rowIs_chg A1.out k2 (by omega))
  have K2 := hik (K1.out.near k2 (fun i e => by have e : i = W0.heap.size := e; omega))
  have V2 := hik hv
  have O2 := hik hok
  have U2 := hik hu
  clear hv hok hu k2 A1 K1 S1
  have z0 := A2.out.cell (i := 0) (by omega)
  have zf0 := A2.out.frozen 0
  have z1 := A2.out.cell (i := 1) (by omega)
  have zf1 := A2.out.frozen 1
  have z2 := A2.out.cell (i := 2) (by omega)
  have zf2 := A2.out.frozen 2
  have z3 := A2.out.cell (i := 3) (by omega)
  have zf3 := A2.out.frozen 3
  have z4 := A2.out.cell (i := 4) (by omega)
  have zf4 := A2.out.frozen 4
  have z5 := A2.out.cell (i := 5) (by omega)
  have zf5 := A2.out.frozen 5
  simp only [pv6] at z0 z1 z2 z3 z4 z5
  have QQ := hik (((((((Chg.refl (fun x => x = w.heap.size) W2).setCell (p := ⟨w.heap.size, 0, none⟩) (fun _ => rfl) (.int .i64 s.r)).setCell (p := ⟨w.heap.size, 1, none⟩) (fun _ => rfl) (.int .i64 s.q)).setCell (p := ⟨w.heap.size, 2, none⟩) (fun _ => rfl) (.int .i64 s.p)).setCell (p := ⟨w.heap.size, 3, none⟩) (fun _ => rfl) (.slice y.cA s.nA y.pA)).setCell (p := ⟨w.heap.size, 4, none⟩) (fun _ => rfl) (.slice y.cB s.nB y.pB)).setCell (p := ⟨w.heap.size, 5, none⟩) (fun _ => rfl) (.slice y.cC s.nC y.pC))
  have ZZ := hik (row6_all A2.out (.int .i64 s.r) (.int .i64 s.q) (.int .i64 s.p) (.slice y.cA s.nA y.pA) (.slice y.cB s.nB y.pB) (.slice y.cC s.nC y.pC))
  have u0 := ZZ.out.cell (i := 0) (by omega)
  have u1 := ZZ.out.cell (i := 1) (by omega)
  have u2 := ZZ.out.cell (i := 2) (by omega)
  have u3 := ZZ.out.cell (i := 3) (by omega)
  have u4 := ZZ.out.cell (i := 4) (by omega)
  have u5 := ZZ.out.cell (i := 5) (by omega)
  simp only [pv6] at u0 u1 u2 u3 u4 u5
  go_wp2
  exact bodyPost_ret (v := .agg #[.int .i64 s.r, .int .i64 s.q, .int .i64 s.p, .slice y.cA s.nA y.pA, .slice y.cB s.nB y.pB, .slice y.cC s.nC y.pC]) (by simp [results, Try.results23, go_sem, u0, u1, u2, u3, u4, u5]) rfl ⟨s, y, rfl, V2.out.upc U2.out QQ.out (fun i hi e => by have e : i = w.heap.size := e; omega), O2.out, hr, hq, K2.out.near QQ.out (fun i e => by have e : i = w.heap.size := e; omega)⟩

end Go.Proofs.Ytbjhppamolmpeaa
