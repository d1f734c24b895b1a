/- Several texts in one: Words on memory: what is there stays there. No program is named here. · The program's map of a matrix: entries taken into it; entries within a matrix: contracts. -/
import Derived.Test.YtbjhppamolmpeaaBzad
import Derived.WalkKit
import Derived.Test.YtbjhppamolmpeaaBzak
import Derived.Test.YtbjhppamolmpeaaBzab
namespace Go.Proofs.Ytbjhppamolmpeaa
open Go.RowKit

/-- What was there is there. -/
theorem Chg.look {w w' : World} (h : Chg nob w w') {b o : Nat} {v : Value} (c : w.cell? ⟨b, o, none⟩ = some v) : w'.cell? ⟨b, o, none⟩ = some v :=
  (h.cell (p := ⟨b, o, none⟩) (World.block_lt_of_cell? w _ c) (fun x => x)).trans c

end Go.Proofs.Ytbjhppamolmpeaa

namespace Go.Proofs.Ytbjhppamolmpeaa
open Go.ChangeShapes Go.WideShapes Go.ChangeAt Go.RowKit
open Go.Maps (Keyed IsMap Tidy)
set_option linter.unusedVariables false
set_option maxRecDepth 100000
set_option linter.unusedSimpArgs false

theorem wf64 {a : Int} (h0 : -9223372036854775808 ≤ a) (h1 : a ≤ 9223372036854775807) : (Lit.int .i64 a).wf = true := by
  exact WalkArith.wf_i64 ⟨h0, h1⟩

/-- Block b is a map of places. -/
def Grd (w : World) (b n : Nat) (D : DataW Unit) : Prop := w.ownsMap Try.prog 91 (plainElem Try.prog 3) b n D
theorem Grd.chg {P : Nat → Prop} {w w' : World} {b n : Nat} {D : DataW Unit} (h : Grd w b n D) (k : Chg P w w') (hp : ¬ P b) : Grd w' b n D := by
  have hl := h.lt
  obtain ⟨es, ck, hb, r⟩ := h
  exact ⟨es, ck, (k.block b hl hp).trans hb, r⟩
theorem Grd.keep {w w' : World} {b n : Nat} {D : DataW Unit} (h : Grd w b n D) (k : Chg nob w w') : Grd w' b n D := h.chg k (fun x => x)
theorem Grd.mapAt {w : World} {b n : Nat} {D : DataW Unit} (h : Grd w b n D) : ∃ es ck, w.heap[b]? = some (.map es ck) := by
  obtain ⟨es, ck, hb, _⟩ := h
  exact ⟨es, ck, hb⟩

set_option maxHeartbeats 4000000 in
theorem within_any (x : En) (R C : Int) (w : World) : Calls Try.prog 68 #[.agg #[.int .i64 x.1, .int .i64 x.2.1, .int .i64 x.2.2], .int .i64 R, .int .i64 C] w fun e w' => e = .returned (.bool (win R C x)) ∧ Chg nob w w' := by
  obtain ⟨r, c, v⟩ := x
  have KK := hik ((Chg.refl nob w).alloc (.cells #[.int .i64 r, .int .i64 c, .int .i64 v] 69))
  unfold win
  go_enter Try.func68, Try.ntmps68
  go_wp2
  all_goals
    go_ret
    refine ⟨?_, KK.out⟩
    simp_all <;> omega

set_option maxHeartbeats 4000000 in
theorem take_any (b n0 : Nat) (D0 : DataW Unit) (c : Option Addr) (n cap : Nat) (X : Nat → En) (w : World) (hg : Hid (Grd w b n0 D0)) (hv : Hid (EntV w c n X)) (hn : n ≤ 200) (hw : Hid (∀ i, i < n → (Lit.int .i64 (X i).1).wf = true ∧ (Lit.int .i64 (X i).2.1).wf = true ∧ (Lit.int .i64 (X i).2.2).wf = true)) :
    Calls Try.prog 76 #[.map (some b), .slice c n cap] w fun e w' => e = .returned (.tuple #[]) ∧ (∃ D, Grd w' b n D ∧ Fmd D (fmE X n)) ∧ Chg (fun k => k = b) w w' := by
  have HB := hik (show ∀ xb xo, c = some ⟨xb, xo, none⟩ → 0 < n → xb ≠ b from by obtain ⟨es, ck, hb⟩ := hg.out.mapAt; exact hv.out.noMap hb)
  obtain ⟨w1, hclr, h1, k1⟩ := run_clear_own (ty := 0) hg.out Try.underlying73
  have hclr : ∀ ty, (Builtin.clear_ #[73] ty #[.map (some b)]).run Try.prog w = .ok (.tuple #[]) w1 := fun _ => hclr
  have G1 := hik (show Grd w1 b 0 (.map []) from h1)
  have K1 := hik k1
  have V1 := hik (hv.out.chg k1 (fun xb xo e hp _ => HB.out xb xo e hp))
  clear h1 k1 hg hv
  go_enter Try.func76, Try.ntmps76
  go_wp2
  clear hclr
  go_loopw [9] (fun s9 wr => ∃ k : Nat, k ≤ n ∧ s9 = .int .i64 k ∧ Hid (∃ D, Grd wr b k D ∧ Fmd D (fmE X k)) ∧ Hid (Chg (fun i => i = b) w wr) ∧ Hid (EntV wr c n X)) (fun s9 _ => n - (intOf s9).toNat)
  case atStart => exact ⟨0, Nat.zero_le _, rfl, hik ⟨_, G1.out, Fmd.empty X⟩, K1, V1⟩
  case round =>
    obtain ⟨k, hk, rfl, GD, KW, VW⟩ := hrel
    by_cases hlt : k < n
    · obtain ⟨xb, xo, rfl, hxb, c0, c1, c2⟩ := VW.out k hlt
      obtain ⟨wx, wy, wz⟩ := hw.out k hlt
      obtain ⟨D, gD, fD⟩ := GD.out
      have hkey := keyC wx wy
      have hkn : ((k : Nat) : Int) < n := by omega
      have HX := hik fD
      have HXb := hik hxb
      generalize hx1 : (X k).1 = x1 at c0 wx hkey
      generalize hx2 : (X k).2.1 = x2 at c1 wy hkey
      generalize hx3 : (X k).2.2 = x3 at c2 wz
      have HE := hik (And.intro hx1 (And.intro hx2 hx3))
      clear hx1 hx2 hx3 fD
      have gA := hik (gD.alloc (.cells #[.int .i64 x1, .int .i64 x2, .int .i64 x3] 69))
      clear gD
      go_wp2_with (at_mapUpdate; refine wpList_mapUpdate_own _ rfl _ _ _ 73 rfl 91 3 lawC Try.underlying73 _ b k D rfl gA.out (by unfold maxLen; omega) _ _ (kyE x1 x2) rfl rfl hkey (.lit (.int .i64 x3)) [] (plainElem_int Try.underlying3 wz) ?_; intro w2 hown2 hgrow2)
      go_wp2
      go_roundw
      case rel =>
        obtain ⟨e1, e2, e3⟩ := HE.out
        subst e1 e2 e3
        refine ⟨k + 1, by omega, by go_num, hik ⟨_, hown2, HX.out.put gA.out.isMap wx wy⟩, hik ((KW.out.alloc _).grown hgrow2 (fun i e _ => by cases e; rfl)), hik ?_⟩
        exact VW.out.chg (((Chg.refl (fun i => i = b) _).alloc _).grown hgrow2 (fun i e _ => by cases e; rfl)) (fun yb yo e hp _ => HB.out yb yo e hp)
      case measure => simp [intOf]; omega
    · obtain rfl : k = n := by omega
      go_wp2
      go_end0
      exact ⟨rfl, GD.out, KW.out⟩

end Go.Proofs.Ytbjhppamolmpeaa
