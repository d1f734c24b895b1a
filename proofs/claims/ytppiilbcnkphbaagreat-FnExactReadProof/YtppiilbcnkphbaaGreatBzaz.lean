/- Several texts in one: Openings that come in as an argument: what their cells hold. No condition but those that each theorem states. · What the laws' sizes, copies and likenesses of proofs are: contracts; proofs that come in. Conditions: proofs that can be read, lengths of at most 2 to the 20. -/
import Derived.Test.YtppiilbcnkphbaaGreatBzai
import Derived.Test.YtppiilbcnkphbaaGreatBzao
import Derived.Deep.Strs
import Derived.Deep.SlicePairs
import Derived.Lib.SmallJoins
import Derived.OpenShut
import Derived.Test.YtppiilbcnkphbaaGreatBzaw
import Derived.Test.YtppiilbcnkphbaaGreatBzah
import Derived.Test.YtppiilbcnkphbaaGreatBzat
import Derived.Test.YtppiilbcnkphbaaGreatBzag
import Derived.Laws.Rows
namespace Go.Proofs.YtppiilbcnkphbaaGreat
open Go.ChangeShapes Go.WideShapes Go.ChangeAt Go.RowKit Go.Deep Go.Joins
set_option linter.unusedVariables false
set_option maxRecDepth 100000
set_option linter.unusedSimpArgs false

section
variable {H : Type} {enc : TypeId × Value → H} {w : World} {base : Nat} {spare : Nat → Bool} {held : Bool}
end

end Go.Proofs.YtppiilbcnkphbaaGreat

namespace Go.Proofs.YtppiilbcnkphbaaGreat
open Go.ChangeShapes Go.WideShapes Go.ChangeAt Go.RowKit
set_option linter.unusedVariables false
set_option maxRecDepth 100000
set_option linter.unusedSimpArgs false

open Go.Deep Go.Joins

set_option maxHeartbeats 4000000 in
theorem eqProof_d (p : PD) (a b : PA) (w : World) (h : Hid (PrV w p a)) (h' : Hid (PrV w p b)) (hs : Hid p.small) :
    Calls Tryz.prog 10 #[.agg #[.string p.rt, .slice a.cG p.ng a.pG, .int .i64 p.a0, .int .i64 p.a1, .int .i64 p.b0, .int .i64 p.b1, .int .i64 p.c0, .int .i64 p.c1, .slice a.cW p.nw a.pW, .int .i64 p.v0, .int .i64 p.v1, .slice a.cR p.op.nr a.pR, .slice a.cT p.op.nt a.pT, .int .i64 p.op.la, .int .i64 p.op.lb, .int .i64 p.op.no, .slice a.cQ p.op.nq a.pQ], .agg #[.string p.rt, .slice b.cG p.ng b.pG, .int .i64 p.a0, .int .i64 p.a1, .int .i64 p.b0, .int .i64 p.b1, .int .i64 p.c0, .int .i64 p.c1, .slice b.cW p.nw b.pW, .int .i64 p.v0, .int .i64 p.v1, .slice b.cR p.op.nr b.pR, .slice b.cT p.op.nt b.pT, .int .i64 p.op.la, .int .i64 p.op.lb, .int .i64 p.op.no, .slice b.cQ p.op.nq b.pQ]] w fun e w' => e = .returned (.bool true) ∧ Chg nob w w' := by
  have hrt : p.rt.size ≤ 1048576 := hs.out.1
  have R0 := hik (rowIs_keep (rowN_new w 17 #[.string p.rt, .slice a.cG p.ng a.pG, .int .i64 p.a0, .int .i64 p.a1, .int .i64 p.b0, .int .i64 p.b1, .int .i64 p.c0, .int .i64 p.c1, .slice a.cW p.nw a.pW, .int .i64 p.v0, .int .i64 p.v1, .slice a.cR p.op.nr a.pR, .slice a.cT p.op.nt a.pT, .int .i64 p.op.la, .int .i64 p.op.lb, .int .i64 p.op.no, .slice a.cQ p.op.nq a.pQ] 37 rfl) ((Chg.refl nob _).alloc (.cells #[.string p.rt, .slice b.cG p.ng b.pG, .int .i64 p.a0, .int .i64 p.a1, .int .i64 p.b0, .int .i64 p.b1, .int .i64 p.c0, .int .i64 p.c1, .slice b.cW p.nw b.pW, .int .i64 p.v0, .int .i64 p.v1, .slice b.cR p.op.nr b.pR, .slice b.cT p.op.nt b.pT, .int .i64 p.op.la, .int .i64 p.op.lb, .int .i64 p.op.no, .slice b.cQ p.op.nq b.pQ] 37)))
  have R1 := hik (rowN_new (w.alloc (.cells #[.string p.rt, .slice a.cG p.ng a.pG, .int .i64 p.a0, .int .i64 p.a1, .int .i64 p.b0, .int .i64 p.b1, .int .i64 p.c0, .int .i64 p.c1, .slice a.cW p.nw a.pW, .int .i64 p.v0, .int .i64 p.v1, .slice a.cR p.op.nr a.pR, .slice a.cT p.op.nt a.pT, .int .i64 p.op.la, .int .i64 p.op.lb, .int .i64 p.op.no, .slice a.cQ p.op.nq a.pQ] 37)) 17 #[.string p.rt, .slice b.cG p.ng b.pG, .int .i64 p.a0, .int .i64 p.a1, .int .i64 p.b0, .int .i64 p.b1, .int .i64 p.c0, .int .i64 p.c1, .slice b.cW p.nw b.pW, .int .i64 p.v0, .int .i64 p.v1, .slice b.cR p.op.nr b.pR, .slice b.cT p.op.nt b.pT, .int .i64 p.op.la, .int .i64 p.op.lb, .int .i64 p.op.no, .slice b.cQ p.op.nq b.pQ] 37 rfl)
  have K0 := hik (((Chg.refl nob w).alloc (.cells #[.string p.rt, .slice a.cG p.ng a.pG, .int .i64 p.a0, .int .i64 p.a1, .int .i64 p.b0, .int .i64 p.b1, .int .i64 p.c0, .int .i64 p.c1, .slice a.cW p.nw a.pW, .int .i64 p.v0, .int .i64 p.v1, .slice a.cR p.op.nr a.pR, .slice a.cT p.op.nt a.pT, .int .i64 p.op.la, .int .i64 p.op.lb, .int .i64 p.op.no, .slice a.cQ p.op.nq a.pQ] 37)).alloc (.cells #[.string p.rt, .slice b.cG p.ng b.pG, .int .i64 p.a0, .int .i64 p.a1, .int .i64 p.b0, .int .i64 p.b1, .int .i64 p.c0, .int .i64 p.c1, .slice b.cW p.nw b.pW, .int .i64 p.v0, .int .i64 p.v1, .slice b.cR p.op.nr b.pR, .slice b.cT p.op.nt b.pT, .int .i64 p.op.la, .int .i64 p.op.lb, .int .i64 p.op.no, .slice b.cQ p.op.nq b.pQ] 37))
  rw [asz] at R1
  have hbb : (p.rt.toList == p.rt.toList) = true := by simp
  go_enter Tryz.func10, Tryz.ntmps10
  go_wp2_with fail
  generalize hW : (w.alloc (.cells #[.string p.rt, .slice a.cG p.ng a.pG, .int .i64 p.a0, .int .i64 p.a1, .int .i64 p.b0, .int .i64 p.b1, .int .i64 p.c0, .int .i64 p.c1, .slice a.cW p.nw a.pW, .int .i64 p.v0, .int .i64 p.v1, .slice a.cR p.op.nr a.pR, .slice a.cT p.op.nt a.pT, .int .i64 p.op.la, .int .i64 p.op.lb, .int .i64 p.op.no, .slice a.cQ p.op.nq a.pQ] 37)).alloc (.cells #[.string p.rt, .slice b.cG p.ng b.pG, .int .i64 p.a0, .int .i64 p.a1, .int .i64 p.b0, .int .i64 p.b1, .int .i64 p.c0, .int .i64 p.c1, .slice b.cW p.nw b.pW, .int .i64 p.v0, .int .i64 p.v1, .slice b.cR p.op.nr b.pR, .slice b.cT p.op.nt b.pT, .int .i64 p.op.la, .int .i64 p.op.lb, .int .i64 p.op.no, .slice b.cQ p.op.nq b.pQ] 37) = W0 at R0 R1 K0 ⊢
  clear hW
  refine (eqExtSS_d a.cG b.cG p.ng a.pG b.pG p.gl p.gf p.gg _ (hik (h.out.1.keep K0.out)) (hik (h'.out.1.keep K0.out)) (hik hs.out.2.1)).mono ?_
  rintro e W1 ⟨rfl, kk⟩
  have G1 := hik (K0.out.trans kk)
  replace R0 := hik (rowIs_keep R0.out kk)
  replace R1 := hik (rowIs_keep R1.out kk)
  clear kk
  have x2 : _ = some (.int .i64 p.a0 : Value) := R0.out.cell (i := 2) (by omega)
  have y2 : _ = some (.int .i64 p.a0 : Value) := R1.out.cell (i := 2) (by omega)
  have x3 : _ = some (.int .i64 p.a1 : Value) := R0.out.cell (i := 3) (by omega)
  have y3 : _ = some (.int .i64 p.a1 : Value) := R1.out.cell (i := 3) (by omega)
  go_wp2_with fail
  refine (eqExt_any p.a0 p.a1 _).mono ?_
  rintro e W2 ⟨rfl, kk⟩
  have G2 := hik (G1.out.trans kk)
  replace R0 := hik (rowIs_keep R0.out kk)
  replace R1 := hik (rowIs_keep R1.out kk)
  clear kk x2 y2 x3 y3
  have x4 : _ = some (.int .i64 p.b0 : Value) := R0.out.cell (i := 4) (by omega)
  have y4 : _ = some (.int .i64 p.b0 : Value) := R1.out.cell (i := 4) (by omega)
  have x5 : _ = some (.int .i64 p.b1 : Value) := R0.out.cell (i := 5) (by omega)
  have y5 : _ = some (.int .i64 p.b1 : Value) := R1.out.cell (i := 5) (by omega)
  go_wp2_with fail
  refine (eqExt_any p.b0 p.b1 _).mono ?_
  rintro e W3 ⟨rfl, kk⟩
  have G3 := hik (G2.out.trans kk)
  replace R0 := hik (rowIs_keep R0.out kk)
  replace R1 := hik (rowIs_keep R1.out kk)
  clear kk x4 y4 x5 y5
  have x6 : _ = some (.int .i64 p.c0 : Value) := R0.out.cell (i := 6) (by omega)
  have y6 : _ = some (.int .i64 p.c0 : Value) := R1.out.cell (i := 6) (by omega)
  have x7 : _ = some (.int .i64 p.c1 : Value) := R0.out.cell (i := 7) (by omega)
  have y7 : _ = some (.int .i64 p.c1 : Value) := R1.out.cell (i := 7) (by omega)
  go_wp2_with fail
  refine (eqExt_any p.c0 p.c1 _).mono ?_
  rintro e W4 ⟨rfl, kk⟩
  have G4 := hik (G3.out.trans kk)
  replace R0 := hik (rowIs_keep R0.out kk)
  replace R1 := hik (rowIs_keep R1.out kk)
  clear kk x6 y6 x7 y7
  have x8 : _ = some (.slice a.cW p.nw a.pW : Value) := R0.out.cell (i := 8) (by omega)
  have y8 : _ = some (.slice b.cW p.nw b.pW : Value) := R1.out.cell (i := 8) (by omega)
  go_wp2_with fail
  refine (eqExtSS_d a.cW b.cW p.nw a.pW b.pW p.wl p.wf p.wg _ (hik (h.out.2.1.keep G4.out)) (hik (h'.out.2.1.keep G4.out)) (hik hs.out.2.2.1)).mono ?_
  rintro e W5 ⟨rfl, kk⟩
  have G5 := hik (G4.out.trans kk)
  replace R0 := hik (rowIs_keep R0.out kk)
  replace R1 := hik (rowIs_keep R1.out kk)
  clear kk x8 y8
  have x9 : _ = some (.int .i64 p.v0 : Value) := R0.out.cell (i := 9) (by omega)
  have y9 : _ = some (.int .i64 p.v0 : Value) := R1.out.cell (i := 9) (by omega)
  have x10 : _ = some (.int .i64 p.v1 : Value) := R0.out.cell (i := 10) (by omega)
  have y10 : _ = some (.int .i64 p.v1 : Value) := R1.out.cell (i := 10) (by omega)
  go_wp2_with fail
  refine (eqExt_any p.v0 p.v1 _).mono ?_
  rintro e W6 ⟨rfl, kk⟩
  have G6 := hik (G5.out.trans kk)
  replace R0 := hik (rowIs_keep R0.out kk)
  replace R1 := hik (rowIs_keep R1.out kk)
  clear kk x9 y9 x10 y10
  have x11 : _ = some (.slice a.cR p.op.nr a.pR : Value) := R0.out.cell (i := 11) (by omega)
  have y11 : _ = some (.slice b.cR p.op.nr b.pR : Value) := R1.out.cell (i := 11) (by omega)
  have x12 : _ = some (.slice a.cT p.op.nt a.pT : Value) := R0.out.cell (i := 12) (by omega)
  have y12 : _ = some (.slice b.cT p.op.nt b.pT : Value) := R1.out.cell (i := 12) (by omega)
  have x13 : _ = some (.int .i64 p.op.la : Value) := R0.out.cell (i := 13) (by omega)
  have y13 : _ = some (.int .i64 p.op.la : Value) := R1.out.cell (i := 13) (by omega)
  have x14 : _ = some (.int .i64 p.op.lb : Value) := R0.out.cell (i := 14) (by omega)
  have y14 : _ = some (.int .i64 p.op.lb : Value) := R1.out.cell (i := 14) (by omega)
  have x15 : _ = some (.int .i64 p.op.no : Value) := R0.out.cell (i := 15) (by omega)
  have y15 : _ = some (.int .i64 p.op.no : Value) := R1.out.cell (i := 15) (by omega)
  have x16 : _ = some (.slice a.cQ p.op.nq a.pQ : Value) := R0.out.cell (i := 16) (by omega)
  have y16 : _ = some (.slice b.cQ p.op.nq b.pQ : Value) := R1.out.cell (i := 16) (by omega)
  go_wp2_with fail
  refine (eqOpening_d p.op a.cR a.pR a.cT a.pT a.cQ a.pQ b.cR b.pR b.cT b.pT b.cQ b.pQ _ (hik (h.out.2.2.keep G6.out)) (hik (h'.out.2.2.keep G6.out)) (hik hs.out.2.2.2)).mono ?_
  rintro e W7 ⟨rfl, kk⟩
  have G7 := hik (G6.out.trans kk)
  replace R0 := hik (rowIs_keep R0.out kk)
  replace R1 := hik (rowIs_keep R1.out kk)
  clear kk x11 y11 x12 y12 x13 y13 x14 y14 x15 y15 x16 y16
  go_wp2
  go_ret
  exact ⟨rfl, G7.out⟩

/-- A proof's cells. -/
def pfv (p : PD) (a : PA) (i : Nat) : Value := (#[.string p.rt, .slice a.cG p.ng a.pG, .int .i64 p.a0, .int .i64 p.a1, .int .i64 p.b0, .int .i64 p.b1, .int .i64 p.c0, .int .i64 p.c1, .slice a.cW p.nw a.pW, .int .i64 p.v0, .int .i64 p.v1, .slice a.cR p.op.nr a.pR, .slice a.cT p.op.nt a.pT, .int .i64 p.op.la, .int .i64 p.op.lb, .int .i64 p.op.no, .slice a.cQ p.op.nq a.pQ] : Array Value).getD i undef
theorem infoPf : (Tryz.prog.info? 37).map (·.size) = some 17 := by kernel_rfl
theorem pfv_one (p : PD) (a : PA) (i : Nat) (hi : i < 17) : (pfv p a i).oneCell' = true := by
  rcases (show i = 0 ∨ i = 1 ∨ i = 2 ∨ i = 3 ∨ i = 4 ∨ i = 5 ∨ i = 6 ∨ i = 7 ∨ i = 8 ∨ i = 9 ∨ i = 10 ∨ i = 11 ∨ i = 12 ∨ i = 13 ∨ i = 14 ∨ i = 15 ∨ i = 16 by omega) with rfl | rfl | rfl | rfl | rfl | rfl | rfl | rfl | rfl | rfl | rfl | rfl | rfl | rfl | rfl | rfl | rfl <;> rfl
/-- An opening of a call's own, in blocks from lo to hi. -/
def OpW (w : World) (lo hi : Nat) (o : OD) (cR : Option Addr) (pR : Nat) (cT : Option Addr) (pT : Nat) (cQ : Option Addr) (pQ : Nat) : Prop := OpF w (Iv lo hi) o cR pR cT pT cQ pQ
theorem OpW.of {w : World} {lo m1 m2 hi : Nat} {o : OD} {cR : Option Addr} {pR : Nat} {cT : Option Addr} {pT : Nat} {cQ : Option Addr} {pQ : Nat} (h : OpO w lo m1 m2 hi o cR pR cT pT cQ pQ) : OpW w lo hi o cR pR cT pT cQ pQ := OpF.of h
theorem OpW.chg {P : Nat → Prop} {w w' : World} {lo hi : Nat} {o : OD} {cR : Option Addr} {pR : Nat} {cT : Option Addr} {pT : Nat} {cQ : Option Addr} {pQ : Nat} (h : OpW w lo hi o cR pR cT pT cQ pQ) (k : Chg P w w') (hp : ∀ b, lo ≤ b → b < hi → ¬ P b) : OpW w' lo hi o cR pR cT pT cQ pQ := OpF.chg h k (fun c hc => hp c hc.1 hc.2)
theorem OpW.keep {w w' : World} {lo hi : Nat} {o : OD} {cR : Option Addr} {pR : Nat} {cT : Option Addr} {pT : Nat} {cQ : Option Addr} {pQ : Nat} (h : OpW w lo hi o cR pR cT pT cQ pQ) (k : Chg nob w w') : OpW w' lo hi o cR pR cT pT cQ pQ := OpF.keep h k
/-- A proof of a call's own, in blocks from lo to hi. -/
def PrO (w : World) (lo hi : Nat) (p : PD) (a : PA) : Prop :=
  ∃ SG MG SW MW SO : Nat → Prop, (dEEf p.ng p.gl p.gf p.gg).Own w SG MG (.slice a.cG p.ng a.pG) ∧ (dEEf p.nw p.wl p.wf p.wg).Own w SW MW (.slice a.cW p.nw a.pW) ∧ OpF w SO p.op a.cR a.pR a.cT a.pT a.cQ a.pQ ∧ (∀ c, SG c ∨ SW c ∨ SO c → lo ≤ c ∧ c < hi) ∧ (∀ c, MG c → ¬ SW c ∧ ¬ SO c) ∧ (∀ c, MW c → ¬ SG c ∧ ¬ SO c) ∧ (∀ c, SO c → ¬ SG c ∧ ¬ SW c)
theorem PrO.rep {w : World} {lo hi : Nat} {p : PD} {a : PA} (h : PrO w lo hi p a) : PrV w p a := by
  obtain ⟨SG, MG, SW, MW, SO, oG, oW, oO, _⟩ := h
  exact ⟨(dEEf p.ng p.gl p.gf p.gg).rep oG, (dEEf p.nw p.wl p.wf p.wg).rep oW, oO.rep⟩
theorem PrO.chg {P : Nat → Prop} {w w' : World} {lo hi : Nat} {p : PD} {a : PA} (h : PrO w lo hi p a) (k : Chg P w w') (hp : ∀ b, lo ≤ b → b < hi → ¬ P b) : PrO w' lo hi p a := by
  obtain ⟨SG, MG, SW, MW, SO, oG, oW, oO, hs, q⟩ := h
  exact ⟨SG, MG, SW, MW, SO, (dEEf p.ng p.gl p.gf p.gg).chg k oG (fun c hc => hp c (hs c (.inl hc)).1 (hs c (.inl hc)).2), (dEEf p.nw p.wl p.wf p.wg).chg k oW (fun c hc => hp c (hs c (.inr (.inl hc))).1 (hs c (.inr (.inl hc))).2), oO.chg k (fun c hc => hp c (hs c (.inr (.inr hc))).1 (hs c (.inr (.inr hc))).2), hs, q⟩
theorem PrO.keep {w w' : World} {lo hi : Nat} {p : PD} {a : PA} (h : PrO w lo hi p a) (k : Chg nob w w') : PrO w' lo hi p a := h.chg k (fun _ _ _ x => x)
theorem PrO.mk9 {w : World} {l1 u1 l2 u2 l3 u3 t lo hi : Nat} {p : PD} {a : PA} (h1 : lo + 1 + 1 + 1 ≤ l1) (o1 : p.G.Own w l1 u1 (.slice a.cG p.ng a.pG)) (h2 : u1 ≤ l2) (o2 : p.W.Own w l2 u2 (.slice a.cW p.nw a.pW)) (h3 : u2 ≤ l3) (o3 : OpW w l3 u3 p.op a.cR a.pR a.cT a.pT a.cQ a.pQ) (b1 : u1 ≤ t) (b2 : u2 ≤ t) (b3 : u3 ≤ t) (h5 : t ≤ hi) (e2 : lo + 1 + 1 + 1 ≤ l2) (e3 : lo + 1 + 1 + 1 ≤ l3) (h13 : u1 ≤ l3) : PrO w lo hi p a := by
  refine ⟨Iv l1 u1, Iv l1 u1, Iv l2 u2, Iv l2 u2, Iv l3 u3, dEEf_of o1, dEEf_of o2, o3, fun c hc => ?_, fun c hc => ⟨fun q => ?_, fun q => ?_⟩, fun c hc => ⟨fun q => ?_, fun q => ?_⟩, fun c hc => ⟨fun q => ?_, fun q => ?_⟩⟩ <;> unfold Iv at * <;> omega

section
variable {H : Type} {enc : TypeId × Value → H} {w : World} {base : Nat} {spare : Nat → Bool} {held : Bool}
end

end Go.Proofs.YtppiilbcnkphbaaGreat
