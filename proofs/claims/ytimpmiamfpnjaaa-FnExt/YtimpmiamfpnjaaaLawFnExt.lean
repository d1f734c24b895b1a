/- For all codes (slices of bytes): the law FnExt holds: the greater field is one, x squared is 3, norms multiply. No condition. -/
import Derived.Test.YtimpmiamfpnjaaaRows
import Derived.WalkKit
import Derived.ProofKit
import Derived.OpenShut
import Derived.Test.YtimpmiamfpnjaaaSrcC
import Derived.Test.YtimpmiamfpnjaaaApp7
import Derived.Test.YtimpmiamfpnjaaaExtK
import Derived.Test.YtimpmiamfpnjaaaLawH
import Derived.ShutString
import Derived.ChangeOld
import Derived.Below
namespace Go.Proofs.Ytimpmiamfpnjaaa.fnExt
open Go.ChangeShapes Go.WideShapes Go.ChangeAt Go.RowKit
open Go.ChangeMaps (open_string shut_string)
set_option linter.unusedVariables false

theorem own : ownKnob Try.prog.godebug = none := by kernel_rfl
theorem laidOut : laidOutB Try.prog = true := by kernel_rfl

/-- WHAT THE WALK IS TOLD OF A SLICE OF INTEGERS THAT CAME IN: it is nil; or it leads to a row of 'cap' cells, the numbers 'zs' (the first 'len' are its elements, the rest its spare room), each fitting its kind. -/
def IsRow (k : IntKind) (w : World) (a : Option Addr) (len cap : Nat) (zs : List Int) : Prop :=
  (a = none ∧ len = 0 ∧ cap = 0 ∧ zs = []) ∨
  ∃ x, a = some x ∧ len ≤ cap ∧ cap ≤ maxLen ∧ zs.length = cap ∧ (∀ i, i < zs.length → w.cell? (x.add i) = some (.int k (zs.getD i 0))) ∧ ∀ n ∈ zs, (Lit.int k n).wf = true

set_option maxRecDepth 100000 in
set_option maxHeartbeats 4000000 in
theorem walk (a0 : Option Addr) (len0 cap0 : Nat) (z0 : List Int) (a1 : Option Addr) (len1 cap1 : Nat) (z1 : List Int) (w : World) (w0 : IsRow .u8 w a0 len0 cap0 z0) (w1 : IsRow .u8 w a1 len1 cap1 z1) :
    Calls Try.prog 6 #[.slice a0 len0 cap0, .slice a1 len1 cap1] w fun e w' => e = .returned (.bool true) ∧ Below w.heap.size w w' := by
  obtain ⟨hB0, hl0⟩ := bytes_of_row w0
  obtain ⟨hB1, hl1⟩ := bytes_of_row w1
  have HB0 := hide hB0
  have HB1 := hide hB1
  clear w0 w1 hB0 hB1
  by_cases hm : 1048576 < len0
  · have hm' : 1048576 < (len0 : Int) := by omega
    go_enter Try.func6, Try.ntmps6
    go_wp2_with fail
    go_ret
    exact ⟨rfl, Below.refl _ _⟩
  by_cases hn : 1048576 < len1
  · have hm' : ¬ 1048576 < (len0 : Int) := by omega
    have hn' : 1048576 < (len1 : Int) := by omega
    go_enter Try.func6, Try.ntmps6
    go_wp2_with fail
    go_ret
    exact ⟨rfl, Below.refl _ _⟩
  have hm' : ¬ 1048576 < (len0 : Int) := by omega
  have hn' : ¬ 1048576 < (len1 : Int) := by omega
  go_enter Try.func6, Try.ntmps6
  go_wp2_with fail
  refine (extOf_any a0 len0 cap0 _ HB0.out hl0).mono ?_
  rintro e W1 ⟨x1, y1, rfl, ha, kk⟩
  have K1 : Hid (Chg nob w W1) := hide (kk)
  have G1 : Hid (Chg nob w W1) := K1
  have HA := hide ha
  clear ha
  clear K1 kk
  go_wp2_with fail
  refine (extOf_any a1 len1 cap1 _ (HB1.out.below ((G1.out.alloc _).toBelow)) hl1).mono ?_
  rintro e W2 ⟨x2, y2, rfl, hb, kk⟩
  have K2 : Hid (Chg nob W1 W2) := hide (((Chg.refl nob W1).alloc (.cells #[.int .i64 (x1), .int .i64 (y1)] 37)).trans kk)
  have G2 : Hid (Chg nob w W2) := hide (G1.out.trans K2.out)
  have Ea2 : Hid (Elem W2 W1.heap.size (x1) (y1)) := hide ((Elem.new W1 (x1) (y1) 37).keep kk)
  have HB := hide hb
  clear hb
  clear G1 K2 kk
  go_wp2_with (at_builtin; refine wp_app7 _ rfl (.tmp 46) (.tmp 47) rfl (W2.heap.size + 1) rfl ?c1 a1 len1 cap1 rfl ?c2 (by omega) ?c3)
  case c1 => go_simp
  case c2 => exact HB1.out.below (((G2.out.alloc _).alloc _).toBelow)
  case c3 =>
    intro c' cap' W3 hb3 hw3
    have kk0 := Chg.of_below (hw3.mono (by simp))
    have K3 : Hid (Chg nob W2 W3) := hide ((((Chg.refl nob W2).alloc _).alloc _).trans kk0)
    have G3 : Hid (Chg nob w W3) := hide (G2.out.trans K3.out)
    have Ea3 : Hid (Elem W3 W1.heap.size x1 y1) := hide (Ea2.out.keep K3.out)
    have Eb3 : Hid (Elem W3 W2.heap.size x2 y2) := hide ((Elem.new W2 x2 y2 37).keep (((Chg.refl nob _).alloc _).trans kk0))
    have HB3 := hide hb3
    clear hb3 hw3 kk0 K3 G2 Ea2 HB0 HB1
    go_wp2_with fail
    refine (extOf_any c' (1 + len1) cap' _ HB3.out (by omega)).mono ?_
    rintro e W4 ⟨x3, y3, rfl, hc, kk⟩
    have K4 : Hid (Chg nob W3 W4) := hide (kk)
    have G4 : Hid (Chg nob w W4) := hide (G3.out.trans K4.out)
    have Ea4 : Hid (Elem W4 W1.heap.size (x1) (y1)) := hide (Ea3.out.keep K4.out)
    have Eb4 : Hid (Elem W4 W2.heap.size (x2) (y2)) := hide (Eb3.out.keep K4.out)
    have HC := hide hc
    clear hc HB3
    clear Ea3 Eb3 G3 K4 kk
    have va0 := ((Chg.refl nob W4).alloc (.cells #[.int .i64 (x3), .int .i64 (y3)] 37)).look Ea4.out.c0
    have va1 := ((Chg.refl nob W4).alloc (.cells #[.int .i64 (x3), .int .i64 (y3)] 37)).look Ea4.out.c1
    have vb0 := ((Chg.refl nob W4).alloc (.cells #[.int .i64 (x3), .int .i64 (y3)] 37)).look Eb4.out.c0
    have vb1 := ((Chg.refl nob W4).alloc (.cells #[.int .i64 (x3), .int .i64 (y3)] 37)).look Eb4.out.c1
    go_wp2_with fail
    refine (extAdd_ok _ _ _ _ _ HA.out HB.out).mono ?_
    rintro e W5 ⟨rfl, kk⟩
    clear va0 va1 vb0 vb1
    have K5 : Hid (Chg nob W4 W5) := hide (((Chg.refl nob W4).alloc (.cells #[.int .i64 (x3), .int .i64 (y3)] 37)).trans kk)
    have G5 : Hid (Chg nob w W5) := hide (G4.out.trans K5.out)
    have Ea5 : Hid (Elem W5 W1.heap.size (x1) (y1)) := hide (Ea4.out.keep K5.out)
    have Eb5 : Hid (Elem W5 W2.heap.size (x2) (y2)) := hide (Eb4.out.keep K5.out)
    have Ec5 : Hid (Elem W5 W4.heap.size (x3) (y3)) := hide ((Elem.new W4 (x3) (y3) 37).keep kk)
    clear Ea4 Eb4 G4 K5 kk
    have va0 := ((Chg.refl nob W5).alloc (.cells #[.int .i64 ((x1 + x2) % 2130706433), .int .i64 ((y1 + y2) % 2130706433)] 37)).look Ea5.out.c0
    have va1 := ((Chg.refl nob W5).alloc (.cells #[.int .i64 ((x1 + x2) % 2130706433), .int .i64 ((y1 + y2) % 2130706433)] 37)).look Ea5.out.c1
    have vb0 := ((Chg.refl nob W5).alloc (.cells #[.int .i64 ((x1 + x2) % 2130706433), .int .i64 ((y1 + y2) % 2130706433)] 37)).look Eb5.out.c0
    have vb1 := ((Chg.refl nob W5).alloc (.cells #[.int .i64 ((x1 + x2) % 2130706433), .int .i64 ((y1 + y2) % 2130706433)] 37)).look Eb5.out.c1
    go_wp2_with fail
    refine (extMul_ok _ _ _ _ _ HA.out HB.out).mono ?_
    rintro e W6 ⟨rfl, kk⟩
    clear va0 va1 vb0 vb1
    have K6 : Hid (Chg nob W5 W6) := hide (((Chg.refl nob W5).alloc (.cells #[.int .i64 ((x1 + x2) % 2130706433), .int .i64 ((y1 + y2) % 2130706433)] 37)).trans kk)
    have G6 : Hid (Chg nob w W6) := hide (G5.out.trans K6.out)
    have Ea6 : Hid (Elem W6 W1.heap.size (x1) (y1)) := hide (Ea5.out.keep K6.out)
    have Eb6 : Hid (Elem W6 W2.heap.size (x2) (y2)) := hide (Eb5.out.keep K6.out)
    have Ec6 : Hid (Elem W6 W4.heap.size (x3) (y3)) := hide (Ec5.out.keep K6.out)
    have Es6 : Hid (Elem W6 W5.heap.size ((x1 + x2) % 2130706433) ((y1 + y2) % 2130706433)) := hide ((Elem.new W5 ((x1 + x2) % 2130706433) ((y1 + y2) % 2130706433) 37).keep kk)
    clear Ea5 Eb5 Ec5 G5 K6 kk
    have vs0 := ((Chg.refl nob W6).alloc (.cells #[.int .i64 (Fld.mA x1 y1 x2 y2), .int .i64 (Fld.mB x1 y1 x2 y2)] 37)).look Es6.out.c0
    have vs1 := ((Chg.refl nob W6).alloc (.cells #[.int .i64 (Fld.mA x1 y1 x2 y2), .int .i64 (Fld.mB x1 y1 x2 y2)] 37)).look Es6.out.c1
    have vb0 := ((Chg.refl nob W6).alloc (.cells #[.int .i64 (Fld.mA x1 y1 x2 y2), .int .i64 (Fld.mB x1 y1 x2 y2)] 37)).look Eb6.out.c0
    have vb1 := ((Chg.refl nob W6).alloc (.cells #[.int .i64 (Fld.mA x1 y1 x2 y2), .int .i64 (Fld.mB x1 y1 x2 y2)] 37)).look Eb6.out.c1
    go_wp2_with fail
    refine (extSub_undo _ _ _ _ _ HA.out HB.out).mono ?_
    rintro e W7 ⟨rfl, kk⟩
    clear vs0 vs1 vb0 vb1
    have K7 : Hid (Chg nob W6 W7) := hide (((Chg.refl nob W6).alloc (.cells #[.int .i64 (Fld.mA x1 y1 x2 y2), .int .i64 (Fld.mB x1 y1 x2 y2)] 37)).trans kk)
    have G7 : Hid (Chg nob w W7) := hide (G6.out.trans K7.out)
    have Ea7 : Hid (Elem W7 W1.heap.size (x1) (y1)) := hide (Ea6.out.keep K7.out)
    have Eb7 : Hid (Elem W7 W2.heap.size (x2) (y2)) := hide (Eb6.out.keep K7.out)
    have Ec7 : Hid (Elem W7 W4.heap.size (x3) (y3)) := hide (Ec6.out.keep K7.out)
    have Es7 : Hid (Elem W7 W5.heap.size ((x1 + x2) % 2130706433) ((y1 + y2) % 2130706433)) := hide (Es6.out.keep K7.out)
    have Ep7 : Hid (Elem W7 W6.heap.size (Fld.mA x1 y1 x2 y2) (Fld.mB x1 y1 x2 y2)) := hide ((Elem.new W6 (Fld.mA x1 y1 x2 y2) (Fld.mB x1 y1 x2 y2) 37).keep kk)
    clear Ea6 Eb6 Ec6 Es6 G6 K7 kk
    have vs0 := ((Chg.refl nob W7).alloc (.cells #[.int .i64 (x1), .int .i64 (y1)] 37)).look Es7.out.c0
    have vs1 := ((Chg.refl nob W7).alloc (.cells #[.int .i64 (x1), .int .i64 (y1)] 37)).look Es7.out.c1
    have vc0 := ((Chg.refl nob W7).alloc (.cells #[.int .i64 (x1), .int .i64 (y1)] 37)).look Ec7.out.c0
    have vc1 := ((Chg.refl nob W7).alloc (.cells #[.int .i64 (x1), .int .i64 (y1)] 37)).look Ec7.out.c1
    go_wp2_with fail
    refine (extMul_dist _ _ _ _ _ _ _ HC.out).mono ?_
    rintro e W8 ⟨rfl, kk⟩
    clear vs0 vs1 vc0 vc1
    have K8 : Hid (Chg nob W7 W8) := hide (((Chg.refl nob W7).alloc (.cells #[.int .i64 (x1), .int .i64 (y1)] 37)).trans kk)
    have G8 : Hid (Chg nob w W8) := hide (G7.out.trans K8.out)
    have Ea8 : Hid (Elem W8 W1.heap.size (x1) (y1)) := hide (Ea7.out.keep K8.out)
    have Eb8 : Hid (Elem W8 W2.heap.size (x2) (y2)) := hide (Eb7.out.keep K8.out)
    have Ec8 : Hid (Elem W8 W4.heap.size (x3) (y3)) := hide (Ec7.out.keep K8.out)
    have Es8 : Hid (Elem W8 W5.heap.size ((x1 + x2) % 2130706433) ((y1 + y2) % 2130706433)) := hide (Es7.out.keep K8.out)
    have Ep8 : Hid (Elem W8 W6.heap.size (Fld.mA x1 y1 x2 y2) (Fld.mB x1 y1 x2 y2)) := hide (Ep7.out.keep K8.out)
    have Ed8 : Hid (Elem W8 W7.heap.size (x1) (y1)) := hide ((Elem.new W7 (x1) (y1) 37).keep kk)
    clear Ea7 Eb7 Ec7 Es7 Ep7 G7 K8 kk
    have va0 := ((Chg.refl nob W8).alloc (.cells #[.int .i64 ((Fld.mA x1 y1 x3 y3 + Fld.mA x2 y2 x3 y3) % 2130706433), .int .i64 ((Fld.mB x1 y1 x3 y3 + Fld.mB x2 y2 x3 y3) % 2130706433)] 37)).look Ea8.out.c0
    have va1 := ((Chg.refl nob W8).alloc (.cells #[.int .i64 ((Fld.mA x1 y1 x3 y3 + Fld.mA x2 y2 x3 y3) % 2130706433), .int .i64 ((Fld.mB x1 y1 x3 y3 + Fld.mB x2 y2 x3 y3) % 2130706433)] 37)).look Ea8.out.c1
    have vc0 := ((Chg.refl nob W8).alloc (.cells #[.int .i64 ((Fld.mA x1 y1 x3 y3 + Fld.mA x2 y2 x3 y3) % 2130706433), .int .i64 ((Fld.mB x1 y1 x3 y3 + Fld.mB x2 y2 x3 y3) % 2130706433)] 37)).look Ec8.out.c0
    have vc1 := ((Chg.refl nob W8).alloc (.cells #[.int .i64 ((Fld.mA x1 y1 x3 y3 + Fld.mA x2 y2 x3 y3) % 2130706433), .int .i64 ((Fld.mB x1 y1 x3 y3 + Fld.mB x2 y2 x3 y3) % 2130706433)] 37)).look Ec8.out.c1
    go_wp2_with fail
    refine (extMul_ok _ _ _ _ _ HA.out HC.out).mono ?_
    rintro e W9 ⟨rfl, kk⟩
    clear va0 va1 vc0 vc1
    have K9 : Hid (Chg nob W8 W9) := hide (((Chg.refl nob W8).alloc (.cells #[.int .i64 ((Fld.mA x1 y1 x3 y3 + Fld.mA x2 y2 x3 y3) % 2130706433), .int .i64 ((Fld.mB x1 y1 x3 y3 + Fld.mB x2 y2 x3 y3) % 2130706433)] 37)).trans kk)
    have G9 : Hid (Chg nob w W9) := hide (G8.out.trans K9.out)
    have Ea9 : Hid (Elem W9 W1.heap.size (x1) (y1)) := hide (Ea8.out.keep K9.out)
    have Eb9 : Hid (Elem W9 W2.heap.size (x2) (y2)) := hide (Eb8.out.keep K9.out)
    have Ec9 : Hid (Elem W9 W4.heap.size (x3) (y3)) := hide (Ec8.out.keep K9.out)
    have Es9 : Hid (Elem W9 W5.heap.size ((x1 + x2) % 2130706433) ((y1 + y2) % 2130706433)) := hide (Es8.out.keep K9.out)
    have Ep9 : Hid (Elem W9 W6.heap.size (Fld.mA x1 y1 x2 y2) (Fld.mB x1 y1 x2 y2)) := hide (Ep8.out.keep K9.out)
    have Ed9 : Hid (Elem W9 W7.heap.size (x1) (y1)) := hide (Ed8.out.keep K9.out)
    have Ex9 : Hid (Elem W9 W8.heap.size ((Fld.mA x1 y1 x3 y3 + Fld.mA x2 y2 x3 y3) % 2130706433) ((Fld.mB x1 y1 x3 y3 + Fld.mB x2 y2 x3 y3) % 2130706433)) := hide ((Elem.new W8 ((Fld.mA x1 y1 x3 y3 + Fld.mA x2 y2 x3 y3) % 2130706433) ((Fld.mB x1 y1 x3 y3 + Fld.mB x2 y2 x3 y3) % 2130706433) 37).keep kk)
    clear Ea8 Eb8 Ec8 Es8 Ep8 Ed8 G8 K9 kk
    have vb0 := ((Chg.refl nob W9).alloc (.cells #[.int .i64 (Fld.mA x1 y1 x3 y3), .int .i64 (Fld.mB x1 y1 x3 y3)] 37)).look Eb9.out.c0
    have vb1 := ((Chg.refl nob W9).alloc (.cells #[.int .i64 (Fld.mA x1 y1 x3 y3), .int .i64 (Fld.mB x1 y1 x3 y3)] 37)).look Eb9.out.c1
    have vc0 := ((Chg.refl nob W9).alloc (.cells #[.int .i64 (Fld.mA x1 y1 x3 y3), .int .i64 (Fld.mB x1 y1 x3 y3)] 37)).look Ec9.out.c0
    have vc1 := ((Chg.refl nob W9).alloc (.cells #[.int .i64 (Fld.mA x1 y1 x3 y3), .int .i64 (Fld.mB x1 y1 x3 y3)] 37)).look Ec9.out.c1
    go_wp2_with fail
    refine (extMul_ok _ _ _ _ _ HB.out HC.out).mono ?_
    rintro e W10 ⟨rfl, kk⟩
    clear vb0 vb1 vc0 vc1
    have K10 : Hid (Chg nob W9 W10) := hide (((Chg.refl nob W9).alloc (.cells #[.int .i64 (Fld.mA x1 y1 x3 y3), .int .i64 (Fld.mB x1 y1 x3 y3)] 37)).trans kk)
    have G10 : Hid (Chg nob w W10) := hide (G9.out.trans K10.out)
    have Ea10 : Hid (Elem W10 W1.heap.size (x1) (y1)) := hide (Ea9.out.keep K10.out)
    have Eb10 : Hid (Elem W10 W2.heap.size (x2) (y2)) := hide (Eb9.out.keep K10.out)
    have Ec10 : Hid (Elem W10 W4.heap.size (x3) (y3)) := hide (Ec9.out.keep K10.out)
    have Es10 : Hid (Elem W10 W5.heap.size ((x1 + x2) % 2130706433) ((y1 + y2) % 2130706433)) := hide (Es9.out.keep K10.out)
    have Ep10 : Hid (Elem W10 W6.heap.size (Fld.mA x1 y1 x2 y2) (Fld.mB x1 y1 x2 y2)) := hide (Ep9.out.keep K10.out)
    have Ed10 : Hid (Elem W10 W7.heap.size (x1) (y1)) := hide (Ed9.out.keep K10.out)
    have Ex10 : Hid (Elem W10 W8.heap.size ((Fld.mA x1 y1 x3 y3 + Fld.mA x2 y2 x3 y3) % 2130706433) ((Fld.mB x1 y1 x3 y3 + Fld.mB x2 y2 x3 y3) % 2130706433)) := hide (Ex9.out.keep K10.out)
    have Ey10 : Hid (Elem W10 W9.heap.size (Fld.mA x1 y1 x3 y3) (Fld.mB x1 y1 x3 y3)) := hide ((Elem.new W9 (Fld.mA x1 y1 x3 y3) (Fld.mB x1 y1 x3 y3) 37).keep kk)
    clear Ea9 Eb9 Ec9 Es9 Ep9 Ed9 Ex9 G9 K10 kk
    have vy0 := ((Chg.refl nob W10).alloc (.cells #[.int .i64 (Fld.mA x2 y2 x3 y3), .int .i64 (Fld.mB x2 y2 x3 y3)] 37)).look Ey10.out.c0
    have vy1 := ((Chg.refl nob W10).alloc (.cells #[.int .i64 (Fld.mA x2 y2 x3 y3), .int .i64 (Fld.mB x2 y2 x3 y3)] 37)).look Ey10.out.c1
    go_wp2_with fail
    refine (extAdd_ok _ _ _ _ _ (eok_mu _ _ _ _) (eok_mu _ _ _ _)).mono ?_
    rintro e W11 ⟨rfl, kk⟩
    clear vy0 vy1
    have K11 : Hid (Chg nob W10 W11) := hide (((Chg.refl nob W10).alloc (.cells #[.int .i64 (Fld.mA x2 y2 x3 y3), .int .i64 (Fld.mB x2 y2 x3 y3)] 37)).trans kk)
    have G11 : Hid (Chg nob w W11) := hide (G10.out.trans K11.out)
    have Ea11 : Hid (Elem W11 W1.heap.size (x1) (y1)) := hide (Ea10.out.keep K11.out)
    have Eb11 : Hid (Elem W11 W2.heap.size (x2) (y2)) := hide (Eb10.out.keep K11.out)
    have Ec11 : Hid (Elem W11 W4.heap.size (x3) (y3)) := hide (Ec10.out.keep K11.out)
    have Es11 : Hid (Elem W11 W5.heap.size ((x1 + x2) % 2130706433) ((y1 + y2) % 2130706433)) := hide (Es10.out.keep K11.out)
    have Ep11 : Hid (Elem W11 W6.heap.size (Fld.mA x1 y1 x2 y2) (Fld.mB x1 y1 x2 y2)) := hide (Ep10.out.keep K11.out)
    have Ed11 : Hid (Elem W11 W7.heap.size (x1) (y1)) := hide (Ed10.out.keep K11.out)
    have Ex11 : Hid (Elem W11 W8.heap.size ((Fld.mA x1 y1 x3 y3 + Fld.mA x2 y2 x3 y3) % 2130706433) ((Fld.mB x1 y1 x3 y3 + Fld.mB x2 y2 x3 y3) % 2130706433)) := hide (Ex10.out.keep K11.out)
    have Ey11 : Hid (Elem W11 W9.heap.size (Fld.mA x1 y1 x3 y3) (Fld.mB x1 y1 x3 y3)) := hide (Ey10.out.keep K11.out)
    have Ez11 : Hid (Elem W11 W10.heap.size (Fld.mA x2 y2 x3 y3) (Fld.mB x2 y2 x3 y3)) := hide ((Elem.new W10 (Fld.mA x2 y2 x3 y3) (Fld.mB x2 y2 x3 y3) 37).keep kk)
    clear Ea10 Eb10 Ec10 Es10 Ep10 Ed10 Ex10 Ey10 G10 K11 kk
    have va0 := ((Chg.refl nob W11).alloc (.cells #[.int .i64 ((Fld.mA x1 y1 x3 y3 + Fld.mA x2 y2 x3 y3) % 2130706433), .int .i64 ((Fld.mB x1 y1 x3 y3 + Fld.mB x2 y2 x3 y3) % 2130706433)] 37)).look Ea11.out.c0
    have va1 := ((Chg.refl nob W11).alloc (.cells #[.int .i64 ((Fld.mA x1 y1 x3 y3 + Fld.mA x2 y2 x3 y3) % 2130706433), .int .i64 ((Fld.mB x1 y1 x3 y3 + Fld.mB x2 y2 x3 y3) % 2130706433)] 37)).look Ea11.out.c1
    have vb0 := ((Chg.refl nob W11).alloc (.cells #[.int .i64 ((Fld.mA x1 y1 x3 y3 + Fld.mA x2 y2 x3 y3) % 2130706433), .int .i64 ((Fld.mB x1 y1 x3 y3 + Fld.mB x2 y2 x3 y3) % 2130706433)] 37)).look Eb11.out.c0
    have vb1 := ((Chg.refl nob W11).alloc (.cells #[.int .i64 ((Fld.mA x1 y1 x3 y3 + Fld.mA x2 y2 x3 y3) % 2130706433), .int .i64 ((Fld.mB x1 y1 x3 y3 + Fld.mB x2 y2 x3 y3) % 2130706433)] 37)).look Eb11.out.c1
    go_wp2_with fail
    refine (sExtMul_ok _ _ _ _ _ HA.out HB.out).mono ?_
    rintro e W12 ⟨rfl, kk⟩
    clear va0 va1 vb0 vb1
    have K12 : Hid (Chg nob W11 W12) := hide (((Chg.refl nob W11).alloc (.cells #[.int .i64 ((Fld.mA x1 y1 x3 y3 + Fld.mA x2 y2 x3 y3) % 2130706433), .int .i64 ((Fld.mB x1 y1 x3 y3 + Fld.mB x2 y2 x3 y3) % 2130706433)] 37)).trans kk)
    have G12 : Hid (Chg nob w W12) := hide (G11.out.trans K12.out)
    have Ea12 : Hid (Elem W12 W1.heap.size (x1) (y1)) := hide (Ea11.out.keep K12.out)
    have Eb12 : Hid (Elem W12 W2.heap.size (x2) (y2)) := hide (Eb11.out.keep K12.out)
    have Ec12 : Hid (Elem W12 W4.heap.size (x3) (y3)) := hide (Ec11.out.keep K12.out)
    have Es12 : Hid (Elem W12 W5.heap.size ((x1 + x2) % 2130706433) ((y1 + y2) % 2130706433)) := hide (Es11.out.keep K12.out)
    have Ep12 : Hid (Elem W12 W6.heap.size (Fld.mA x1 y1 x2 y2) (Fld.mB x1 y1 x2 y2)) := hide (Ep11.out.keep K12.out)
    have Ed12 : Hid (Elem W12 W7.heap.size (x1) (y1)) := hide (Ed11.out.keep K12.out)
    have Ex12 : Hid (Elem W12 W8.heap.size ((Fld.mA x1 y1 x3 y3 + Fld.mA x2 y2 x3 y3) % 2130706433) ((Fld.mB x1 y1 x3 y3 + Fld.mB x2 y2 x3 y3) % 2130706433)) := hide (Ex11.out.keep K12.out)
    have Ey12 : Hid (Elem W12 W9.heap.size (Fld.mA x1 y1 x3 y3) (Fld.mB x1 y1 x3 y3)) := hide (Ey11.out.keep K12.out)
    have Ez12 : Hid (Elem W12 W10.heap.size (Fld.mA x2 y2 x3 y3) (Fld.mB x2 y2 x3 y3)) := hide (Ez11.out.keep K12.out)
    have Ew12 : Hid (Elem W12 W11.heap.size ((Fld.mA x1 y1 x3 y3 + Fld.mA x2 y2 x3 y3) % 2130706433) ((Fld.mB x1 y1 x3 y3 + Fld.mB x2 y2 x3 y3) % 2130706433)) := hide ((Elem.new W11 ((Fld.mA x1 y1 x3 y3 + Fld.mA x2 y2 x3 y3) % 2130706433) ((Fld.mB x1 y1 x3 y3 + Fld.mB x2 y2 x3 y3) % 2130706433) 37).keep kk)
    clear Ea11 Eb11 Ec11 Es11 Ep11 Ed11 Ex11 Ey11 Ez11 G11 K12 kk
    go_wp2_with fail
    refine (extMul_three _).mono ?_
    rintro e W13 ⟨rfl, kk⟩
    have K13 : Hid (Chg nob W12 W13) := hide (((Chg.refl nob W12).alloc (.cells #[.int .i64 (Fld.mA x1 y1 x2 y2), .int .i64 (Fld.mB x1 y1 x2 y2)] 37)).trans kk)
    have G13 : Hid (Chg nob w W13) := hide (G12.out.trans K13.out)
    have Ea13 : Hid (Elem W13 W1.heap.size (x1) (y1)) := hide (Ea12.out.keep K13.out)
    have Eb13 : Hid (Elem W13 W2.heap.size (x2) (y2)) := hide (Eb12.out.keep K13.out)
    have Ec13 : Hid (Elem W13 W4.heap.size (x3) (y3)) := hide (Ec12.out.keep K13.out)
    have Es13 : Hid (Elem W13 W5.heap.size ((x1 + x2) % 2130706433) ((y1 + y2) % 2130706433)) := hide (Es12.out.keep K13.out)
    have Ep13 : Hid (Elem W13 W6.heap.size (Fld.mA x1 y1 x2 y2) (Fld.mB x1 y1 x2 y2)) := hide (Ep12.out.keep K13.out)
    have Ed13 : Hid (Elem W13 W7.heap.size (x1) (y1)) := hide (Ed12.out.keep K13.out)
    have Ex13 : Hid (Elem W13 W8.heap.size ((Fld.mA x1 y1 x3 y3 + Fld.mA x2 y2 x3 y3) % 2130706433) ((Fld.mB x1 y1 x3 y3 + Fld.mB x2 y2 x3 y3) % 2130706433)) := hide (Ex12.out.keep K13.out)
    have Ey13 : Hid (Elem W13 W9.heap.size (Fld.mA x1 y1 x3 y3) (Fld.mB x1 y1 x3 y3)) := hide (Ey12.out.keep K13.out)
    have Ez13 : Hid (Elem W13 W10.heap.size (Fld.mA x2 y2 x3 y3) (Fld.mB x2 y2 x3 y3)) := hide (Ez12.out.keep K13.out)
    have Ew13 : Hid (Elem W13 W11.heap.size ((Fld.mA x1 y1 x3 y3 + Fld.mA x2 y2 x3 y3) % 2130706433) ((Fld.mB x1 y1 x3 y3 + Fld.mB x2 y2 x3 y3) % 2130706433)) := hide (Ew12.out.keep K13.out)
    have Et13 : Hid (Elem W13 W12.heap.size (Fld.mA x1 y1 x2 y2) (Fld.mB x1 y1 x2 y2)) := hide ((Elem.new W12 (Fld.mA x1 y1 x2 y2) (Fld.mB x1 y1 x2 y2) 37).keep kk)
    clear Ea12 Eb12 Ec12 Es12 Ep12 Ed12 Ex12 Ey12 Ez12 Ew12 G12 K13 kk
    have vp0 := ((Chg.refl nob W13).alloc (.cells #[.int .i64 (3), .int .i64 (0)] 37)).look Ep13.out.c0
    have vp1 := ((Chg.refl nob W13).alloc (.cells #[.int .i64 (3), .int .i64 (0)] 37)).look Ep13.out.c1
    have vt0 := ((Chg.refl nob W13).alloc (.cells #[.int .i64 (3), .int .i64 (0)] 37)).look Et13.out.c0
    have vt1 := ((Chg.refl nob W13).alloc (.cells #[.int .i64 (3), .int .i64 (0)] 37)).look Et13.out.c1
    have vd0 := ((Chg.refl nob W13).alloc (.cells #[.int .i64 (3), .int .i64 (0)] 37)).look Ed13.out.c0
    have vd1 := ((Chg.refl nob W13).alloc (.cells #[.int .i64 (3), .int .i64 (0)] 37)).look Ed13.out.c1
    have va0 := ((Chg.refl nob W13).alloc (.cells #[.int .i64 (3), .int .i64 (0)] 37)).look Ea13.out.c0
    have va1 := ((Chg.refl nob W13).alloc (.cells #[.int .i64 (3), .int .i64 (0)] 37)).look Ea13.out.c1
    have vx0 := ((Chg.refl nob W13).alloc (.cells #[.int .i64 (3), .int .i64 (0)] 37)).look Ex13.out.c0
    have vx1 := ((Chg.refl nob W13).alloc (.cells #[.int .i64 (3), .int .i64 (0)] 37)).look Ex13.out.c1
    have vw0 := ((Chg.refl nob W13).alloc (.cells #[.int .i64 (3), .int .i64 (0)] 37)).look Ew13.out.c0
    have vw1 := ((Chg.refl nob W13).alloc (.cells #[.int .i64 (3), .int .i64 (0)] 37)).look Ew13.out.c1
    go_wp2_with fail
    refine (normE_ok _ _ _ HA.out).mono ?_
    rintro e W14 ⟨rfl, kk⟩
    clear vp0 vp1 vt0 vt1 vd0 vd1 va0 va1 vx0 vx1 vw0 vw1
    have K14 : Hid (Chg nob W13 W14) := hide (((Chg.refl nob W13).alloc (.cells #[.int .i64 (3), .int .i64 (0)] 37)).trans kk)
    have G14 : Hid (Chg nob w W14) := hide (G13.out.trans K14.out)
    have Ea14 : Hid (Elem W14 W1.heap.size (x1) (y1)) := hide (Ea13.out.keep K14.out)
    have Eb14 : Hid (Elem W14 W2.heap.size (x2) (y2)) := hide (Eb13.out.keep K14.out)
    have Ep14 : Hid (Elem W14 W6.heap.size (Fld.mA x1 y1 x2 y2) (Fld.mB x1 y1 x2 y2)) := hide (Ep13.out.keep K14.out)
    clear Ea13 Eb13 Ec13 Es13 Ep13 Ed13 Ex13 Ey13 Ez13 Ew13 Et13 G13 K14 kk
    have vb0 := Eb14.out.c0
    have vb1 := Eb14.out.c1
    go_wp2_with fail
    refine (normE_ok _ _ _ HB.out).mono ?_
    rintro e W15 ⟨rfl, kk⟩
    clear vb0 vb1
    have K15 : Hid (Chg nob W14 W15) := hide (kk)
    have G15 : Hid (Chg nob w W15) := hide (G14.out.trans K15.out)
    have Ep15 : Hid (Elem W15 W6.heap.size (Fld.mA x1 y1 x2 y2) (Fld.mB x1 y1 x2 y2)) := hide (Ep14.out.keep K15.out)
    clear Ea14 Eb14 Ep14 G14 K15 kk
    have vp0 := Ep15.out.c0
    have vp1 := Ep15.out.c1
    go_wp2_with fail
    refine (normE_ok _ _ _ (eok_mu _ _ _ _)).mono ?_
    rintro e W16 ⟨rfl, kk⟩
    clear vp0 vp1
    have K16 : Hid (Chg nob W15 W16) := hide (kk)
    have G16 : Hid (Chg nob w W16) := hide (G15.out.trans K16.out)
    clear Ep15 G15 K16 kk
    go_wp2_with (go_at_call 11; refine (mul_norm _ _ _ _ _).mono ?_; rintro e w' ⟨rfl, rfl⟩)
    go_ret
    exact ⟨rfl, G16.out.toBelow⟩

set_option maxRecDepth 100000 in
theorem lifted (os : Os) (started : os.Started) (H : Type) (enc : TypeId × Value → H) :
    ReturnsInHanded {} Try.checked os 6 .any (Rows.fnExtSpec.pre6 enc Try.prog Try.f6 Rows.fnExtRow.domain false) (Rows.fnExtSpec.post enc Try.prog Try.f6 false true false false) := by
  refine returnsInHanded_of_change (C := Try.checked) own started (by kernel_rfl) Try.func6
    (ChangeSpec.witness6 (enc := enc) (C := Try.checked) false ⟨#[], #[.slice none 0 0, .slice none 0 0], []⟩ 8 (by kernel_rfl) (by kernel_rfl) (by kernel_rfl) (by kernel_rfl)) ?_
  intro W base args ds gs before hval0 hW hcnd _
  have hval : ∀ (j : Nat) t v, Try.f6.params[j]? = some t → args[j]? = some v → Value.okWide Try.prog W .any base t v := hval0
  have hW' := hW
  obtain ⟨p, q, hA0, hV, rfl, hfz, hnd⟩ := hW
  have hA : DataW.TrodAll enc Try.prog W 0 (fun _ => true) true Try.f6.params.toList args.toList ds p := hA0
  rw [Try.params6] at hA hval
  obtain ⟨v0, vs0, d0, ds0, p0, q0, hargs, rfl, rfl, h0, r0⟩ := trodAll_cons hA
  obtain ⟨v1, vs1, d1, ds1, p1, q1, rfl, rfl, rfl, h1, r1⟩ := trodAll_cons r0
  obtain ⟨rfl, rfl, rfl⟩ := trodAll_nil r1
  obtain rfl : args = #[v0, v1] := by cases args; simp_all
  obtain ⟨rfl, rfl⟩ := trodVars_none hV
  obtain ⟨a0, len0, cap0, rfl⟩ := okWide_slice Try.underlying22 (hval 0 22 v0 rfl rfl)
  have k0 := h0
  have lt0 : ∀ x ∈ p0, x.block < W.heap.size := by obtain ⟨m, hm⟩ := k0; exact DataW.trod_lt m _ _ _ hm
  obtain ⟨z0, w0⟩ : ∃ zs, IsRow .u8 W a0 len0 cap0 zs := by
    obtain ⟨fuel, hf⟩ := h0
    rcases open_ints Try.underlying22 Try.underlying5 (by kernel_rfl) hf with ⟨hcs, _⟩ | ⟨x, l, c, zs, hcs, _, hl, hm, hz, _, hcell, hwz⟩
    · simp [Value.cells] at hcs
      obtain ⟨rfl, rfl, rfl⟩ := hcs
      exact ⟨[], .inl ⟨rfl, rfl, rfl, rfl⟩⟩
    · simp [Value.cells] at hcs
      obtain ⟨rfl, rfl, rfl⟩ := hcs
      exact ⟨zs, .inr ⟨_, rfl, hl, hm, by simpa using hz, hcell, hwz⟩⟩
  obtain ⟨a1, len1, cap1, rfl⟩ := okWide_slice Try.underlying22 (hval 1 22 v1 rfl rfl)
  have k1 := h1
  have lt1 : ∀ x ∈ p1, x.block < W.heap.size := by obtain ⟨m, hm⟩ := k1; exact DataW.trod_lt m _ _ _ hm
  obtain ⟨z1, w1⟩ : ∃ zs, IsRow .u8 W a1 len1 cap1 zs := by
    obtain ⟨fuel, hf⟩ := h1
    rcases open_ints Try.underlying22 Try.underlying5 (by kernel_rfl) hf with ⟨hcs, _⟩ | ⟨x, l, c, zs, hcs, _, hl, hm, hz, _, hcell, hwz⟩
    · simp [Value.cells] at hcs
      obtain ⟨rfl, rfl, rfl⟩ := hcs
      exact ⟨[], .inl ⟨rfl, rfl, rfl, rfl⟩⟩
    · simp [Value.cells] at hcs
      obtain ⟨rfl, rfl, rfl⟩ := hcs
      exact ⟨zs, .inr ⟨_, rfl, hl, hm, by simpa using hz, hcell, hwz⟩⟩
  clear hA0 hval0
  refine (walk a0 len0 cap0 z0 a1 len1 cap1 z1 W w0 w1).mono fun e W' ⟨he, bel⟩ => ?_
  subst he
  exact ⟨_, rfl, _, _, _, [], _, [], hW', trodAll_mk1 (shut_bool Try.underlying4 _), (trodAll_cons_mk (Below.trod laidOut (by kernel_rfl) (of_decide_eq_true (by kernel_rfl)) k0 bel lt0) (trodAll_cons_mk (Below.trod laidOut (by kernel_rfl) (of_decide_eq_true (by kernel_rfl)) k1 bel lt1) trodAll_mk0)), rfl, bel.frame _, fun h => by cases h⟩

theorem over : Rows.fnExtRow.holds Try.pinned (OpenSpec.ofChange Rows.fnExtSpec) :=
  OpenClaim.holds_of_wide 6 Try.f6 rfl rfl rfl rfl rfl rfl rfl ⟨rfl, rfl, rfl, rfl, rfl⟩ rfl rfl rfl rfl rfl (by kernel_rfl) Try.func6 (by kernel_rfl)
    (of_decide_eq_true (by kernel_rfl)) (by unfold Func.isWrapper; first | (rw [if_pos (by decide +kernel)]; kernel_rfl) | (rw [if_neg (by decide +kernel)]; exact ⟨rfl, rfl⟩))
    (fun os started H enc _ => lifted os started H enc)

end Go.Proofs.Ytimpmiamfpnjaaa.fnExt
namespace Go.Proofs.Ytimpmiamfpnjaaa
theorem FnExt_holds : Rows.FnExtSaid := fnExt.over
#print axioms FnExt_holds
end Go.Proofs.Ytimpmiamfpnjaaa
