/-
  No cell of these rows narrows 'for every input' (looked for: loops, veiled, ifaces, maps, wideKeys, modest, calm, conditions, laid).
  DERIVED. THE GIVEN ROWS OF THIS SEAT. 6 by the template 'for every input the law returns true; each argument reads behind the call as it read before'; 0 by the template 'total and deterministic' (their statements: YtimpmiamfpnjaaiTotals.lean).
  GIVEN WITH THE SEED: the statements are not yours to turn. If you find one false, say at which input.
  Laid BY PROGRAM, IN A SANDBOX (cutbox-rows.mjs): the forced cells as the released guide's own fill.sh prints them over the translation a930b1dd9051dc97… (all of the seat's roots in one cut). By AI agents, Wed Nov 11 2026. No macro, syntax, notation, axiom, sorry.
-/
import Derived.Test.YtimpmiamfpnjaaiChecked
import GoSem.Claim
import GoSem.ClaimJoined
import GoSem.ClaimMapViews
import Derived.JoinedTies
import Derived.KernelRfl
namespace Go.Proofs.Ytimpmiamfpnjaai
/- THE CELL 'sum', in the pinned program and in every row, IS THE sha256 OF THE DUMP (.gsa) THAT YtimpmiamfpnjaaiProg.lean LOADS. Nothing in Lean hashes anything: it is a label: what it is worth is what the hold of that sum in a sandbox is worth. -/
noncomputable def Try.pinned : Pinned := { name := "ytimpmiamfpnjaai", sum := "a930b1dd9051dc974ca00b83ce32f91a89612fbf5730b660b2de53a02492f350", checked := Try.checked }
namespace Rows
def none {H : Type} : Left H := { results := [], args := [] }

/-- 'laws.FnExactInverse': WHATEVER THE INPUT: true; the input reads as it did. -/
def fnExactInverseSpec : ChangeSpec := { name := "fnExactInverse", fn := fun _ => fun
  | [d] => { results := [.lit (.bool true)], args := [d] }
  | _ => none }
def fnExactInverseRow : OpenClaim := { program := "ytimpmiamfpnjaai", sum := "a930b1dd9051dc974ca00b83ce32f91a89612fbf5730b660b2de53a02492f350", func := "loop.example/g00348/laws.FnExactInverse", spec := "fnExactInverse", apart := false }
def FnExactInverseSaid : Prop := fnExactInverseRow.holds Try.pinned (OpenSpec.ofChange fnExactInverseSpec)

/-- ITS FALSE NEIGHBOUR: 'it returns false'. Refute it at one input. -/
def fnExactInverseWrong : ChangeSpec := { name := "fnExactInverse", fn := fun _ => fun
  | [d] => { results := [.lit (.bool false)], args := [d] }
  | _ => none }
def FnExactInverseWrongFalsely : Prop := fnExactInverseRow.holds Try.pinned (OpenSpec.ofChange fnExactInverseWrong)

/-- 'laws.FnExactRootOf': WHATEVER THE INPUT: true; the input reads as it did. -/
def fnExactRootOfSpec : ChangeSpec := { name := "fnExactRootOf", fn := fun _ => fun
  | [d] => { results := [.lit (.bool true)], args := [d] }
  | _ => none }
def fnExactRootOfRow : OpenClaim := { program := "ytimpmiamfpnjaai", sum := "a930b1dd9051dc974ca00b83ce32f91a89612fbf5730b660b2de53a02492f350", func := "loop.example/g00348/laws.FnExactRootOf", spec := "fnExactRootOf", apart := false }
def FnExactRootOfSaid : Prop := fnExactRootOfRow.holds Try.pinned (OpenSpec.ofChange fnExactRootOfSpec)

/-- ITS FALSE NEIGHBOUR: 'it returns false'. Refute it at one input. -/
def fnExactRootOfWrong : ChangeSpec := { name := "fnExactRootOf", fn := fun _ => fun
  | [d] => { results := [.lit (.bool false)], args := [d] }
  | _ => none }
def FnExactRootOfWrongFalsely : Prop := fnExactRootOfRow.holds Try.pinned (OpenSpec.ofChange fnExactRootOfWrong)

/-- 'laws.FnExactBatchInverse': WHATEVER THE INPUT: true; the input reads as it did. -/
def fnExactBatchInverseSpec : ChangeSpec := { name := "fnExactBatchInverse", fn := fun _ => fun
  | [d] => { results := [.lit (.bool true)], args := [d] }
  | _ => none }
def fnExactBatchInverseRow : OpenClaim := { program := "ytimpmiamfpnjaai", sum := "a930b1dd9051dc974ca00b83ce32f91a89612fbf5730b660b2de53a02492f350", func := "loop.example/g00348/laws.FnExactBatchInverse", spec := "fnExactBatchInverse", apart := false }
def FnExactBatchInverseSaid : Prop := fnExactBatchInverseRow.holds Try.pinned (OpenSpec.ofChange fnExactBatchInverseSpec)

/-- ITS FALSE NEIGHBOUR: 'it returns false'. Refute it at one input. -/
def fnExactBatchInverseWrong : ChangeSpec := { name := "fnExactBatchInverse", fn := fun _ => fun
  | [d] => { results := [.lit (.bool false)], args := [d] }
  | _ => none }
def FnExactBatchInverseWrongFalsely : Prop := fnExactBatchInverseRow.holds Try.pinned (OpenSpec.ofChange fnExactBatchInverseWrong)

/-- 'laws.FnExactExtOK': WHATEVER THE INPUT: true; the input reads as it did. -/
def fnExactExtOKSpec : ChangeSpec := { name := "fnExactExtOK", fn := fun _ => fun
  | [d] => { results := [.lit (.bool true)], args := [d] }
  | _ => none }
def fnExactExtOKRow : OpenClaim := { program := "ytimpmiamfpnjaai", sum := "a930b1dd9051dc974ca00b83ce32f91a89612fbf5730b660b2de53a02492f350", func := "loop.example/g00348/laws.FnExactExtOK", spec := "fnExactExtOK", apart := false }
def FnExactExtOKSaid : Prop := fnExactExtOKRow.holds Try.pinned (OpenSpec.ofChange fnExactExtOKSpec)

/-- ITS FALSE NEIGHBOUR: 'it returns false'. Refute it at one input. -/
def fnExactExtOKWrong : ChangeSpec := { name := "fnExactExtOK", fn := fun _ => fun
  | [d] => { results := [.lit (.bool false)], args := [d] }
  | _ => none }
def FnExactExtOKWrongFalsely : Prop := fnExactExtOKRow.holds Try.pinned (OpenSpec.ofChange fnExactExtOKWrong)

/-- 'laws.FnExactExtAdd': WHATEVER THE INPUT: true; the input reads as it did. -/
def fnExactExtAddSpec : ChangeSpec := { name := "fnExactExtAdd", fn := fun _ => fun
  | [d1, d2] => { results := [.lit (.bool true)], args := [d1, d2] }
  | _ => none }
def fnExactExtAddRow : OpenClaim := { program := "ytimpmiamfpnjaai", sum := "a930b1dd9051dc974ca00b83ce32f91a89612fbf5730b660b2de53a02492f350", func := "loop.example/g00348/laws.FnExactExtAdd", spec := "fnExactExtAdd", apart := false }
def FnExactExtAddSaid : Prop := fnExactExtAddRow.holds Try.pinned (OpenSpec.ofChange fnExactExtAddSpec)

/-- ITS FALSE NEIGHBOUR: 'it returns false'. Refute it at one input. -/
def fnExactExtAddWrong : ChangeSpec := { name := "fnExactExtAdd", fn := fun _ => fun
  | [d1, d2] => { results := [.lit (.bool false)], args := [d1, d2] }
  | _ => none }
def FnExactExtAddWrongFalsely : Prop := fnExactExtAddRow.holds Try.pinned (OpenSpec.ofChange fnExactExtAddWrong)

/-- 'laws.FnExactExtSub': WHATEVER THE INPUT: true; the input reads as it did. -/
def fnExactExtSubSpec : ChangeSpec := { name := "fnExactExtSub", fn := fun _ => fun
  | [d1, d2] => { results := [.lit (.bool true)], args := [d1, d2] }
  | _ => none }
def fnExactExtSubRow : OpenClaim := { program := "ytimpmiamfpnjaai", sum := "a930b1dd9051dc974ca00b83ce32f91a89612fbf5730b660b2de53a02492f350", func := "loop.example/g00348/laws.FnExactExtSub", spec := "fnExactExtSub", apart := false }
def FnExactExtSubSaid : Prop := fnExactExtSubRow.holds Try.pinned (OpenSpec.ofChange fnExactExtSubSpec)

/-- ITS FALSE NEIGHBOUR: 'it returns false'. Refute it at one input. -/
def fnExactExtSubWrong : ChangeSpec := { name := "fnExactExtSub", fn := fun _ => fun
  | [d1, d2] => { results := [.lit (.bool false)], args := [d1, d2] }
  | _ => none }
def FnExactExtSubWrongFalsely : Prop := fnExactExtSubRow.holds Try.pinned (OpenSpec.ofChange fnExactExtSubWrong)

/- THE SECOND FORM. 'bulk': how many values and letters a reading holds, each counted each time it is reached (what is shared counts as often as it is met; a slice's spare places count too). A statement '..UptoSaid' is the law's where the arguments, and the package variables that the reading takes, are together of bulk at most 1048576: NARROWER than '..Said'. Prove '..Said' where nothing that the law and all that it calls make is longer than what came in: it says more and counts as full. Else prove '..UptoSaid'. A law counts once. -/
mutual
def uptoBulk {H : Type} : DataW H → Nat
  | .lit (.string bytes) => bytes.length + 1
  | .lit _ => 1
  | .nil => 1
  | .ptr d => uptoBulk d + 1
  | .slice elems spare => uptoBulkAll elems + uptoBulkAll spare + 1
  | .agg parts => uptoBulkAll parts + 1
  | .iface _ d => uptoBulk d + 1
  | .map entries => uptoBulkEntries entries + 1
  | .held _ => 1
def uptoBulkAll {H : Type} : List (DataW H) → Nat
  | [] => 0
  | d :: r => uptoBulk d + uptoBulkAll r
def uptoBulkEntries {H : Type} : List (Lit × DataW H) → Nat
  | [] => 0
  | x :: r => uptoBulkEntry x + uptoBulkEntries r
def uptoBulkEntry {H : Type} : Lit × DataW H → Nat
  | (.string bytes, d) => bytes.length + uptoBulk d + 1
  | (_, d) => uptoBulk d + 1
 end
def uptoSmall : (H : Type) → List (DataW H) → Bool := fun _ ds => decide (uptoBulkAll ds ≤ 1048576)
def OpenSpec.upto (s : _root_.Go.ChangeSpec) : _root_.Go.OpenSpec := { _root_.Go.OpenSpec.ofChange s with cond := some uptoSmall }

/-- 'laws.FnExactInverse', WHERE WHAT IT READS IS OF BULK AT MOST 1048576: true; the input reads as it did. -/
def fnExactInverseUptoRow : OpenClaim := { program := "ytimpmiamfpnjaai", sum := "a930b1dd9051dc974ca00b83ce32f91a89612fbf5730b660b2de53a02492f350", func := "loop.example/g00348/laws.FnExactInverse", spec := "fnExactInverse", apart := false, narrowed := true }
def FnExactInverseUptoSaid : Prop := fnExactInverseUptoRow.holds Try.pinned (OpenSpec.upto fnExactInverseSpec)

/-- 'laws.FnExactRootOf', WHERE WHAT IT READS IS OF BULK AT MOST 1048576: true; the input reads as it did. -/
def fnExactRootOfUptoRow : OpenClaim := { program := "ytimpmiamfpnjaai", sum := "a930b1dd9051dc974ca00b83ce32f91a89612fbf5730b660b2de53a02492f350", func := "loop.example/g00348/laws.FnExactRootOf", spec := "fnExactRootOf", apart := false, narrowed := true }
def FnExactRootOfUptoSaid : Prop := fnExactRootOfUptoRow.holds Try.pinned (OpenSpec.upto fnExactRootOfSpec)

/-- 'laws.FnExactBatchInverse', WHERE WHAT IT READS IS OF BULK AT MOST 1048576: true; the input reads as it did. -/
def fnExactBatchInverseUptoRow : OpenClaim := { program := "ytimpmiamfpnjaai", sum := "a930b1dd9051dc974ca00b83ce32f91a89612fbf5730b660b2de53a02492f350", func := "loop.example/g00348/laws.FnExactBatchInverse", spec := "fnExactBatchInverse", apart := false, narrowed := true }
def FnExactBatchInverseUptoSaid : Prop := fnExactBatchInverseUptoRow.holds Try.pinned (OpenSpec.upto fnExactBatchInverseSpec)

/-- 'laws.FnExactExtOK', WHERE WHAT IT READS IS OF BULK AT MOST 1048576: true; the input reads as it did. -/
def fnExactExtOKUptoRow : OpenClaim := { program := "ytimpmiamfpnjaai", sum := "a930b1dd9051dc974ca00b83ce32f91a89612fbf5730b660b2de53a02492f350", func := "loop.example/g00348/laws.FnExactExtOK", spec := "fnExactExtOK", apart := false, narrowed := true }
def FnExactExtOKUptoSaid : Prop := fnExactExtOKUptoRow.holds Try.pinned (OpenSpec.upto fnExactExtOKSpec)

/-- 'laws.FnExactExtAdd', WHERE WHAT IT READS IS OF BULK AT MOST 1048576: true; the input reads as it did. -/
def fnExactExtAddUptoRow : OpenClaim := { program := "ytimpmiamfpnjaai", sum := "a930b1dd9051dc974ca00b83ce32f91a89612fbf5730b660b2de53a02492f350", func := "loop.example/g00348/laws.FnExactExtAdd", spec := "fnExactExtAdd", apart := false, narrowed := true }
def FnExactExtAddUptoSaid : Prop := fnExactExtAddUptoRow.holds Try.pinned (OpenSpec.upto fnExactExtAddSpec)

/-- 'laws.FnExactExtSub', WHERE WHAT IT READS IS OF BULK AT MOST 1048576: true; the input reads as it did. -/
def fnExactExtSubUptoRow : OpenClaim := { program := "ytimpmiamfpnjaai", sum := "a930b1dd9051dc974ca00b83ce32f91a89612fbf5730b660b2de53a02492f350", func := "loop.example/g00348/laws.FnExactExtSub", spec := "fnExactExtSub", apart := false, narrowed := true }
def FnExactExtSubUptoSaid : Prop := fnExactExtSubUptoRow.holds Try.pinned (OpenSpec.upto fnExactExtSubSpec)

end Rows
end Go.Proofs.Ytimpmiamfpnjaai
