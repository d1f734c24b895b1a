/-
  No cell of these rows narrows 'for every input' (looked for: loops, veiled, ifaces, maps, wideKeys, modest, calm, conditions, laid).
  DERIVED. THE GIVEN ROWS OF THIS SEAT. 6 by the template 'for every input the law returns true; each argument reads behind the call as it read before'; 0 by the template 'total and deterministic' (their statements: YtimpmiamfpnjaajTotals.lean).
  GIVEN WITH THE SEED: the statements are not yours to turn. If you find one false, say at which input.
  Laid BY PROGRAM, IN A SANDBOX (cutbox-rows.mjs): the forced cells as the released guide's own fill.sh prints them over the translation a091362b1f67750a… (all of the seat's roots in one cut). By AI agents, Wed Nov 11 2026. No macro, syntax, notation, axiom, sorry.
-/
import Derived.Test.YtimpmiamfpnjaajChecked
import GoSem.Claim
import GoSem.ClaimJoined
import GoSem.ClaimMapViews
import Derived.JoinedTies
import Derived.KernelRfl
namespace Go.Proofs.Ytimpmiamfpnjaaj
/- THE CELL 'sum', in the pinned program and in every row, IS THE sha256 OF THE DUMP (.gsa) THAT YtimpmiamfpnjaajProg.lean LOADS. Nothing in Lean hashes anything: it is a label: what it is worth is what the hold of that sum in a sandbox is worth. -/
noncomputable def Try.pinned : Pinned := { name := "ytimpmiamfpnjaaj", sum := "a091362b1f67750afbe03335f6cd0a81c4404aff5f2c660e4d221e22863bbaa8", checked := Try.checked }
namespace Rows
def none {H : Type} : Left H := { results := [], args := [] }

/-- 'laws.FnExactExtMul': WHATEVER THE INPUT: true; the input reads as it did. -/
def fnExactExtMulSpec : ChangeSpec := { name := "fnExactExtMul", fn := fun _ => fun
  | [d1, d2] => { results := [.lit (.bool true)], args := [d1, d2] }
  | _ => none }
def fnExactExtMulRow : OpenClaim := { program := "ytimpmiamfpnjaaj", sum := "a091362b1f67750afbe03335f6cd0a81c4404aff5f2c660e4d221e22863bbaa8", func := "loop.example/g00348/laws.FnExactExtMul", spec := "fnExactExtMul", apart := false }
def FnExactExtMulSaid : Prop := fnExactExtMulRow.holds Try.pinned (OpenSpec.ofChange fnExactExtMulSpec)

/-- ITS FALSE NEIGHBOUR: 'it returns false'. Refute it at one input. -/
def fnExactExtMulWrong : ChangeSpec := { name := "fnExactExtMul", fn := fun _ => fun
  | [d1, d2] => { results := [.lit (.bool false)], args := [d1, d2] }
  | _ => none }
def FnExactExtMulWrongFalsely : Prop := fnExactExtMulRow.holds Try.pinned (OpenSpec.ofChange fnExactExtMulWrong)

/-- 'laws.FnExactExtPow': WHATEVER THE INPUT: true; the input reads as it did. -/
def fnExactExtPowSpec : ChangeSpec := { name := "fnExactExtPow", fn := fun _ => fun
  | [d1, d2] => { results := [.lit (.bool true)], args := [d1, d2] }
  | _ => none }
def fnExactExtPowRow : OpenClaim := { program := "ytimpmiamfpnjaaj", sum := "a091362b1f67750afbe03335f6cd0a81c4404aff5f2c660e4d221e22863bbaa8", func := "loop.example/g00348/laws.FnExactExtPow", spec := "fnExactExtPow", apart := false }
def FnExactExtPowSaid : Prop := fnExactExtPowRow.holds Try.pinned (OpenSpec.ofChange fnExactExtPowSpec)

/-- ITS FALSE NEIGHBOUR: 'it returns false'. Refute it at one input. -/
def fnExactExtPowWrong : ChangeSpec := { name := "fnExactExtPow", fn := fun _ => fun
  | [d1, d2] => { results := [.lit (.bool false)], args := [d1, d2] }
  | _ => none }
def FnExactExtPowWrongFalsely : Prop := fnExactExtPowRow.holds Try.pinned (OpenSpec.ofChange fnExactExtPowWrong)

/-- 'laws.FnExactExtInverse': WHATEVER THE INPUT: true; the input reads as it did. -/
def fnExactExtInverseSpec : ChangeSpec := { name := "fnExactExtInverse", fn := fun _ => fun
  | [d] => { results := [.lit (.bool true)], args := [d] }
  | _ => none }
def fnExactExtInverseRow : OpenClaim := { program := "ytimpmiamfpnjaaj", sum := "a091362b1f67750afbe03335f6cd0a81c4404aff5f2c660e4d221e22863bbaa8", func := "loop.example/g00348/laws.FnExactExtInverse", spec := "fnExactExtInverse", apart := false }
def FnExactExtInverseSaid : Prop := fnExactExtInverseRow.holds Try.pinned (OpenSpec.ofChange fnExactExtInverseSpec)

/-- ITS FALSE NEIGHBOUR: 'it returns false'. Refute it at one input. -/
def fnExactExtInverseWrong : ChangeSpec := { name := "fnExactExtInverse", fn := fun _ => fun
  | [d] => { results := [.lit (.bool false)], args := [d] }
  | _ => none }
def FnExactExtInverseWrongFalsely : Prop := fnExactExtInverseRow.holds Try.pinned (OpenSpec.ofChange fnExactExtInverseWrong)

/-- 'laws.FnExactNorm': WHATEVER THE INPUT: true; the input reads as it did. -/
def fnExactNormSpec : ChangeSpec := { name := "fnExactNorm", fn := fun _ => fun
  | [d] => { results := [.lit (.bool true)], args := [d] }
  | _ => none }
def fnExactNormRow : OpenClaim := { program := "ytimpmiamfpnjaaj", sum := "a091362b1f67750afbe03335f6cd0a81c4404aff5f2c660e4d221e22863bbaa8", func := "loop.example/g00348/laws.FnExactNorm", spec := "fnExactNorm", apart := false }
def FnExactNormSaid : Prop := fnExactNormRow.holds Try.pinned (OpenSpec.ofChange fnExactNormSpec)

/-- ITS FALSE NEIGHBOUR: 'it returns false'. Refute it at one input. -/
def fnExactNormWrong : ChangeSpec := { name := "fnExactNorm", fn := fun _ => fun
  | [d] => { results := [.lit (.bool false)], args := [d] }
  | _ => none }
def FnExactNormWrongFalsely : Prop := fnExactNormRow.holds Try.pinned (OpenSpec.ofChange fnExactNormWrong)

/-- 'laws.FnExactExtBytes': WHATEVER THE INPUT: true; the input reads as it did. -/
def fnExactExtBytesSpec : ChangeSpec := { name := "fnExactExtBytes", fn := fun _ => fun
  | [d] => { results := [.lit (.bool true)], args := [d] }
  | _ => none }
def fnExactExtBytesRow : OpenClaim := { program := "ytimpmiamfpnjaaj", sum := "a091362b1f67750afbe03335f6cd0a81c4404aff5f2c660e4d221e22863bbaa8", func := "loop.example/g00348/laws.FnExactExtBytes", spec := "fnExactExtBytes", apart := false }
def FnExactExtBytesSaid : Prop := fnExactExtBytesRow.holds Try.pinned (OpenSpec.ofChange fnExactExtBytesSpec)

/-- ITS FALSE NEIGHBOUR: 'it returns false'. Refute it at one input. -/
def fnExactExtBytesWrong : ChangeSpec := { name := "fnExactExtBytes", fn := fun _ => fun
  | [d] => { results := [.lit (.bool false)], args := [d] }
  | _ => none }
def FnExactExtBytesWrongFalsely : Prop := fnExactExtBytesRow.holds Try.pinned (OpenSpec.ofChange fnExactExtBytesWrong)

/-- 'laws.FnExactReadExts': WHATEVER THE INPUT: true; the input reads as it did. -/
def fnExactReadExtsSpec : ChangeSpec := { name := "fnExactReadExts", fn := fun _ => fun
  | [d] => { results := [.lit (.bool true)], args := [d] }
  | _ => none }
def fnExactReadExtsRow : OpenClaim := { program := "ytimpmiamfpnjaaj", sum := "a091362b1f67750afbe03335f6cd0a81c4404aff5f2c660e4d221e22863bbaa8", func := "loop.example/g00348/laws.FnExactReadExts", spec := "fnExactReadExts", apart := false }
def FnExactReadExtsSaid : Prop := fnExactReadExtsRow.holds Try.pinned (OpenSpec.ofChange fnExactReadExtsSpec)

/-- ITS FALSE NEIGHBOUR: 'it returns false'. Refute it at one input. -/
def fnExactReadExtsWrong : ChangeSpec := { name := "fnExactReadExts", fn := fun _ => fun
  | [d] => { results := [.lit (.bool false)], args := [d] }
  | _ => none }
def FnExactReadExtsWrongFalsely : Prop := fnExactReadExtsRow.holds Try.pinned (OpenSpec.ofChange fnExactReadExtsWrong)

/- THE SECOND FORM. 'bulk': how many values and letters a reading holds, each counted each time it is reached (what is shared counts as often as it is met; a slice's spare places count too). A statement '..UptoSaid' is the law's where the arguments, and the package variables that the reading takes, are together of bulk at most 1048576: NARROWER than '..Said'. Prove '..Said' where nothing that the law and all that it calls make is longer than what came in: it says more and counts as full. Else prove '..UptoSaid'. A law counts once. -/
mutual
def uptoBulk {H : Type} : DataW H → Nat
  | .lit (.string bytes) => bytes.length + 1
  | .lit _ => 1
  | .nil => 1
  | .ptr d => uptoBulk d + 1
  | .slice elems spare => uptoBulkAll elems + uptoBulkAll spare + 1
  | .agg parts => uptoBulkAll parts + 1
  | .iface _ d => uptoBulk d + 1
  | .map entries => uptoBulkEntries entries + 1
  | .held _ => 1
def uptoBulkAll {H : Type} : List (DataW H) → Nat
  | [] => 0
  | d :: r => uptoBulk d + uptoBulkAll r
def uptoBulkEntries {H : Type} : List (Lit × DataW H) → Nat
  | [] => 0
  | x :: r => uptoBulkEntry x + uptoBulkEntries r
def uptoBulkEntry {H : Type} : Lit × DataW H → Nat
  | (.string bytes, d) => bytes.length + uptoBulk d + 1
  | (_, d) => uptoBulk d + 1
 end
def uptoSmall : (H : Type) → List (DataW H) → Bool := fun _ ds => decide (uptoBulkAll ds ≤ 1048576)
def OpenSpec.upto (s : _root_.Go.ChangeSpec) : _root_.Go.OpenSpec := { _root_.Go.OpenSpec.ofChange s with cond := some uptoSmall }

/-- 'laws.FnExactExtMul', WHERE WHAT IT READS IS OF BULK AT MOST 1048576: true; the input reads as it did. -/
def fnExactExtMulUptoRow : OpenClaim := { program := "ytimpmiamfpnjaaj", sum := "a091362b1f67750afbe03335f6cd0a81c4404aff5f2c660e4d221e22863bbaa8", func := "loop.example/g00348/laws.FnExactExtMul", spec := "fnExactExtMul", apart := false, narrowed := true }
def FnExactExtMulUptoSaid : Prop := fnExactExtMulUptoRow.holds Try.pinned (OpenSpec.upto fnExactExtMulSpec)

/-- 'laws.FnExactExtPow', WHERE WHAT IT READS IS OF BULK AT MOST 1048576: true; the input reads as it did. -/
def fnExactExtPowUptoRow : OpenClaim := { program := "ytimpmiamfpnjaaj", sum := "a091362b1f67750afbe03335f6cd0a81c4404aff5f2c660e4d221e22863bbaa8", func := "loop.example/g00348/laws.FnExactExtPow", spec := "fnExactExtPow", apart := false, narrowed := true }
def FnExactExtPowUptoSaid : Prop := fnExactExtPowUptoRow.holds Try.pinned (OpenSpec.upto fnExactExtPowSpec)

/-- 'laws.FnExactExtInverse', WHERE WHAT IT READS IS OF BULK AT MOST 1048576: true; the input reads as it did. -/
def fnExactExtInverseUptoRow : OpenClaim := { program := "ytimpmiamfpnjaaj", sum := "a091362b1f67750afbe03335f6cd0a81c4404aff5f2c660e4d221e22863bbaa8", func := "loop.example/g00348/laws.FnExactExtInverse", spec := "fnExactExtInverse", apart := false, narrowed := true }
def FnExactExtInverseUptoSaid : Prop := fnExactExtInverseUptoRow.holds Try.pinned (OpenSpec.upto fnExactExtInverseSpec)

/-- 'laws.FnExactNorm', WHERE WHAT IT READS IS OF BULK AT MOST 1048576: true; the input reads as it did. -/
def fnExactNormUptoRow : OpenClaim := { program := "ytimpmiamfpnjaaj", sum := "a091362b1f67750afbe03335f6cd0a81c4404aff5f2c660e4d221e22863bbaa8", func := "loop.example/g00348/laws.FnExactNorm", spec := "fnExactNorm", apart := false, narrowed := true }
def FnExactNormUptoSaid : Prop := fnExactNormUptoRow.holds Try.pinned (OpenSpec.upto fnExactNormSpec)

/-- 'laws.FnExactExtBytes', WHERE WHAT IT READS IS OF BULK AT MOST 1048576: true; the input reads as it did. -/
def fnExactExtBytesUptoRow : OpenClaim := { program := "ytimpmiamfpnjaaj", sum := "a091362b1f67750afbe03335f6cd0a81c4404aff5f2c660e4d221e22863bbaa8", func := "loop.example/g00348/laws.FnExactExtBytes", spec := "fnExactExtBytes", apart := false, narrowed := true }
def FnExactExtBytesUptoSaid : Prop := fnExactExtBytesUptoRow.holds Try.pinned (OpenSpec.upto fnExactExtBytesSpec)

/-- 'laws.FnExactReadExts', WHERE WHAT IT READS IS OF BULK AT MOST 1048576: true; the input reads as it did. -/
def fnExactReadExtsUptoRow : OpenClaim := { program := "ytimpmiamfpnjaaj", sum := "a091362b1f67750afbe03335f6cd0a81c4404aff5f2c660e4d221e22863bbaa8", func := "loop.example/g00348/laws.FnExactReadExts", spec := "fnExactReadExts", apart := false, narrowed := true }
def FnExactReadExtsUptoSaid : Prop := fnExactReadExtsUptoRow.holds Try.pinned (OpenSpec.upto fnExactReadExtsSpec)

end Rows
end Go.Proofs.Ytimpmiamfpnjaaj
