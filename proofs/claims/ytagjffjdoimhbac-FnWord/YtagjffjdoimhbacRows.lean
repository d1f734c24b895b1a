/-
  No cell of these rows narrows 'for every input' (looked for: loops, veiled, ifaces, maps, wideKeys, modest, calm, conditions, laid).
  DERIVED. THE GIVEN ROWS OF THIS SEAT. 6 by the template 'for every input the law returns true; each argument reads behind the call as it read before'; 0 by the template 'total and deterministic' (their statements: YtagjffjdoimhbacTotals.lean).
  GIVEN WITH THE SEED: the statements are not yours to turn. If you find one false, say at which input.
  Laid BY PROGRAM, IN A SANDBOX (cutbox-rows.mjs): the forced cells as the released guide's own fill.sh prints them over the translation f24d86164a223647… (all of the seat's roots in one cut). By AI agents, Wed Nov 11 2026. No macro, syntax, notation, axiom, sorry.
-/
import Derived.Test.YtagjffjdoimhbacChecked
import GoSem.Claim
import GoSem.ClaimJoined
import GoSem.ClaimMapViews
import Derived.JoinedTies
import Derived.KernelRfl
namespace Go.Proofs.Ytagjffjdoimhbac
/- THE CELL 'sum', in the pinned program and in every row, IS THE sha256 OF THE DUMP (.gsa) THAT YtagjffjdoimhbacProg.lean LOADS. Nothing in Lean hashes anything: it is a label: what it is worth is what the hold of that sum in a sandbox is worth. -/
noncomputable def Try.pinned : Pinned := { name := "ytagjffjdoimhbac", sum := "f24d86164a223647b624dedc59f0b8c5bed78c3e17a97a601470a1a1eda80b64", checked := Try.checked }
namespace Rows
def none {H : Type} : Left H := { results := [], args := [] }

/-- 'laws.FnEq': WHATEVER THE INPUT: true; the input reads as it did. -/
def fnEqSpec : ChangeSpec := { name := "fnEq", fn := fun _ => fun
  | [d1, d2] => { results := [.lit (.bool true)], args := [d1, d2] }
  | _ => none }
def fnEqRow : OpenClaim := { program := "ytagjffjdoimhbac", sum := "f24d86164a223647b624dedc59f0b8c5bed78c3e17a97a601470a1a1eda80b64", func := "loop.example/g00348/laws.FnEq", spec := "fnEq", apart := false }
def FnEqSaid : Prop := fnEqRow.holds Try.pinned (OpenSpec.ofChange fnEqSpec)

/-- ITS FALSE NEIGHBOUR: 'it returns false'. Refute it at one input. -/
def fnEqWrong : ChangeSpec := { name := "fnEq", fn := fun _ => fun
  | [d1, d2] => { results := [.lit (.bool false)], args := [d1, d2] }
  | _ => none }
def FnEqWrongFalsely : Prop := fnEqRow.holds Try.pinned (OpenSpec.ofChange fnEqWrong)

/-- 'laws.FnTable': WHATEVER THE INPUT: true; the input reads as it did. -/
def fnTableSpec : ChangeSpec := { name := "fnTable", fn := fun _ => fun
  | [d1, d2] => { results := [.lit (.bool true)], args := [d1, d2] }
  | _ => none }
def fnTableRow : OpenClaim := { program := "ytagjffjdoimhbac", sum := "f24d86164a223647b624dedc59f0b8c5bed78c3e17a97a601470a1a1eda80b64", func := "loop.example/g00348/laws.FnTable", spec := "fnTable", apart := false }
def FnTableSaid : Prop := fnTableRow.holds Try.pinned (OpenSpec.ofChange fnTableSpec)

/-- ITS FALSE NEIGHBOUR: 'it returns false'. Refute it at one input. -/
def fnTableWrong : ChangeSpec := { name := "fnTable", fn := fun _ => fun
  | [d1, d2] => { results := [.lit (.bool false)], args := [d1, d2] }
  | _ => none }
def FnTableWrongFalsely : Prop := fnTableRow.holds Try.pinned (OpenSpec.ofChange fnTableWrong)

/-- 'laws.FnCoefs': WHATEVER THE INPUT: true; the input reads as it did. -/
def fnCoefsSpec : ChangeSpec := { name := "fnCoefs", fn := fun _ => fun
  | [d1, d2] => { results := [.lit (.bool true)], args := [d1, d2] }
  | _ => none }
def fnCoefsRow : OpenClaim := { program := "ytagjffjdoimhbac", sum := "f24d86164a223647b624dedc59f0b8c5bed78c3e17a97a601470a1a1eda80b64", func := "loop.example/g00348/laws.FnCoefs", spec := "fnCoefs", apart := false }
def FnCoefsSaid : Prop := fnCoefsRow.holds Try.pinned (OpenSpec.ofChange fnCoefsSpec)

/-- ITS FALSE NEIGHBOUR: 'it returns false'. Refute it at one input. -/
def fnCoefsWrong : ChangeSpec := { name := "fnCoefs", fn := fun _ => fun
  | [d1, d2] => { results := [.lit (.bool false)], args := [d1, d2] }
  | _ => none }
def FnCoefsWrongFalsely : Prop := fnCoefsRow.holds Try.pinned (OpenSpec.ofChange fnCoefsWrong)

/-- 'laws.FnLine': WHATEVER THE INPUT: true; the input reads as it did. -/
def fnLineSpec : ChangeSpec := { name := "fnLine", fn := fun _ => fun
  | [d1, d2] => { results := [.lit (.bool true)], args := [d1, d2] }
  | _ => none }
def fnLineRow : OpenClaim := { program := "ytagjffjdoimhbac", sum := "f24d86164a223647b624dedc59f0b8c5bed78c3e17a97a601470a1a1eda80b64", func := "loop.example/g00348/laws.FnLine", spec := "fnLine", apart := false }
def FnLineSaid : Prop := fnLineRow.holds Try.pinned (OpenSpec.ofChange fnLineSpec)

/-- ITS FALSE NEIGHBOUR: 'it returns false'. Refute it at one input. -/
def fnLineWrong : ChangeSpec := { name := "fnLine", fn := fun _ => fun
  | [d1, d2] => { results := [.lit (.bool false)], args := [d1, d2] }
  | _ => none }
def FnLineWrongFalsely : Prop := fnLineRow.holds Try.pinned (OpenSpec.ofChange fnLineWrong)

/-- 'laws.FnNtt': WHATEVER THE INPUT: true; the input reads as it did. -/
def fnNttSpec : ChangeSpec := { name := "fnNtt", fn := fun _ => fun
  | [d1, d2] => { results := [.lit (.bool true)], args := [d1, d2] }
  | _ => none }
def fnNttRow : OpenClaim := { program := "ytagjffjdoimhbac", sum := "f24d86164a223647b624dedc59f0b8c5bed78c3e17a97a601470a1a1eda80b64", func := "loop.example/g00348/laws.FnNtt", spec := "fnNtt", recurses := true, apart := false }
def FnNttSaid : Prop := fnNttRow.holds Try.pinned (OpenSpec.ofChange fnNttSpec)

/-- ITS FALSE NEIGHBOUR: 'it returns false'. Refute it at one input. -/
def fnNttWrong : ChangeSpec := { name := "fnNtt", fn := fun _ => fun
  | [d1, d2] => { results := [.lit (.bool false)], args := [d1, d2] }
  | _ => none }
def FnNttWrongFalsely : Prop := fnNttRow.holds Try.pinned (OpenSpec.ofChange fnNttWrong)

/-- 'laws.FnWord': WHATEVER THE INPUT: true; the input reads as it did. -/
def fnWordSpec : ChangeSpec := { name := "fnWord", fn := fun _ => fun
  | [d1, d2] => { results := [.lit (.bool true)], args := [d1, d2] }
  | _ => none }
def fnWordRow : OpenClaim := { program := "ytagjffjdoimhbac", sum := "f24d86164a223647b624dedc59f0b8c5bed78c3e17a97a601470a1a1eda80b64", func := "loop.example/g00348/laws.FnWord", spec := "fnWord", recurses := true, apart := false }
def FnWordSaid : Prop := fnWordRow.holds Try.pinned (OpenSpec.ofChange fnWordSpec)

/-- ITS FALSE NEIGHBOUR: 'it returns false'. Refute it at one input. -/
def fnWordWrong : ChangeSpec := { name := "fnWord", fn := fun _ => fun
  | [d1, d2] => { results := [.lit (.bool false)], args := [d1, d2] }
  | _ => none }
def FnWordWrongFalsely : Prop := fnWordRow.holds Try.pinned (OpenSpec.ofChange fnWordWrong)

/- THE SECOND FORM. 'bulk': how many values and letters a reading holds, each counted each time it is reached (what is shared counts as often as it is met; a slice's spare places count too). A statement '..UptoSaid' is the law's where the arguments, and the package variables that the reading takes, are together of bulk at most 1048576: NARROWER than '..Said'. Prove '..Said' where nothing that the law and all that it calls make is longer than what came in: it says more and counts as full. Else prove '..UptoSaid'. A law counts once. -/
mutual
def uptoBulk {H : Type} : DataW H → Nat
  | .lit (.string bytes) => bytes.length + 1
  | .lit _ => 1
  | .nil => 1
  | .ptr d => uptoBulk d + 1
  | .slice elems spare => uptoBulkAll elems + uptoBulkAll spare + 1
  | .agg parts => uptoBulkAll parts + 1
  | .iface _ d => uptoBulk d + 1
  | .map entries => uptoBulkEntries entries + 1
  | .held _ => 1
def uptoBulkAll {H : Type} : List (DataW H) → Nat
  | [] => 0
  | d :: r => uptoBulk d + uptoBulkAll r
def uptoBulkEntries {H : Type} : List (Lit × DataW H) → Nat
  | [] => 0
  | x :: r => uptoBulkEntry x + uptoBulkEntries r
def uptoBulkEntry {H : Type} : Lit × DataW H → Nat
  | (.string bytes, d) => bytes.length + uptoBulk d + 1
  | (_, d) => uptoBulk d + 1
 end
def uptoSmall : (H : Type) → List (DataW H) → Bool := fun _ ds => decide (uptoBulkAll ds ≤ 1048576)
def OpenSpec.upto (s : _root_.Go.ChangeSpec) : _root_.Go.OpenSpec := { _root_.Go.OpenSpec.ofChange s with cond := some uptoSmall }

/-- 'laws.FnEq', WHERE WHAT IT READS IS OF BULK AT MOST 1048576: true; the input reads as it did. -/
def fnEqUptoRow : OpenClaim := { program := "ytagjffjdoimhbac", sum := "f24d86164a223647b624dedc59f0b8c5bed78c3e17a97a601470a1a1eda80b64", func := "loop.example/g00348/laws.FnEq", spec := "fnEq", apart := false, narrowed := true }
def FnEqUptoSaid : Prop := fnEqUptoRow.holds Try.pinned (OpenSpec.upto fnEqSpec)

/-- 'laws.FnTable', WHERE WHAT IT READS IS OF BULK AT MOST 1048576: true; the input reads as it did. -/
def fnTableUptoRow : OpenClaim := { program := "ytagjffjdoimhbac", sum := "f24d86164a223647b624dedc59f0b8c5bed78c3e17a97a601470a1a1eda80b64", func := "loop.example/g00348/laws.FnTable", spec := "fnTable", apart := false, narrowed := true }
def FnTableUptoSaid : Prop := fnTableUptoRow.holds Try.pinned (OpenSpec.upto fnTableSpec)

/-- 'laws.FnCoefs', WHERE WHAT IT READS IS OF BULK AT MOST 1048576: true; the input reads as it did. -/
def fnCoefsUptoRow : OpenClaim := { program := "ytagjffjdoimhbac", sum := "f24d86164a223647b624dedc59f0b8c5bed78c3e17a97a601470a1a1eda80b64", func := "loop.example/g00348/laws.FnCoefs", spec := "fnCoefs", apart := false, narrowed := true }
def FnCoefsUptoSaid : Prop := fnCoefsUptoRow.holds Try.pinned (OpenSpec.upto fnCoefsSpec)

/-- 'laws.FnLine', WHERE WHAT IT READS IS OF BULK AT MOST 1048576: true; the input reads as it did. -/
def fnLineUptoRow : OpenClaim := { program := "ytagjffjdoimhbac", sum := "f24d86164a223647b624dedc59f0b8c5bed78c3e17a97a601470a1a1eda80b64", func := "loop.example/g00348/laws.FnLine", spec := "fnLine", apart := false, narrowed := true }
def FnLineUptoSaid : Prop := fnLineUptoRow.holds Try.pinned (OpenSpec.upto fnLineSpec)

/-- 'laws.FnNtt', WHERE WHAT IT READS IS OF BULK AT MOST 1048576: true; the input reads as it did. -/
def fnNttUptoRow : OpenClaim := { program := "ytagjffjdoimhbac", sum := "f24d86164a223647b624dedc59f0b8c5bed78c3e17a97a601470a1a1eda80b64", func := "loop.example/g00348/laws.FnNtt", spec := "fnNtt", recurses := true, apart := false, narrowed := true }
def FnNttUptoSaid : Prop := fnNttUptoRow.holds Try.pinned (OpenSpec.upto fnNttSpec)

/-- 'laws.FnWord', WHERE WHAT IT READS IS OF BULK AT MOST 1048576: true; the input reads as it did. -/
def fnWordUptoRow : OpenClaim := { program := "ytagjffjdoimhbac", sum := "f24d86164a223647b624dedc59f0b8c5bed78c3e17a97a601470a1a1eda80b64", func := "loop.example/g00348/laws.FnWord", spec := "fnWord", recurses := true, apart := false, narrowed := true }
def FnWordUptoSaid : Prop := fnWordUptoRow.holds Try.pinned (OpenSpec.upto fnWordSpec)

end Rows
end Go.Proofs.Ytagjffjdoimhbac
