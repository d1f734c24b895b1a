/-
  No cell of these rows narrows 'for every input' (looked for: loops, veiled, ifaces, maps, wideKeys, modest, calm, conditions, laid).
  DERIVED. THE GIVEN ROWS OF THIS SEAT. 6 by the template 'for every input the law returns true; each argument reads behind the call as it read before'; 0 by the template 'total and deterministic' (their statements: YtagjffjdoimhbapTotals.lean).
  GIVEN WITH THE SEED: the statements are not yours to turn. If you find one false, say at which input.
  Laid BY PROGRAM, IN A SANDBOX (cutbox-rows.mjs): the forced cells as the released guide's own fill.sh prints them over the translation 86c299a352174794… (all of the seat's roots in one cut). By AI agents, Wed Nov 11 2026. No macro, syntax, notation, axiom, sorry.
-/
import Derived.Test.YtagjffjdoimhbapChecked
import GoSem.Claim
import GoSem.ClaimJoined
import GoSem.ClaimMapViews
import Derived.JoinedTies
import Derived.KernelRfl
namespace Go.Proofs.Ytagjffjdoimhbap
/- THE CELL 'sum', in the pinned program and in every row, IS THE sha256 OF THE DUMP (.gsa) THAT YtagjffjdoimhbapProg.lean LOADS. Nothing in Lean hashes anything: it is a label: what it is worth is what the hold of that sum in a sandbox is worth. -/
noncomputable def Try.pinned : Pinned := { name := "ytagjffjdoimhbap", sum := "86c299a352174794a044215be2995a3ed4552f4ca81aa8cfce030880e974fe43", checked := Try.checked }
namespace Rows
def none {H : Type} : Left H := { results := [], args := [] }

/-- 'laws.FnExactInverseNtt': WHATEVER THE INPUT: true; the input reads as it did. -/
def fnExactInverseNttSpec : ChangeSpec := { name := "fnExactInverseNtt", fn := fun _ => fun
  | [d] => { results := [.lit (.bool true)], args := [d] }
  | _ => none }
def fnExactInverseNttRow : OpenClaim := { program := "ytagjffjdoimhbap", sum := "86c299a352174794a044215be2995a3ed4552f4ca81aa8cfce030880e974fe43", func := "loop.example/g00348/laws.FnExactInverseNtt", spec := "fnExactInverseNtt", recurses := true, apart := false }
def FnExactInverseNttSaid : Prop := fnExactInverseNttRow.holds Try.pinned (OpenSpec.ofChange fnExactInverseNttSpec)

/-- ITS FALSE NEIGHBOUR: 'it returns false'. Refute it at one input. -/
def fnExactInverseNttWrong : ChangeSpec := { name := "fnExactInverseNtt", fn := fun _ => fun
  | [d] => { results := [.lit (.bool false)], args := [d] }
  | _ => none }
def FnExactInverseNttWrongFalsely : Prop := fnExactInverseNttRow.holds Try.pinned (OpenSpec.ofChange fnExactInverseNttWrong)

/-- 'laws.FnExactEncodeWord': WHATEVER THE INPUT: true; the input reads as it did. -/
def fnExactEncodeWordSpec : ChangeSpec := { name := "fnExactEncodeWord", fn := fun _ => fun
  | [d1, d2] => { results := [.lit (.bool true)], args := [d1, d2] }
  | _ => none }
def fnExactEncodeWordRow : OpenClaim := { program := "ytagjffjdoimhbap", sum := "86c299a352174794a044215be2995a3ed4552f4ca81aa8cfce030880e974fe43", func := "loop.example/g00348/laws.FnExactEncodeWord", spec := "fnExactEncodeWord", recurses := true, apart := false }
def FnExactEncodeWordSaid : Prop := fnExactEncodeWordRow.holds Try.pinned (OpenSpec.ofChange fnExactEncodeWordSpec)

/-- ITS FALSE NEIGHBOUR: 'it returns false'. Refute it at one input. -/
def fnExactEncodeWordWrong : ChangeSpec := { name := "fnExactEncodeWord", fn := fun _ => fun
  | [d1, d2] => { results := [.lit (.bool false)], args := [d1, d2] }
  | _ => none }
def FnExactEncodeWordWrongFalsely : Prop := fnExactEncodeWordRow.holds Try.pinned (OpenSpec.ofChange fnExactEncodeWordWrong)

/-- 'laws.FnExactIsWord': WHATEVER THE INPUT: true; the input reads as it did. -/
def fnExactIsWordSpec : ChangeSpec := { name := "fnExactIsWord", fn := fun _ => fun
  | [d1, d2] => { results := [.lit (.bool true)], args := [d1, d2] }
  | _ => none }
def fnExactIsWordRow : OpenClaim := { program := "ytagjffjdoimhbap", sum := "86c299a352174794a044215be2995a3ed4552f4ca81aa8cfce030880e974fe43", func := "loop.example/g00348/laws.FnExactIsWord", spec := "fnExactIsWord", recurses := true, apart := false }
def FnExactIsWordSaid : Prop := fnExactIsWordRow.holds Try.pinned (OpenSpec.ofChange fnExactIsWordSpec)

/-- ITS FALSE NEIGHBOUR: 'it returns false'. Refute it at one input. -/
def fnExactIsWordWrong : ChangeSpec := { name := "fnExactIsWord", fn := fun _ => fun
  | [d1, d2] => { results := [.lit (.bool false)], args := [d1, d2] }
  | _ => none }
def FnExactIsWordWrongFalsely : Prop := fnExactIsWordRow.holds Try.pinned (OpenSpec.ofChange fnExactIsWordWrong)

/-- 'laws.FnExactFoldWord': WHATEVER THE INPUT: true; the input reads as it did. -/
def fnExactFoldWordSpec : ChangeSpec := { name := "fnExactFoldWord", fn := fun _ => fun
  | [d1, d2] => { results := [.lit (.bool true)], args := [d1, d2] }
  | _ => none }
def fnExactFoldWordRow : OpenClaim := { program := "ytagjffjdoimhbap", sum := "86c299a352174794a044215be2995a3ed4552f4ca81aa8cfce030880e974fe43", func := "loop.example/g00348/laws.FnExactFoldWord", spec := "fnExactFoldWord", apart := false }
def FnExactFoldWordSaid : Prop := fnExactFoldWordRow.holds Try.pinned (OpenSpec.ofChange fnExactFoldWordSpec)

/-- ITS FALSE NEIGHBOUR: 'it returns false'. Refute it at one input. -/
def fnExactFoldWordWrong : ChangeSpec := { name := "fnExactFoldWord", fn := fun _ => fun
  | [d1, d2] => { results := [.lit (.bool false)], args := [d1, d2] }
  | _ => none }
def FnExactFoldWordWrongFalsely : Prop := fnExactFoldWordRow.holds Try.pinned (OpenSpec.ofChange fnExactFoldWordWrong)

/-- 'laws.FnExactFoldPair': WHATEVER THE INPUT: true; the input reads as it did. -/
def fnExactFoldPairSpec : ChangeSpec := { name := "fnExactFoldPair", fn := fun _ => fun
  | [d1, d2, d3, d4, d5] => { results := [.lit (.bool true)], args := [d1, d2, d3, d4, d5] }
  | _ => none }
def fnExactFoldPairRow : OpenClaim := { program := "ytagjffjdoimhbap", sum := "86c299a352174794a044215be2995a3ed4552f4ca81aa8cfce030880e974fe43", func := "loop.example/g00348/laws.FnExactFoldPair", spec := "fnExactFoldPair", apart := false }
def FnExactFoldPairSaid : Prop := fnExactFoldPairRow.holds Try.pinned (OpenSpec.ofChange fnExactFoldPairSpec)

/-- ITS FALSE NEIGHBOUR: 'it returns false'. Refute it at one input. -/
def fnExactFoldPairWrong : ChangeSpec := { name := "fnExactFoldPair", fn := fun _ => fun
  | [d1, d2, d3, d4, d5] => { results := [.lit (.bool false)], args := [d1, d2, d3, d4, d5] }
  | _ => none }
def FnExactFoldPairWrongFalsely : Prop := fnExactFoldPairRow.holds Try.pinned (OpenSpec.ofChange fnExactFoldPairWrong)

/-- 'laws.FnExactPolyAt': WHATEVER THE INPUT: true; the input reads as it did. -/
def fnExactPolyAtSpec : ChangeSpec := { name := "fnExactPolyAt", fn := fun _ => fun
  | [d1, d2] => { results := [.lit (.bool true)], args := [d1, d2] }
  | _ => none }
def fnExactPolyAtRow : OpenClaim := { program := "ytagjffjdoimhbap", sum := "86c299a352174794a044215be2995a3ed4552f4ca81aa8cfce030880e974fe43", func := "loop.example/g00348/laws.FnExactPolyAt", spec := "fnExactPolyAt", apart := false }
def FnExactPolyAtSaid : Prop := fnExactPolyAtRow.holds Try.pinned (OpenSpec.ofChange fnExactPolyAtSpec)

/-- ITS FALSE NEIGHBOUR: 'it returns false'. Refute it at one input. -/
def fnExactPolyAtWrong : ChangeSpec := { name := "fnExactPolyAt", fn := fun _ => fun
  | [d1, d2] => { results := [.lit (.bool false)], args := [d1, d2] }
  | _ => none }
def FnExactPolyAtWrongFalsely : Prop := fnExactPolyAtRow.holds Try.pinned (OpenSpec.ofChange fnExactPolyAtWrong)

/- THE SECOND FORM. 'bulk': how many values and letters a reading holds, each counted each time it is reached (what is shared counts as often as it is met; a slice's spare places count too). A statement '..UptoSaid' is the law's where the arguments, and the package variables that the reading takes, are together of bulk at most 1048576: NARROWER than '..Said'. Prove '..Said' where nothing that the law and all that it calls make is longer than what came in: it says more and counts as full. Else prove '..UptoSaid'. A law counts once. -/
mutual
def uptoBulk {H : Type} : DataW H → Nat
  | .lit (.string bytes) => bytes.length + 1
  | .lit _ => 1
  | .nil => 1
  | .ptr d => uptoBulk d + 1
  | .slice elems spare => uptoBulkAll elems + uptoBulkAll spare + 1
  | .agg parts => uptoBulkAll parts + 1
  | .iface _ d => uptoBulk d + 1
  | .map entries => uptoBulkEntries entries + 1
  | .held _ => 1
def uptoBulkAll {H : Type} : List (DataW H) → Nat
  | [] => 0
  | d :: r => uptoBulk d + uptoBulkAll r
def uptoBulkEntries {H : Type} : List (Lit × DataW H) → Nat
  | [] => 0
  | x :: r => uptoBulkEntry x + uptoBulkEntries r
def uptoBulkEntry {H : Type} : Lit × DataW H → Nat
  | (.string bytes, d) => bytes.length + uptoBulk d + 1
  | (_, d) => uptoBulk d + 1
 end
def uptoSmall : (H : Type) → List (DataW H) → Bool := fun _ ds => decide (uptoBulkAll ds ≤ 1048576)
def OpenSpec.upto (s : _root_.Go.ChangeSpec) : _root_.Go.OpenSpec := { _root_.Go.OpenSpec.ofChange s with cond := some uptoSmall }

/-- 'laws.FnExactInverseNtt', WHERE WHAT IT READS IS OF BULK AT MOST 1048576: true; the input reads as it did. -/
def fnExactInverseNttUptoRow : OpenClaim := { program := "ytagjffjdoimhbap", sum := "86c299a352174794a044215be2995a3ed4552f4ca81aa8cfce030880e974fe43", func := "loop.example/g00348/laws.FnExactInverseNtt", spec := "fnExactInverseNtt", recurses := true, apart := false, narrowed := true }
def FnExactInverseNttUptoSaid : Prop := fnExactInverseNttUptoRow.holds Try.pinned (OpenSpec.upto fnExactInverseNttSpec)

/-- 'laws.FnExactEncodeWord', WHERE WHAT IT READS IS OF BULK AT MOST 1048576: true; the input reads as it did. -/
def fnExactEncodeWordUptoRow : OpenClaim := { program := "ytagjffjdoimhbap", sum := "86c299a352174794a044215be2995a3ed4552f4ca81aa8cfce030880e974fe43", func := "loop.example/g00348/laws.FnExactEncodeWord", spec := "fnExactEncodeWord", recurses := true, apart := false, narrowed := true }
def FnExactEncodeWordUptoSaid : Prop := fnExactEncodeWordUptoRow.holds Try.pinned (OpenSpec.upto fnExactEncodeWordSpec)

/-- 'laws.FnExactIsWord', WHERE WHAT IT READS IS OF BULK AT MOST 1048576: true; the input reads as it did. -/
def fnExactIsWordUptoRow : OpenClaim := { program := "ytagjffjdoimhbap", sum := "86c299a352174794a044215be2995a3ed4552f4ca81aa8cfce030880e974fe43", func := "loop.example/g00348/laws.FnExactIsWord", spec := "fnExactIsWord", recurses := true, apart := false, narrowed := true }
def FnExactIsWordUptoSaid : Prop := fnExactIsWordUptoRow.holds Try.pinned (OpenSpec.upto fnExactIsWordSpec)

/-- 'laws.FnExactFoldWord', WHERE WHAT IT READS IS OF BULK AT MOST 1048576: true; the input reads as it did. -/
def fnExactFoldWordUptoRow : OpenClaim := { program := "ytagjffjdoimhbap", sum := "86c299a352174794a044215be2995a3ed4552f4ca81aa8cfce030880e974fe43", func := "loop.example/g00348/laws.FnExactFoldWord", spec := "fnExactFoldWord", apart := false, narrowed := true }
def FnExactFoldWordUptoSaid : Prop := fnExactFoldWordUptoRow.holds Try.pinned (OpenSpec.upto fnExactFoldWordSpec)

/-- 'laws.FnExactFoldPair', WHERE WHAT IT READS IS OF BULK AT MOST 1048576: true; the input reads as it did. -/
def fnExactFoldPairUptoRow : OpenClaim := { program := "ytagjffjdoimhbap", sum := "86c299a352174794a044215be2995a3ed4552f4ca81aa8cfce030880e974fe43", func := "loop.example/g00348/laws.FnExactFoldPair", spec := "fnExactFoldPair", apart := false, narrowed := true }
def FnExactFoldPairUptoSaid : Prop := fnExactFoldPairUptoRow.holds Try.pinned (OpenSpec.upto fnExactFoldPairSpec)

/-- 'laws.FnExactPolyAt', WHERE WHAT IT READS IS OF BULK AT MOST 1048576: true; the input reads as it did. -/
def fnExactPolyAtUptoRow : OpenClaim := { program := "ytagjffjdoimhbap", sum := "86c299a352174794a044215be2995a3ed4552f4ca81aa8cfce030880e974fe43", func := "loop.example/g00348/laws.FnExactPolyAt", spec := "fnExactPolyAt", apart := false, narrowed := true }
def FnExactPolyAtUptoSaid : Prop := fnExactPolyAtUptoRow.holds Try.pinned (OpenSpec.upto fnExactPolyAtSpec)

end Rows
end Go.Proofs.Ytagjffjdoimhbap
