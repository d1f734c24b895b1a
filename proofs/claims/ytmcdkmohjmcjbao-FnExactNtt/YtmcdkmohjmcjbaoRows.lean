/-
  No cell of these rows narrows 'for every input' (looked for: loops, veiled, ifaces, maps, wideKeys, modest, calm, conditions, laid).
  DERIVED. THE GIVEN ROWS OF THIS SEAT. 6 by the template 'for every input the law returns true; each argument reads behind the call as it read before'; 0 by the template 'total and deterministic' (their statements: YtmcdkmohjmcjbaoTotals.lean).
  GIVEN WITH THE SEED: the statements are not yours to turn. If you find one false, say at which input.
  Laid BY PROGRAM, IN A SANDBOX (cutbox-rows.mjs): the forced cells as the released guide's own fill.sh prints them over the translation 679e3e0e1a6fe0d5… (all of the seat's roots in one cut). By AI agents, Wed Nov 11 2026. No macro, syntax, notation, axiom, sorry.
-/
import Derived.Test.YtmcdkmohjmcjbaoChecked
import GoSem.Claim
import GoSem.ClaimJoined
import GoSem.ClaimMapViews
import Derived.JoinedTies
import Derived.KernelRfl
namespace Go.Proofs.Ytmcdkmohjmcjbao
/- THE CELL 'sum', in the pinned program and in every row, IS THE sha256 OF THE DUMP (.gsa) THAT YtmcdkmohjmcjbaoProg.lean LOADS. Nothing in Lean hashes anything: it is a label: what it is worth is what the hold of that sum in a sandbox is worth. -/
noncomputable def Try.pinned : Pinned := { name := "ytmcdkmohjmcjbao", sum := "679e3e0e1a6fe0d55a504e6039ea9872606495f69f3a54b2d09a39aedf33bbd6", checked := Try.checked }
namespace Rows
def none {H : Type} : Left H := { results := [], args := [] }

/-- 'laws.FnExactTableAt': WHATEVER THE INPUT: true; the input reads as it did. -/
def fnExactTableAtSpec : ChangeSpec := { name := "fnExactTableAt", fn := fun _ => fun
  | [d1, d2] => { results := [.lit (.bool true)], args := [d1, d2] }
  | _ => none }
def fnExactTableAtRow : OpenClaim := { program := "ytmcdkmohjmcjbao", sum := "679e3e0e1a6fe0d55a504e6039ea9872606495f69f3a54b2d09a39aedf33bbd6", func := "loop.example/g00348/laws.FnExactTableAt", spec := "fnExactTableAt", apart := false }
def FnExactTableAtSaid : Prop := fnExactTableAtRow.holds Try.pinned (OpenSpec.ofChange fnExactTableAtSpec)

/-- ITS FALSE NEIGHBOUR: 'it returns false'. Refute it at one input. -/
def fnExactTableAtWrong : ChangeSpec := { name := "fnExactTableAt", fn := fun _ => fun
  | [d1, d2] => { results := [.lit (.bool false)], args := [d1, d2] }
  | _ => none }
def FnExactTableAtWrongFalsely : Prop := fnExactTableAtRow.holds Try.pinned (OpenSpec.ofChange fnExactTableAtWrong)

/-- 'laws.FnExactFoldTable': WHATEVER THE INPUT: true; the input reads as it did. -/
def fnExactFoldTableSpec : ChangeSpec := { name := "fnExactFoldTable", fn := fun _ => fun
  | [d1, d2] => { results := [.lit (.bool true)], args := [d1, d2] }
  | _ => none }
def fnExactFoldTableRow : OpenClaim := { program := "ytmcdkmohjmcjbao", sum := "679e3e0e1a6fe0d55a504e6039ea9872606495f69f3a54b2d09a39aedf33bbd6", func := "loop.example/g00348/laws.FnExactFoldTable", spec := "fnExactFoldTable", apart := false }
def FnExactFoldTableSaid : Prop := fnExactFoldTableRow.holds Try.pinned (OpenSpec.ofChange fnExactFoldTableSpec)

/-- ITS FALSE NEIGHBOUR: 'it returns false'. Refute it at one input. -/
def fnExactFoldTableWrong : ChangeSpec := { name := "fnExactFoldTable", fn := fun _ => fun
  | [d1, d2] => { results := [.lit (.bool false)], args := [d1, d2] }
  | _ => none }
def FnExactFoldTableWrongFalsely : Prop := fnExactFoldTableRow.holds Try.pinned (OpenSpec.ofChange fnExactFoldTableWrong)

/-- 'laws.FnExactCoefsOf': WHATEVER THE INPUT: true; the input reads as it did. -/
def fnExactCoefsOfSpec : ChangeSpec := { name := "fnExactCoefsOf", fn := fun _ => fun
  | [d] => { results := [.lit (.bool true)], args := [d] }
  | _ => none }
def fnExactCoefsOfRow : OpenClaim := { program := "ytmcdkmohjmcjbao", sum := "679e3e0e1a6fe0d55a504e6039ea9872606495f69f3a54b2d09a39aedf33bbd6", func := "loop.example/g00348/laws.FnExactCoefsOf", spec := "fnExactCoefsOf", apart := false }
def FnExactCoefsOfSaid : Prop := fnExactCoefsOfRow.holds Try.pinned (OpenSpec.ofChange fnExactCoefsOfSpec)

/-- ITS FALSE NEIGHBOUR: 'it returns false'. Refute it at one input. -/
def fnExactCoefsOfWrong : ChangeSpec := { name := "fnExactCoefsOf", fn := fun _ => fun
  | [d] => { results := [.lit (.bool false)], args := [d] }
  | _ => none }
def FnExactCoefsOfWrongFalsely : Prop := fnExactCoefsOfRow.holds Try.pinned (OpenSpec.ofChange fnExactCoefsOfWrong)

/-- 'laws.FnExactTableOf': WHATEVER THE INPUT: true; the input reads as it did. -/
def fnExactTableOfSpec : ChangeSpec := { name := "fnExactTableOf", fn := fun _ => fun
  | [d] => { results := [.lit (.bool true)], args := [d] }
  | _ => none }
def fnExactTableOfRow : OpenClaim := { program := "ytmcdkmohjmcjbao", sum := "679e3e0e1a6fe0d55a504e6039ea9872606495f69f3a54b2d09a39aedf33bbd6", func := "loop.example/g00348/laws.FnExactTableOf", spec := "fnExactTableOf", apart := false }
def FnExactTableOfSaid : Prop := fnExactTableOfRow.holds Try.pinned (OpenSpec.ofChange fnExactTableOfSpec)

/-- ITS FALSE NEIGHBOUR: 'it returns false'. Refute it at one input. -/
def fnExactTableOfWrong : ChangeSpec := { name := "fnExactTableOf", fn := fun _ => fun
  | [d] => { results := [.lit (.bool false)], args := [d] }
  | _ => none }
def FnExactTableOfWrongFalsely : Prop := fnExactTableOfRow.holds Try.pinned (OpenSpec.ofChange fnExactTableOfWrong)

/-- 'laws.FnExactLineAt': WHATEVER THE INPUT: true; the input reads as it did. -/
def fnExactLineAtSpec : ChangeSpec := { name := "fnExactLineAt", fn := fun _ => fun
  | [d1, d2] => { results := [.lit (.bool true)], args := [d1, d2] }
  | _ => none }
def fnExactLineAtRow : OpenClaim := { program := "ytmcdkmohjmcjbao", sum := "679e3e0e1a6fe0d55a504e6039ea9872606495f69f3a54b2d09a39aedf33bbd6", func := "loop.example/g00348/laws.FnExactLineAt", spec := "fnExactLineAt", apart := false }
def FnExactLineAtSaid : Prop := fnExactLineAtRow.holds Try.pinned (OpenSpec.ofChange fnExactLineAtSpec)

/-- ITS FALSE NEIGHBOUR: 'it returns false'. Refute it at one input. -/
def fnExactLineAtWrong : ChangeSpec := { name := "fnExactLineAt", fn := fun _ => fun
  | [d1, d2] => { results := [.lit (.bool false)], args := [d1, d2] }
  | _ => none }
def FnExactLineAtWrongFalsely : Prop := fnExactLineAtRow.holds Try.pinned (OpenSpec.ofChange fnExactLineAtWrong)

/-- 'laws.FnExactNtt': WHATEVER THE INPUT: true; the input reads as it did. -/
def fnExactNttSpec : ChangeSpec := { name := "fnExactNtt", fn := fun _ => fun
  | [d] => { results := [.lit (.bool true)], args := [d] }
  | _ => none }
def fnExactNttRow : OpenClaim := { program := "ytmcdkmohjmcjbao", sum := "679e3e0e1a6fe0d55a504e6039ea9872606495f69f3a54b2d09a39aedf33bbd6", func := "loop.example/g00348/laws.FnExactNtt", spec := "fnExactNtt", recurses := true, apart := false }
def FnExactNttSaid : Prop := fnExactNttRow.holds Try.pinned (OpenSpec.ofChange fnExactNttSpec)

/-- ITS FALSE NEIGHBOUR: 'it returns false'. Refute it at one input. -/
def fnExactNttWrong : ChangeSpec := { name := "fnExactNtt", fn := fun _ => fun
  | [d] => { results := [.lit (.bool false)], args := [d] }
  | _ => none }
def FnExactNttWrongFalsely : Prop := fnExactNttRow.holds Try.pinned (OpenSpec.ofChange fnExactNttWrong)

/- THE SECOND FORM. 'bulk': how many values and letters a reading holds, each counted each time it is reached (what is shared counts as often as it is met; a slice's spare places count too). A statement '..UptoSaid' is the law's where the arguments, and the package variables that the reading takes, are together of bulk at most 1048576: NARROWER than '..Said'. Prove '..Said' where nothing that the law and all that it calls make is longer than what came in: it says more and counts as full. Else prove '..UptoSaid'. A law counts once. -/
mutual
def uptoBulk {H : Type} : DataW H → Nat
  | .lit (.string bytes) => bytes.length + 1
  | .lit _ => 1
  | .nil => 1
  | .ptr d => uptoBulk d + 1
  | .slice elems spare => uptoBulkAll elems + uptoBulkAll spare + 1
  | .agg parts => uptoBulkAll parts + 1
  | .iface _ d => uptoBulk d + 1
  | .map entries => uptoBulkEntries entries + 1
  | .held _ => 1
def uptoBulkAll {H : Type} : List (DataW H) → Nat
  | [] => 0
  | d :: r => uptoBulk d + uptoBulkAll r
def uptoBulkEntries {H : Type} : List (Lit × DataW H) → Nat
  | [] => 0
  | x :: r => uptoBulkEntry x + uptoBulkEntries r
def uptoBulkEntry {H : Type} : Lit × DataW H → Nat
  | (.string bytes, d) => bytes.length + uptoBulk d + 1
  | (_, d) => uptoBulk d + 1
 end
def uptoSmall : (H : Type) → List (DataW H) → Bool := fun _ ds => decide (uptoBulkAll ds ≤ 1048576)
def OpenSpec.upto (s : _root_.Go.ChangeSpec) : _root_.Go.OpenSpec := { _root_.Go.OpenSpec.ofChange s with cond := some uptoSmall }

/-- 'laws.FnExactTableAt', WHERE WHAT IT READS IS OF BULK AT MOST 1048576: true; the input reads as it did. -/
def fnExactTableAtUptoRow : OpenClaim := { program := "ytmcdkmohjmcjbao", sum := "679e3e0e1a6fe0d55a504e6039ea9872606495f69f3a54b2d09a39aedf33bbd6", func := "loop.example/g00348/laws.FnExactTableAt", spec := "fnExactTableAt", apart := false, narrowed := true }
def FnExactTableAtUptoSaid : Prop := fnExactTableAtUptoRow.holds Try.pinned (OpenSpec.upto fnExactTableAtSpec)

/-- 'laws.FnExactFoldTable', WHERE WHAT IT READS IS OF BULK AT MOST 1048576: true; the input reads as it did. -/
def fnExactFoldTableUptoRow : OpenClaim := { program := "ytmcdkmohjmcjbao", sum := "679e3e0e1a6fe0d55a504e6039ea9872606495f69f3a54b2d09a39aedf33bbd6", func := "loop.example/g00348/laws.FnExactFoldTable", spec := "fnExactFoldTable", apart := false, narrowed := true }
def FnExactFoldTableUptoSaid : Prop := fnExactFoldTableUptoRow.holds Try.pinned (OpenSpec.upto fnExactFoldTableSpec)

/-- 'laws.FnExactCoefsOf', WHERE WHAT IT READS IS OF BULK AT MOST 1048576: true; the input reads as it did. -/
def fnExactCoefsOfUptoRow : OpenClaim := { program := "ytmcdkmohjmcjbao", sum := "679e3e0e1a6fe0d55a504e6039ea9872606495f69f3a54b2d09a39aedf33bbd6", func := "loop.example/g00348/laws.FnExactCoefsOf", spec := "fnExactCoefsOf", apart := false, narrowed := true }
def FnExactCoefsOfUptoSaid : Prop := fnExactCoefsOfUptoRow.holds Try.pinned (OpenSpec.upto fnExactCoefsOfSpec)

/-- 'laws.FnExactTableOf', WHERE WHAT IT READS IS OF BULK AT MOST 1048576: true; the input reads as it did. -/
def fnExactTableOfUptoRow : OpenClaim := { program := "ytmcdkmohjmcjbao", sum := "679e3e0e1a6fe0d55a504e6039ea9872606495f69f3a54b2d09a39aedf33bbd6", func := "loop.example/g00348/laws.FnExactTableOf", spec := "fnExactTableOf", apart := false, narrowed := true }
def FnExactTableOfUptoSaid : Prop := fnExactTableOfUptoRow.holds Try.pinned (OpenSpec.upto fnExactTableOfSpec)

/-- 'laws.FnExactLineAt', WHERE WHAT IT READS IS OF BULK AT MOST 1048576: true; the input reads as it did. -/
def fnExactLineAtUptoRow : OpenClaim := { program := "ytmcdkmohjmcjbao", sum := "679e3e0e1a6fe0d55a504e6039ea9872606495f69f3a54b2d09a39aedf33bbd6", func := "loop.example/g00348/laws.FnExactLineAt", spec := "fnExactLineAt", apart := false, narrowed := true }
def FnExactLineAtUptoSaid : Prop := fnExactLineAtUptoRow.holds Try.pinned (OpenSpec.upto fnExactLineAtSpec)

/-- 'laws.FnExactNtt', WHERE WHAT IT READS IS OF BULK AT MOST 1048576: true; the input reads as it did. -/
def fnExactNttUptoRow : OpenClaim := { program := "ytmcdkmohjmcjbao", sum := "679e3e0e1a6fe0d55a504e6039ea9872606495f69f3a54b2d09a39aedf33bbd6", func := "loop.example/g00348/laws.FnExactNtt", spec := "fnExactNtt", recurses := true, apart := false, narrowed := true }
def FnExactNttUptoSaid : Prop := fnExactNttUptoRow.holds Try.pinned (OpenSpec.upto fnExactNttSpec)

end Rows
end Go.Proofs.Ytmcdkmohjmcjbao
