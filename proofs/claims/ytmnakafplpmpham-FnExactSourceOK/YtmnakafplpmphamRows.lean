/-
  No cell of these rows narrows 'for every input' (looked for: loops, veiled, ifaces, maps, wideKeys, modest, calm, conditions, laid).
  DERIVED. THE GIVEN ROWS OF THIS SEAT. 3 by the template 'for every input the law returns true; each argument reads behind the call as it read before'; 0 by the template 'total and deterministic' (their statements: YtmnakafplpmphamTotals.lean).
  GIVEN WITH THE SEED: the statements are not yours to turn. If you find one false, say at which input.
  Laid BY PROGRAM, IN A SANDBOX (cutbox-rows.mjs): the forced cells as the released guide's own fill.sh prints them over the translation 3c92f1505b7dd5c8… (all of the seat's roots in one cut). By AI agents, Wed Nov 11 2026. No macro, syntax, notation, axiom, sorry.
-/
import Derived.Test.YtmnakafplpmphamChecked
import GoSem.Claim
import GoSem.ClaimJoined
import GoSem.ClaimMapViews
import Derived.JoinedTies
import Derived.KernelRfl
namespace Go.Proofs.Ytmnakafplpmpham
/- THE CELL 'sum', in the pinned program and in every row, IS THE sha256 OF THE DUMP (.gsa) THAT YtmnakafplpmphamProg.lean LOADS. Nothing in Lean hashes anything: it is a label: what it is worth is what the hold of that sum in a sandbox is worth. -/
noncomputable def Try.pinned : Pinned := { name := "ytmnakafplpmpham", sum := "3c92f1505b7dd5c87f2377519f4d0f7fe24c6b9be2b26724e43d62967e05cb16", checked := Try.checked }
namespace Rows
def none {H : Type} : Left H := { results := [], args := [] }

/-- 'laws.FnExactSourceOK': WHATEVER THE INPUT: true; the input reads as it did. -/
def fnExactSourceOKSpec : ChangeSpec := { name := "fnExactSourceOK", fn := fun _ => fun
  | [d] => { results := [.lit (.bool true)], args := [d] }
  | _ => none }
def fnExactSourceOKRow : OpenClaim := { program := "ytmnakafplpmpham", sum := "3c92f1505b7dd5c87f2377519f4d0f7fe24c6b9be2b26724e43d62967e05cb16", func := "loop.example/g00348/laws.FnExactSourceOK", spec := "fnExactSourceOK", apart := false }
def FnExactSourceOKSaid : Prop := fnExactSourceOKRow.holds Try.pinned (OpenSpec.ofChange fnExactSourceOKSpec)

/-- ITS FALSE NEIGHBOUR: 'it returns false'. Refute it at one input. -/
def fnExactSourceOKWrong : ChangeSpec := { name := "fnExactSourceOK", fn := fun _ => fun
  | [d] => { results := [.lit (.bool false)], args := [d] }
  | _ => none }
def FnExactSourceOKWrongFalsely : Prop := fnExactSourceOKRow.holds Try.pinned (OpenSpec.ofChange fnExactSourceOKWrong)

/-- 'laws.FnExactTakeOne': WHATEVER THE INPUT: true; the input reads as it did. -/
def fnExactTakeOneSpec : ChangeSpec := { name := "fnExactTakeOne", fn := fun _ => fun
  | [d] => { results := [.lit (.bool true)], args := [d] }
  | _ => none }
def fnExactTakeOneRow : OpenClaim := { program := "ytmnakafplpmpham", sum := "3c92f1505b7dd5c87f2377519f4d0f7fe24c6b9be2b26724e43d62967e05cb16", func := "loop.example/g00348/laws.FnExactTakeOne", spec := "fnExactTakeOne", unfollowed := true, recurses := true, apart := false }
def FnExactTakeOneSaid : Prop := fnExactTakeOneRow.holds Try.pinned (OpenSpec.ofChange fnExactTakeOneSpec)

/-- ITS FALSE NEIGHBOUR: 'it returns false'. Refute it at one input. -/
def fnExactTakeOneWrong : ChangeSpec := { name := "fnExactTakeOne", fn := fun _ => fun
  | [d] => { results := [.lit (.bool false)], args := [d] }
  | _ => none }
def FnExactTakeOneWrongFalsely : Prop := fnExactTakeOneRow.holds Try.pinned (OpenSpec.ofChange fnExactTakeOneWrong)

/-- 'laws.FnExactTakeSome': WHATEVER THE INPUT: true; the input reads as it did. -/
def fnExactTakeSomeSpec : ChangeSpec := { name := "fnExactTakeSome", fn := fun _ => fun
  | [d1, d2] => { results := [.lit (.bool true)], args := [d1, d2] }
  | _ => none }
def fnExactTakeSomeRow : OpenClaim := { program := "ytmnakafplpmpham", sum := "3c92f1505b7dd5c87f2377519f4d0f7fe24c6b9be2b26724e43d62967e05cb16", func := "loop.example/g00348/laws.FnExactTakeSome", spec := "fnExactTakeSome", unfollowed := true, recurses := true, apart := false }
def FnExactTakeSomeSaid : Prop := fnExactTakeSomeRow.holds Try.pinned (OpenSpec.ofChange fnExactTakeSomeSpec)

/-- ITS FALSE NEIGHBOUR: 'it returns false'. Refute it at one input. -/
def fnExactTakeSomeWrong : ChangeSpec := { name := "fnExactTakeSome", fn := fun _ => fun
  | [d1, d2] => { results := [.lit (.bool false)], args := [d1, d2] }
  | _ => none }
def FnExactTakeSomeWrongFalsely : Prop := fnExactTakeSomeRow.holds Try.pinned (OpenSpec.ofChange fnExactTakeSomeWrong)

/- THE SECOND FORM. 'bulk': how many values and letters a reading holds, each counted each time it is reached (what is shared counts as often as it is met; a slice's spare places count too). A statement '..UptoSaid' is the law's where the arguments, and the package variables that the reading takes, are together of bulk at most 1048576: NARROWER than '..Said'. Prove '..Said' where nothing that the law and all that it calls make is longer than what came in: it says more and counts as full. Else prove '..UptoSaid'. A law counts once. -/
mutual
def uptoBulk {H : Type} : DataW H → Nat
  | .lit (.string bytes) => bytes.length + 1
  | .lit _ => 1
  | .nil => 1
  | .ptr d => uptoBulk d + 1
  | .slice elems spare => uptoBulkAll elems + uptoBulkAll spare + 1
  | .agg parts => uptoBulkAll parts + 1
  | .iface _ d => uptoBulk d + 1
  | .map entries => uptoBulkEntries entries + 1
  | .held _ => 1
def uptoBulkAll {H : Type} : List (DataW H) → Nat
  | [] => 0
  | d :: r => uptoBulk d + uptoBulkAll r
def uptoBulkEntries {H : Type} : List (Lit × DataW H) → Nat
  | [] => 0
  | x :: r => uptoBulkEntry x + uptoBulkEntries r
def uptoBulkEntry {H : Type} : Lit × DataW H → Nat
  | (.string bytes, d) => bytes.length + uptoBulk d + 1
  | (_, d) => uptoBulk d + 1
 end
def uptoSmall : (H : Type) → List (DataW H) → Bool := fun _ ds => decide (uptoBulkAll ds ≤ 1048576)
def OpenSpec.upto (s : _root_.Go.ChangeSpec) : _root_.Go.OpenSpec := { _root_.Go.OpenSpec.ofChange s with cond := some uptoSmall }

/-- 'laws.FnExactSourceOK', WHERE WHAT IT READS IS OF BULK AT MOST 1048576: true; the input reads as it did. -/
def fnExactSourceOKUptoRow : OpenClaim := { program := "ytmnakafplpmpham", sum := "3c92f1505b7dd5c87f2377519f4d0f7fe24c6b9be2b26724e43d62967e05cb16", func := "loop.example/g00348/laws.FnExactSourceOK", spec := "fnExactSourceOK", apart := false, narrowed := true }
def FnExactSourceOKUptoSaid : Prop := fnExactSourceOKUptoRow.holds Try.pinned (OpenSpec.upto fnExactSourceOKSpec)

/-- 'laws.FnExactTakeOne', WHERE WHAT IT READS IS OF BULK AT MOST 1048576: true; the input reads as it did. -/
def fnExactTakeOneUptoRow : OpenClaim := { program := "ytmnakafplpmpham", sum := "3c92f1505b7dd5c87f2377519f4d0f7fe24c6b9be2b26724e43d62967e05cb16", func := "loop.example/g00348/laws.FnExactTakeOne", spec := "fnExactTakeOne", unfollowed := true, recurses := true, apart := false, narrowed := true }
def FnExactTakeOneUptoSaid : Prop := fnExactTakeOneUptoRow.holds Try.pinned (OpenSpec.upto fnExactTakeOneSpec)

/-- 'laws.FnExactTakeSome', WHERE WHAT IT READS IS OF BULK AT MOST 1048576: true; the input reads as it did. -/
def fnExactTakeSomeUptoRow : OpenClaim := { program := "ytmnakafplpmpham", sum := "3c92f1505b7dd5c87f2377519f4d0f7fe24c6b9be2b26724e43d62967e05cb16", func := "loop.example/g00348/laws.FnExactTakeSome", spec := "fnExactTakeSome", unfollowed := true, recurses := true, apart := false, narrowed := true }
def FnExactTakeSomeUptoSaid : Prop := fnExactTakeSomeUptoRow.holds Try.pinned (OpenSpec.upto fnExactTakeSomeSpec)

end Rows
end Go.Proofs.Ytmnakafplpmpham
