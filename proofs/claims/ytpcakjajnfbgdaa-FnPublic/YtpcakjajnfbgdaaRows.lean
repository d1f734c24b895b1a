/-
  No cell of these rows narrows 'for every input' (looked for: loops, veiled, ifaces, maps, wideKeys, modest, calm, conditions, laid).
  DERIVED. THE GIVEN ROWS OF THIS SEAT. 3 by the template 'for every input the law returns true; each argument reads behind the call as it read before'; 0 by the template 'total and deterministic' (their statements: YtpcakjajnfbgdaaTotals.lean).
  GIVEN WITH THE SEED: the statements are not yours to turn. If you find one false, say at which input.
  Laid BY PROGRAM, IN A SANDBOX (cutbox-rows.mjs): the forced cells as the released guide's own fill.sh prints them over the translation 5f6ced11d28cbf1e… (all of the seat's roots in one cut). By AI agents, Wed Nov 11 2026. No macro, syntax, notation, axiom, sorry.
-/
import Derived.Test.YtpcakjajnfbgdaaChecked
import GoSem.Claim
import GoSem.ClaimJoined
import GoSem.ClaimMapViews
import Derived.JoinedTies
import Derived.KernelRfl
namespace Go.Proofs.Ytpcakjajnfbgdaa
/- THE CELL 'sum', in the pinned program and in every row, IS THE sha256 OF THE DUMP (.gsa) THAT YtpcakjajnfbgdaaProg.lean LOADS. Nothing in Lean hashes anything: it is a label: what it is worth is what the hold of that sum in a sandbox is worth. -/
noncomputable def Try.pinned : Pinned := { name := "ytpcakjajnfbgdaa", sum := "5f6ced11d28cbf1e8e35d612cc53c93f87686bcf969a2d367ab4c0e61fc3295e", checked := Try.checked }
namespace Rows
def none {H : Type} : Left H := { results := [], args := [] }

/-- 'laws.FnPublic': WHATEVER THE INPUT: true; the input reads as it did. -/
def fnPublicSpec : ChangeSpec := { name := "fnPublic", fn := fun _ => fun
  | [d1, d2] => { results := [.lit (.bool true)], args := [d1, d2] }
  | _ => none }
def fnPublicRow : OpenClaim := { program := "ytpcakjajnfbgdaa", sum := "5f6ced11d28cbf1e8e35d612cc53c93f87686bcf969a2d367ab4c0e61fc3295e", func := "loop.example/g00348/laws.FnPublic", spec := "fnPublic", unfollowed := true, recurses := true, plainKeys := false, apart := false }
def FnPublicSaid : Prop := fnPublicRow.holds Try.pinned (OpenSpec.ofChange fnPublicSpec)

/-- ITS FALSE NEIGHBOUR: 'it returns false'. Refute it at one input. -/
def fnPublicWrong : ChangeSpec := { name := "fnPublic", fn := fun _ => fun
  | [d1, d2] => { results := [.lit (.bool false)], args := [d1, d2] }
  | _ => none }
def FnPublicWrongFalsely : Prop := fnPublicRow.holds Try.pinned (OpenSpec.ofChange fnPublicWrong)

/-- 'laws.FnExactOpeningOK': WHATEVER THE INPUT: true; the input reads as it did. -/
def fnExactOpeningOKSpec : ChangeSpec := { name := "fnExactOpeningOK", fn := fun _ => fun
  | [d1, d2, d3] => { results := [.lit (.bool true)], args := [d1, d2, d3] }
  | _ => none }
def fnExactOpeningOKRow : OpenClaim := { program := "ytpcakjajnfbgdaa", sum := "5f6ced11d28cbf1e8e35d612cc53c93f87686bcf969a2d367ab4c0e61fc3295e", func := "loop.example/g00348/laws.FnExactOpeningOK", spec := "fnExactOpeningOK", plainKeys := false, apart := false }
def FnExactOpeningOKSaid : Prop := fnExactOpeningOKRow.holds Try.pinned (OpenSpec.ofChange fnExactOpeningOKSpec)

/-- ITS FALSE NEIGHBOUR: 'it returns false'. Refute it at one input. -/
def fnExactOpeningOKWrong : ChangeSpec := { name := "fnExactOpeningOK", fn := fun _ => fun
  | [d1, d2, d3] => { results := [.lit (.bool false)], args := [d1, d2, d3] }
  | _ => none }
def FnExactOpeningOKWrongFalsely : Prop := fnExactOpeningOKRow.holds Try.pinned (OpenSpec.ofChange fnExactOpeningOKWrong)

/-- 'laws.FnExactPublicAt': WHATEVER THE INPUT: true; the input reads as it did. -/
def fnExactPublicAtSpec : ChangeSpec := { name := "fnExactPublicAt", fn := fun _ => fun
  | [d1, d2, d3] => { results := [.lit (.bool true)], args := [d1, d2, d3] }
  | _ => none }
def fnExactPublicAtRow : OpenClaim := { program := "ytpcakjajnfbgdaa", sum := "5f6ced11d28cbf1e8e35d612cc53c93f87686bcf969a2d367ab4c0e61fc3295e", func := "loop.example/g00348/laws.FnExactPublicAt", spec := "fnExactPublicAt", unfollowed := true, recurses := true, plainKeys := false, apart := false }
def FnExactPublicAtSaid : Prop := fnExactPublicAtRow.holds Try.pinned (OpenSpec.ofChange fnExactPublicAtSpec)

/-- ITS FALSE NEIGHBOUR: 'it returns false'. Refute it at one input. -/
def fnExactPublicAtWrong : ChangeSpec := { name := "fnExactPublicAt", fn := fun _ => fun
  | [d1, d2, d3] => { results := [.lit (.bool false)], args := [d1, d2, d3] }
  | _ => none }
def FnExactPublicAtWrongFalsely : Prop := fnExactPublicAtRow.holds Try.pinned (OpenSpec.ofChange fnExactPublicAtWrong)

/- THE SECOND FORM. 'bulk': how many values and letters a reading holds, each counted each time it is reached (what is shared counts as often as it is met; a slice's spare places count too). A statement '..UptoSaid' is the law's where the arguments, and the package variables that the reading takes, are together of bulk at most 1048576: NARROWER than '..Said'. Prove '..Said' where nothing that the law and all that it calls make is longer than what came in: it says more and counts as full. Else prove '..UptoSaid'. A law counts once. -/
mutual
def uptoBulk {H : Type} : DataW H → Nat
  | .lit (.string bytes) => bytes.length + 1
  | .lit _ => 1
  | .nil => 1
  | .ptr d => uptoBulk d + 1
  | .slice elems spare => uptoBulkAll elems + uptoBulkAll spare + 1
  | .agg parts => uptoBulkAll parts + 1
  | .iface _ d => uptoBulk d + 1
  | .map entries => uptoBulkEntries entries + 1
  | .held _ => 1
def uptoBulkAll {H : Type} : List (DataW H) → Nat
  | [] => 0
  | d :: r => uptoBulk d + uptoBulkAll r
def uptoBulkEntries {H : Type} : List (Lit × DataW H) → Nat
  | [] => 0
  | x :: r => uptoBulkEntry x + uptoBulkEntries r
def uptoBulkEntry {H : Type} : Lit × DataW H → Nat
  | (.string bytes, d) => bytes.length + uptoBulk d + 1
  | (_, d) => uptoBulk d + 1
 end
def uptoSmall : (H : Type) → List (DataW H) → Bool := fun _ ds => decide (uptoBulkAll ds ≤ 1048576)
def OpenSpec.upto (s : _root_.Go.ChangeSpec) : _root_.Go.OpenSpec := { _root_.Go.OpenSpec.ofChange s with cond := some uptoSmall }

/-- 'laws.FnPublic', WHERE WHAT IT READS IS OF BULK AT MOST 1048576: true; the input reads as it did. -/
def fnPublicUptoRow : OpenClaim := { program := "ytpcakjajnfbgdaa", sum := "5f6ced11d28cbf1e8e35d612cc53c93f87686bcf969a2d367ab4c0e61fc3295e", func := "loop.example/g00348/laws.FnPublic", spec := "fnPublic", unfollowed := true, recurses := true, plainKeys := false, apart := false, narrowed := true }
def FnPublicUptoSaid : Prop := fnPublicUptoRow.holds Try.pinned (OpenSpec.upto fnPublicSpec)

/-- 'laws.FnExactOpeningOK', WHERE WHAT IT READS IS OF BULK AT MOST 1048576: true; the input reads as it did. -/
def fnExactOpeningOKUptoRow : OpenClaim := { program := "ytpcakjajnfbgdaa", sum := "5f6ced11d28cbf1e8e35d612cc53c93f87686bcf969a2d367ab4c0e61fc3295e", func := "loop.example/g00348/laws.FnExactOpeningOK", spec := "fnExactOpeningOK", plainKeys := false, apart := false, narrowed := true }
def FnExactOpeningOKUptoSaid : Prop := fnExactOpeningOKUptoRow.holds Try.pinned (OpenSpec.upto fnExactOpeningOKSpec)

/-- 'laws.FnExactPublicAt', WHERE WHAT IT READS IS OF BULK AT MOST 1048576: true; the input reads as it did. -/
def fnExactPublicAtUptoRow : OpenClaim := { program := "ytpcakjajnfbgdaa", sum := "5f6ced11d28cbf1e8e35d612cc53c93f87686bcf969a2d367ab4c0e61fc3295e", func := "loop.example/g00348/laws.FnExactPublicAt", spec := "fnExactPublicAt", unfollowed := true, recurses := true, plainKeys := false, apart := false, narrowed := true }
def FnExactPublicAtUptoSaid : Prop := fnExactPublicAtUptoRow.holds Try.pinned (OpenSpec.upto fnExactPublicAtSpec)

end Rows
end Go.Proofs.Ytpcakjajnfbgdaa
