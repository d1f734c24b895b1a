/-
  No cell of these rows narrows 'for every input' (looked for: loops, veiled, ifaces, maps, wideKeys, modest, calm, conditions, laid).
  DERIVED. THE GIVEN ROWS OF THIS SEAT. 6 by the template 'for every input the law returns true; each argument reads behind the call as it read before'; 0 by the template 'total and deterministic' (their statements: YtencdbocifpekaaTotals.lean).
  GIVEN WITH THE SEED: the statements are not yours to turn. If you find one false, say at which input.
  Laid BY PROGRAM, IN A SANDBOX (cutbox-rows.mjs): the forced cells as the released guide's own fill.sh prints them over the translation 119e24ca9873d7da… (all of the seat's roots in one cut). By AI agents, Wed Nov 11 2026. No macro, syntax, notation, axiom, sorry.
-/
import Derived.Test.YtencdbocifpekaaChecked
import GoSem.Claim
import GoSem.ClaimJoined
import GoSem.ClaimMapViews
import Derived.JoinedTies
import Derived.KernelRfl
namespace Go.Proofs.Ytencdbocifpekaa
/- THE CELL 'sum', in the pinned program and in every row, IS THE sha256 OF THE DUMP (.gsa) THAT YtencdbocifpekaaProg.lean LOADS. Nothing in Lean hashes anything: it is a label: what it is worth is what the hold of that sum in a sandbox is worth. -/
noncomputable def Try.pinned : Pinned := { name := "ytencdbocifpekaa", sum := "119e24ca9873d7da6c6664625a18c25b864465d1942ae9ca5e50925299bee1d6", checked := Try.checked }
namespace Rows
def none {H : Type} : Left H := { results := [], args := [] }

/-- 'laws.FnField': WHATEVER THE INPUT: true; the input reads as it did. -/
def fnFieldSpec : ChangeSpec := { name := "fnField", fn := fun _ => fun
  | [d1, d2] => { results := [.lit (.bool true)], args := [d1, d2] }
  | _ => none }
def fnFieldRow : OpenClaim := { program := "ytencdbocifpekaa", sum := "119e24ca9873d7da6c6664625a18c25b864465d1942ae9ca5e50925299bee1d6", func := "loop.example/g00348/laws.FnField", spec := "fnField", apart := false }
def FnFieldSaid : Prop := fnFieldRow.holds Try.pinned (OpenSpec.ofChange fnFieldSpec)

/-- ITS FALSE NEIGHBOUR: 'it returns false'. Refute it at one input. -/
def fnFieldWrong : ChangeSpec := { name := "fnField", fn := fun _ => fun
  | [d1, d2] => { results := [.lit (.bool false)], args := [d1, d2] }
  | _ => none }
def FnFieldWrongFalsely : Prop := fnFieldRow.holds Try.pinned (OpenSpec.ofChange fnFieldWrong)

/-- 'laws.FnPowers': WHATEVER THE INPUT: true; the input reads as it did. -/
def fnPowersSpec : ChangeSpec := { name := "fnPowers", fn := fun _ => fun
  | [d1, d2] => { results := [.lit (.bool true)], args := [d1, d2] }
  | _ => none }
def fnPowersRow : OpenClaim := { program := "ytencdbocifpekaa", sum := "119e24ca9873d7da6c6664625a18c25b864465d1942ae9ca5e50925299bee1d6", func := "loop.example/g00348/laws.FnPowers", spec := "fnPowers", apart := false }
def FnPowersSaid : Prop := fnPowersRow.holds Try.pinned (OpenSpec.ofChange fnPowersSpec)

/-- ITS FALSE NEIGHBOUR: 'it returns false'. Refute it at one input. -/
def fnPowersWrong : ChangeSpec := { name := "fnPowers", fn := fun _ => fun
  | [d1, d2] => { results := [.lit (.bool false)], args := [d1, d2] }
  | _ => none }
def FnPowersWrongFalsely : Prop := fnPowersRow.holds Try.pinned (OpenSpec.ofChange fnPowersWrong)

/-- 'laws.FnRoots': WHATEVER THE INPUT: true; the input reads as it did. -/
def fnRootsSpec : ChangeSpec := { name := "fnRoots", fn := fun _ => fun
  | [d] => { results := [.lit (.bool true)], args := [d] }
  | _ => none }
def fnRootsRow : OpenClaim := { program := "ytencdbocifpekaa", sum := "119e24ca9873d7da6c6664625a18c25b864465d1942ae9ca5e50925299bee1d6", func := "loop.example/g00348/laws.FnRoots", spec := "fnRoots", apart := false }
def FnRootsSaid : Prop := fnRootsRow.holds Try.pinned (OpenSpec.ofChange fnRootsSpec)

/-- ITS FALSE NEIGHBOUR: 'it returns false'. Refute it at one input. -/
def fnRootsWrong : ChangeSpec := { name := "fnRoots", fn := fun _ => fun
  | [d] => { results := [.lit (.bool false)], args := [d] }
  | _ => none }
def FnRootsWrongFalsely : Prop := fnRootsRow.holds Try.pinned (OpenSpec.ofChange fnRootsWrong)

/-- 'laws.FnExt': WHATEVER THE INPUT: true; the input reads as it did. -/
def fnExtSpec : ChangeSpec := { name := "fnExt", fn := fun _ => fun
  | [d1, d2] => { results := [.lit (.bool true)], args := [d1, d2] }
  | _ => none }
def fnExtRow : OpenClaim := { program := "ytencdbocifpekaa", sum := "119e24ca9873d7da6c6664625a18c25b864465d1942ae9ca5e50925299bee1d6", func := "loop.example/g00348/laws.FnExt", spec := "fnExt", apart := false }
def FnExtSaid : Prop := fnExtRow.holds Try.pinned (OpenSpec.ofChange fnExtSpec)

/-- ITS FALSE NEIGHBOUR: 'it returns false'. Refute it at one input. -/
def fnExtWrong : ChangeSpec := { name := "fnExt", fn := fun _ => fun
  | [d1, d2] => { results := [.lit (.bool false)], args := [d1, d2] }
  | _ => none }
def FnExtWrongFalsely : Prop := fnExtRow.holds Try.pinned (OpenSpec.ofChange fnExtWrong)

/-- 'laws.FnExtInverse': WHATEVER THE INPUT: true; the input reads as it did. -/
def fnExtInverseSpec : ChangeSpec := { name := "fnExtInverse", fn := fun _ => fun
  | [d1, d2] => { results := [.lit (.bool true)], args := [d1, d2] }
  | _ => none }
def fnExtInverseRow : OpenClaim := { program := "ytencdbocifpekaa", sum := "119e24ca9873d7da6c6664625a18c25b864465d1942ae9ca5e50925299bee1d6", func := "loop.example/g00348/laws.FnExtInverse", spec := "fnExtInverse", apart := false }
def FnExtInverseSaid : Prop := fnExtInverseRow.holds Try.pinned (OpenSpec.ofChange fnExtInverseSpec)

/-- ITS FALSE NEIGHBOUR: 'it returns false'. Refute it at one input. -/
def fnExtInverseWrong : ChangeSpec := { name := "fnExtInverse", fn := fun _ => fun
  | [d1, d2] => { results := [.lit (.bool false)], args := [d1, d2] }
  | _ => none }
def FnExtInverseWrongFalsely : Prop := fnExtInverseRow.holds Try.pinned (OpenSpec.ofChange fnExtInverseWrong)

/-- 'laws.FnExtBytes': WHATEVER THE INPUT: true; the input reads as it did. -/
def fnExtBytesSpec : ChangeSpec := { name := "fnExtBytes", fn := fun _ => fun
  | [d1, d2] => { results := [.lit (.bool true)], args := [d1, d2] }
  | _ => none }
def fnExtBytesRow : OpenClaim := { program := "ytencdbocifpekaa", sum := "119e24ca9873d7da6c6664625a18c25b864465d1942ae9ca5e50925299bee1d6", func := "loop.example/g00348/laws.FnExtBytes", spec := "fnExtBytes", apart := false }
def FnExtBytesSaid : Prop := fnExtBytesRow.holds Try.pinned (OpenSpec.ofChange fnExtBytesSpec)

/-- ITS FALSE NEIGHBOUR: 'it returns false'. Refute it at one input. -/
def fnExtBytesWrong : ChangeSpec := { name := "fnExtBytes", fn := fun _ => fun
  | [d1, d2] => { results := [.lit (.bool false)], args := [d1, d2] }
  | _ => none }
def FnExtBytesWrongFalsely : Prop := fnExtBytesRow.holds Try.pinned (OpenSpec.ofChange fnExtBytesWrong)

/- THE SECOND FORM. 'bulk': how many values and letters a reading holds, each counted each time it is reached (what is shared counts as often as it is met; a slice's spare places count too). A statement '..UptoSaid' is the law's where the arguments, and the package variables that the reading takes, are together of bulk at most 1048576: NARROWER than '..Said'. Prove '..Said' where nothing that the law and all that it calls make is longer than what came in: it says more and counts as full. Else prove '..UptoSaid'. A law counts once. -/
mutual
def uptoBulk {H : Type} : DataW H → Nat
  | .lit (.string bytes) => bytes.length + 1
  | .lit _ => 1
  | .nil => 1
  | .ptr d => uptoBulk d + 1
  | .slice elems spare => uptoBulkAll elems + uptoBulkAll spare + 1
  | .agg parts => uptoBulkAll parts + 1
  | .iface _ d => uptoBulk d + 1
  | .map entries => uptoBulkEntries entries + 1
  | .held _ => 1
def uptoBulkAll {H : Type} : List (DataW H) → Nat
  | [] => 0
  | d :: r => uptoBulk d + uptoBulkAll r
def uptoBulkEntries {H : Type} : List (Lit × DataW H) → Nat
  | [] => 0
  | x :: r => uptoBulkEntry x + uptoBulkEntries r
def uptoBulkEntry {H : Type} : Lit × DataW H → Nat
  | (.string bytes, d) => bytes.length + uptoBulk d + 1
  | (_, d) => uptoBulk d + 1
 end
def uptoSmall : (H : Type) → List (DataW H) → Bool := fun _ ds => decide (uptoBulkAll ds ≤ 1048576)
def OpenSpec.upto (s : _root_.Go.ChangeSpec) : _root_.Go.OpenSpec := { _root_.Go.OpenSpec.ofChange s with cond := some uptoSmall }

/-- 'laws.FnField', WHERE WHAT IT READS IS OF BULK AT MOST 1048576: true; the input reads as it did. -/
def fnFieldUptoRow : OpenClaim := { program := "ytencdbocifpekaa", sum := "119e24ca9873d7da6c6664625a18c25b864465d1942ae9ca5e50925299bee1d6", func := "loop.example/g00348/laws.FnField", spec := "fnField", apart := false, narrowed := true }
def FnFieldUptoSaid : Prop := fnFieldUptoRow.holds Try.pinned (OpenSpec.upto fnFieldSpec)

/-- 'laws.FnPowers', WHERE WHAT IT READS IS OF BULK AT MOST 1048576: true; the input reads as it did. -/
def fnPowersUptoRow : OpenClaim := { program := "ytencdbocifpekaa", sum := "119e24ca9873d7da6c6664625a18c25b864465d1942ae9ca5e50925299bee1d6", func := "loop.example/g00348/laws.FnPowers", spec := "fnPowers", apart := false, narrowed := true }
def FnPowersUptoSaid : Prop := fnPowersUptoRow.holds Try.pinned (OpenSpec.upto fnPowersSpec)

/-- 'laws.FnRoots', WHERE WHAT IT READS IS OF BULK AT MOST 1048576: true; the input reads as it did. -/
def fnRootsUptoRow : OpenClaim := { program := "ytencdbocifpekaa", sum := "119e24ca9873d7da6c6664625a18c25b864465d1942ae9ca5e50925299bee1d6", func := "loop.example/g00348/laws.FnRoots", spec := "fnRoots", apart := false, narrowed := true }
def FnRootsUptoSaid : Prop := fnRootsUptoRow.holds Try.pinned (OpenSpec.upto fnRootsSpec)

/-- 'laws.FnExt', WHERE WHAT IT READS IS OF BULK AT MOST 1048576: true; the input reads as it did. -/
def fnExtUptoRow : OpenClaim := { program := "ytencdbocifpekaa", sum := "119e24ca9873d7da6c6664625a18c25b864465d1942ae9ca5e50925299bee1d6", func := "loop.example/g00348/laws.FnExt", spec := "fnExt", apart := false, narrowed := true }
def FnExtUptoSaid : Prop := fnExtUptoRow.holds Try.pinned (OpenSpec.upto fnExtSpec)

/-- 'laws.FnExtInverse', WHERE WHAT IT READS IS OF BULK AT MOST 1048576: true; the input reads as it did. -/
def fnExtInverseUptoRow : OpenClaim := { program := "ytencdbocifpekaa", sum := "119e24ca9873d7da6c6664625a18c25b864465d1942ae9ca5e50925299bee1d6", func := "loop.example/g00348/laws.FnExtInverse", spec := "fnExtInverse", apart := false, narrowed := true }
def FnExtInverseUptoSaid : Prop := fnExtInverseUptoRow.holds Try.pinned (OpenSpec.upto fnExtInverseSpec)

/-- 'laws.FnExtBytes', WHERE WHAT IT READS IS OF BULK AT MOST 1048576: true; the input reads as it did. -/
def fnExtBytesUptoRow : OpenClaim := { program := "ytencdbocifpekaa", sum := "119e24ca9873d7da6c6664625a18c25b864465d1942ae9ca5e50925299bee1d6", func := "loop.example/g00348/laws.FnExtBytes", spec := "fnExtBytes", apart := false, narrowed := true }
def FnExtBytesUptoSaid : Prop := fnExtBytesUptoRow.holds Try.pinned (OpenSpec.upto fnExtBytesSpec)

end Rows
end Go.Proofs.Ytencdbocifpekaa
