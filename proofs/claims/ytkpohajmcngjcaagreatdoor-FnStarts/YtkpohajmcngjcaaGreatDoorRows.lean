/-
  NARROWER THAN 'FOR EVERY INPUT', by the rows' own cells (each row's printed sentence says how): FnExactStart: laid · FnStarts: laid.
  DERIVED. THE GIVEN ROWS OF THIS SEAT. 2 by the template 'for every input the law returns true; each argument reads behind the call as it read before'; 0 by the template 'total and deterministic' (their statements: YtkpohajmcngjcaaGreatDoorTotals.lean).
  GIVEN WITH THE SEED: the statements are not yours to turn. If you find one false, say at which input.
  Laid BY PROGRAM, IN A SANDBOX (cutbox-rows.mjs): the forced cells as the released guide's own fill.sh prints them over the translation 89a0fa953cf932d3… (all of the seat's roots in one cut). By AI agents, Wed Nov 11 2026. No macro, syntax, notation, axiom, sorry.
-/
import Derived.Test.YtkpohajmcngjcaaGreatDoorChecked
import GoSem.Claim
import GoSem.ClaimJoined
import GoSem.ClaimMapViews
import Derived.JoinedTies
import Derived.KernelRfl
namespace Go.Proofs.YtkpohajmcngjcaaGreatDoor
/- THE CELL 'sum', in the pinned program and in every row, IS THE sha256 OF THE DUMP (.gsa) THAT YtkpohajmcngjcaaGreatDoorProg.lean LOADS. Nothing in Lean hashes anything: it is a label: what it is worth is what the hold of that sum in a sandbox is worth. -/
noncomputable def Tryz.pinned : Pinned := { name := "ytkpohajmcngjcaagreatdoor", sum := "89a0fa953cf932d38ea0d88ee98e730d49be0eed8f875a6c5df906d69b2780b7", checked := Tryz.checked }
namespace Rows
def none {H : Type} : Left H := { results := [], args := [] }

/- WHAT THE LISTED PACKAGE-LEVEL VARIABLES READ AS WHEN THE CALL BEGINS. Each datum BY PROGRAM (the guide's laid-datum.mjs) off the statement by which the dump's own 'gosem.cut.vars' lays the variable. In a bare row this is a premise. The card (YtkpohajmcngjcaaGreatDoorCards.lean) ties it to the program's text. -/
def laid_loop_example_g00348_impl_laneShifts {H : Type} : DataW H := .agg [.lit (.int .u64 0), .lit (.int .u64 1), .lit (.int .u64 62), .lit (.int .u64 28), .lit (.int .u64 27), .lit (.int .u64 36), .lit (.int .u64 44), .lit (.int .u64 6), .lit (.int .u64 55), .lit (.int .u64 20), .lit (.int .u64 3), .lit (.int .u64 10), .lit (.int .u64 43), .lit (.int .u64 25), .lit (.int .u64 39), .lit (.int .u64 41), .lit (.int .u64 45), .lit (.int .u64 15), .lit (.int .u64 21), .lit (.int .u64 8), .lit (.int .u64 18), .lit (.int .u64 2), .lit (.int .u64 61), .lit (.int .u64 56), .lit (.int .u64 14)]
def laid_loop_example_g00348_impl_roundConstants {H : Type} : DataW H := .agg [.lit (.int .u64 1), .lit (.int .u64 32898), .lit (.int .u64 9223372036854808714), .lit (.int .u64 9223372039002292224), .lit (.int .u64 32907), .lit (.int .u64 2147483649), .lit (.int .u64 9223372039002292353), .lit (.int .u64 9223372036854808585), .lit (.int .u64 138), .lit (.int .u64 136), .lit (.int .u64 2147516425), .lit (.int .u64 2147483658), .lit (.int .u64 2147516555), .lit (.int .u64 9223372036854775947), .lit (.int .u64 9223372036854808713), .lit (.int .u64 9223372036854808579), .lit (.int .u64 9223372036854808578), .lit (.int .u64 9223372036854775936), .lit (.int .u64 32778), .lit (.int .u64 9223372039002259466), .lit (.int .u64 9223372039002292353), .lit (.int .u64 9223372036854808704), .lit (.int .u64 2147483649), .lit (.int .u64 9223372039002292232)]

/-- 'laws.FnExactStart': WHATEVER THE INPUT: true; the input reads as it did. -/
def fnExactStartSpec : ChangeSpec := { name := "fnExactStart", vars := ["loop.example/g00348/impl.roundConstants", "loop.example/g00348/impl.laneShifts"], fn := fun _ => fun
  | [d1, d2, d3, d4, g1, g2] => { results := [.lit (.bool true)], args := [d1, d2, d3, d4], vars := [g1, g2] }
  | _ => none }
def fnExactStartRow : OpenClaim := { program := "ytkpohajmcngjcaagreatdoor", sum := "89a0fa953cf932d38ea0d88ee98e730d49be0eed8f875a6c5df906d69b2780b7", func := "loop.example/g00348/laws.FnExactStart", spec := "fnExactStart", unfollowed := true, recurses := true, named := ["loop.example/g00348/impl.roundConstants", "loop.example/g00348/impl.laneShifts"], plainKeys := false, apart := false, laid := [("loop.example/g00348/impl.laneShifts", laid_loop_example_g00348_impl_laneShifts), ("loop.example/g00348/impl.roundConstants", laid_loop_example_g00348_impl_roundConstants)] }
def FnExactStartSaid : Prop := fnExactStartRow.holds Tryz.pinned (OpenSpec.ofChange fnExactStartSpec)

/-- ITS FALSE NEIGHBOUR: 'it returns false'. Refute it at one input. -/
def fnExactStartWrong : ChangeSpec := { name := "fnExactStart", vars := ["loop.example/g00348/impl.roundConstants", "loop.example/g00348/impl.laneShifts"], fn := fun _ => fun
  | [d1, d2, d3, d4, g1, g2] => { results := [.lit (.bool false)], args := [d1, d2, d3, d4], vars := [g1, g2] }
  | _ => none }
def FnExactStartWrongFalsely : Prop := fnExactStartRow.holds Tryz.pinned (OpenSpec.ofChange fnExactStartWrong)

/-- 'laws.FnStarts': WHATEVER THE INPUT: true; the input reads as it did. -/
def fnStartsSpec : ChangeSpec := { name := "fnStarts", vars := ["loop.example/g00348/impl.roundConstants", "loop.example/g00348/impl.laneShifts"], fn := fun _ => fun
  | [d1, d2, g1, g2] => { results := [.lit (.bool true)], args := [d1, d2], vars := [g1, g2] }
  | _ => none }
def fnStartsRow : OpenClaim := { program := "ytkpohajmcngjcaagreatdoor", sum := "89a0fa953cf932d38ea0d88ee98e730d49be0eed8f875a6c5df906d69b2780b7", func := "loop.example/g00348/laws.FnStarts", spec := "fnStarts", unfollowed := true, recurses := true, named := ["loop.example/g00348/impl.roundConstants", "loop.example/g00348/impl.laneShifts"], plainKeys := false, apart := false, laid := [("loop.example/g00348/impl.laneShifts", laid_loop_example_g00348_impl_laneShifts), ("loop.example/g00348/impl.roundConstants", laid_loop_example_g00348_impl_roundConstants)] }
def FnStartsSaid : Prop := fnStartsRow.holds Tryz.pinned (OpenSpec.ofChange fnStartsSpec)

/-- ITS FALSE NEIGHBOUR: 'it returns false'. Refute it at one input. -/
def fnStartsWrong : ChangeSpec := { name := "fnStarts", vars := ["loop.example/g00348/impl.roundConstants", "loop.example/g00348/impl.laneShifts"], fn := fun _ => fun
  | [d1, d2, g1, g2] => { results := [.lit (.bool false)], args := [d1, d2], vars := [g1, g2] }
  | _ => none }
def FnStartsWrongFalsely : Prop := fnStartsRow.holds Tryz.pinned (OpenSpec.ofChange fnStartsWrong)

/- THE SECOND FORM. 'bulk': how many values and letters a reading holds, each counted each time it is reached (what is shared counts as often as it is met; a slice's spare places count too). A statement '..UptoSaid' is the law's where the arguments, and the package variables that the reading takes, are together of bulk at most 1048576: NARROWER than '..Said'. Prove '..Said' where nothing that the law and all that it calls make is longer than what came in: it says more and counts as full. Else prove '..UptoSaid'. A law counts once. -/
mutual
def uptoBulk {H : Type} : DataW H → Nat
  | .lit (.string bytes) => bytes.length + 1
  | .lit _ => 1
  | .nil => 1
  | .ptr d => uptoBulk d + 1
  | .slice elems spare => uptoBulkAll elems + uptoBulkAll spare + 1
  | .agg parts => uptoBulkAll parts + 1
  | .iface _ d => uptoBulk d + 1
  | .map entries => uptoBulkEntries entries + 1
  | .held _ => 1
def uptoBulkAll {H : Type} : List (DataW H) → Nat
  | [] => 0
  | d :: r => uptoBulk d + uptoBulkAll r
def uptoBulkEntries {H : Type} : List (Lit × DataW H) → Nat
  | [] => 0
  | x :: r => uptoBulkEntry x + uptoBulkEntries r
def uptoBulkEntry {H : Type} : Lit × DataW H → Nat
  | (.string bytes, d) => bytes.length + uptoBulk d + 1
  | (_, d) => uptoBulk d + 1
 end
def uptoSmall : (H : Type) → List (DataW H) → Bool := fun _ ds => decide (uptoBulkAll ds ≤ 1048576)
def OpenSpec.upto (s : _root_.Go.ChangeSpec) : _root_.Go.OpenSpec := { _root_.Go.OpenSpec.ofChange s with cond := some uptoSmall }

/-- 'laws.FnExactStart', WHERE WHAT IT READS IS OF BULK AT MOST 1048576: true; the input reads as it did. -/
def fnExactStartUptoRow : OpenClaim := { program := "ytkpohajmcngjcaagreatdoor", sum := "89a0fa953cf932d38ea0d88ee98e730d49be0eed8f875a6c5df906d69b2780b7", func := "loop.example/g00348/laws.FnExactStart", spec := "fnExactStart", unfollowed := true, recurses := true, named := ["loop.example/g00348/impl.roundConstants", "loop.example/g00348/impl.laneShifts"], plainKeys := false, apart := false, laid := [("loop.example/g00348/impl.laneShifts", laid_loop_example_g00348_impl_laneShifts), ("loop.example/g00348/impl.roundConstants", laid_loop_example_g00348_impl_roundConstants)], narrowed := true }
def FnExactStartUptoSaid : Prop := fnExactStartUptoRow.holds Tryz.pinned (OpenSpec.upto fnExactStartSpec)

/-- 'laws.FnStarts', WHERE WHAT IT READS IS OF BULK AT MOST 1048576: true; the input reads as it did. -/
def fnStartsUptoRow : OpenClaim := { program := "ytkpohajmcngjcaagreatdoor", sum := "89a0fa953cf932d38ea0d88ee98e730d49be0eed8f875a6c5df906d69b2780b7", func := "loop.example/g00348/laws.FnStarts", spec := "fnStarts", unfollowed := true, recurses := true, named := ["loop.example/g00348/impl.roundConstants", "loop.example/g00348/impl.laneShifts"], plainKeys := false, apart := false, laid := [("loop.example/g00348/impl.laneShifts", laid_loop_example_g00348_impl_laneShifts), ("loop.example/g00348/impl.roundConstants", laid_loop_example_g00348_impl_roundConstants)], narrowed := true }
def FnStartsUptoSaid : Prop := fnStartsUptoRow.holds Tryz.pinned (OpenSpec.upto fnStartsSpec)

end Rows
end Go.Proofs.YtkpohajmcngjcaaGreatDoor
