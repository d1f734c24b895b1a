/- Several texts in one: Entries that the library sorts; entries told out of a map, by their order: contracts. · Whether a list of entries is told back by a map, and whether it is a matrix: the program's contracts. -/
import Derived.Test.YtpndbkgjdnkmcaaDoorBzbg
import Derived.Deep.AppendLies
import Derived.Laws.StructEq
namespace Go.Proofs.YtpndbkgjdnkmcaaDoor
open Go.ChangeShapes Go.WideShapes Go.ChangeAt Go.RowKit
open Go.Shelf Go.Lib Go.Sort
open Go.Maps (Keyed IsMap Tidy has)
set_option linter.unusedVariables false
set_option maxRecDepth 100000
set_option linter.unusedSimpArgs false

/-- The places that have come up so far. -/
structure Cld (D : DataW Unit) (m : Int → Int → Option Int) (left : Lit → Bool) (acc : List En) : Prop where
  is : ∀ e ∈ acc, m e.1 e.2.1 = some e.2.2 ∧ left (kyE e.1 e.2.1) = false ∧ (Lit.int .i64 e.1).wf = true ∧ (Lit.int .i64 e.2.1).wf = true
  all : ∀ r c v, (Lit.int .i64 r).wf = true → (Lit.int .i64 c).wf = true → m r c = some v → left (kyE r c) = false → (r, c, v) ∈ acc
  ne : acc.Pairwise (fun a b => ¬ (a.1 = b.1 ∧ a.2.1 = b.2.1))
theorem Cld.start {D : DataW Unit} {m : Int → Int → Option Int} (h : Fmd D m) : Cld D m (has D) [] :=
  ⟨fun e he => (by cases he), fun r c v wr wc hm hl => (by
    have := Maps.has_true_of_atKey (h.som r c v wr wc hm)
    rw [hl] at this; cases this), List.Pairwise.nil⟩
theorem Cld.told {D : DataW Unit} {X : Nat → En} {n : Nat} {left : Lit → Bool} {acc S : List En} (h : Cld D (fmE X n) left acc) (hl : ∀ k, left k = false) (hw : ∀ i, i < n → (Lit.int .i64 (X i).1).wf = true ∧ (Lit.int .i64 (X i).2.1).wf = true) (hp : S.Perm acc) (hs : S.Pairwise (fun a b => enlt b a = false)) : Told (fmE X n) S := by
  constructor
  · intro e he
    exact (h.is e (hp.mem_iff.1 he)).1
  · intro r c v hm
    obtain ⟨i, hi, e⟩ := fmE_some hm
    obtain ⟨w1, w2⟩ := hw i hi
    rw [e] at w1 w2
    exact hp.mem_iff.2 (h.all r c v w1 w2 hm (hl _))
  · exact pw_of hs (((hp.pairwise_iff (fun {a b} q k => q ⟨k.1.symm, k.2.symm⟩)).2 h.ne))


end Go.Proofs.YtpndbkgjdnkmcaaDoor

namespace Go.Proofs.YtpndbkgjdnkmcaaDoor
open Go.ChangeShapes Go.WideShapes Go.ChangeAt Go.RowKit
open Go.Shelf Go.Lib Go.Sort
open Go.Maps (Keyed IsMap Tidy has)
set_option linter.unusedVariables false
set_option maxRecDepth 100000
set_option linter.unusedSimpArgs false


end Go.Proofs.YtpndbkgjdnkmcaaDoor
