/- What the model's SumVerify answers: a contract. Conditions: lists that can be read, of at most 2 to the 40. -/
import Derived.Test.YtgiefpipflcbgadGreatDoorSumY
import Derived.Test.YtgiefpipflcbgadGreatDoorBzaq
namespace Go.Proofs.YtgiefpipflcbgadGreatDoor
open Go.ChangeShapes Go.WideShapes Go.ChangeAt Go.RowKit
set_option linter.unusedVariables false
set_option maxRecDepth 100000
set_option linter.unusedSimpArgs false

/-- SumVerify's code. -/
def svc8 (K x1 x2 : Int) (m : Nat) (L : Nat → Nat) (f g : Nat → Nat → Int) (vars : Int) (fs gs : Nat → Int) (len : Nat) (at' : Int) (st : ByteArray) (ct : Int) : Int :=
  if rkc m L f g = 0 then (if eok x1 x2 = true ∧ sokb fs gs len at' st ct = true then (if kdb K = true ∧ inW vars 0 6 = true then (if spb at' ct 6 = true then 6 else (if (m : Int) = vars then vcd fs gs len (K.toNat + 2) L (fun i => elF (f i) (g i)) ⟨elP x1 x2, at', st, ct⟩ 0 m else 18)) else 4) else 1) else rkc m L f g
/-- A point, a claim, a source and a code, to be read. -/
def VxAns (w : World) (q : Int) (nP nS : Nat) (R : Nat → El) (fs gs : Nat → Int) (y1 y2 a : Int) (s : ByteArray) (c : Int) (e : Ending) (w' : World) : Prop :=
  ∃ (cP : Option Addr) (capP : Nat) (cS : Option Addr) (capS : Nat), e = .returned (.tuple #[.slice cP nP capP, .agg #[.int .i64 y1, .int .i64 y2], .agg #[.slice cS nS capS, .int .i64 a, .string s, .int .i64 c], .int .i64 q]) ∧ OwnE w' w.heap.size cP nP (cA R) (cB R) ∧ OwnE w' w.heap.size cS nS fs gs ∧ Chg nob w w'
theorem VxAns.zero {w w' : World} {q q' : Int} {nP nS : Nat} {R : Nat → El} {fs gs : Nat → Int} {y1 y2 a : Int} {s : ByteArray} {c : Int} {e : Ending} {c1 : Option Addr} {p1 : Nat} (hq : q = q') (h0 : ¬ q' = 0) (he : e = .returned (.tuple #[.slice c1 0 p1, .agg #[.int .i64 0, .int .i64 0], .agg #[.slice none 0 0, .int .i64 0, .string ⟨#[]⟩, .int .i64 0], .int .i64 q'])) (k : Chg nob w w') :
    VxAns w q (scn q nP) (scn q nS) R fs gs (scI q y1) (scI q y2) (scI q a) (scS q s) (scI q c) e w' := by
  subst hq
  have e1 : ∀ n, scn q n = 0 := fun n => if_neg h0
  have e2 : ∀ a, scI q a = 0 := fun a => if_neg h0
  have e3 : ∀ s, scS q s = ⟨#[]⟩ := fun s => if_neg h0
  rw [e1, e1, e2, e2, e2, e2, e3]
  exact ⟨c1, p1, none, 0, he, .inl rfl, .inl rfl, k⟩
theorem VxAns.full {w w' : World} {q : Int} {nP nS : Nat} {R : Nat → El} {fs gs : Nat → Int} {y1 y2 a : Int} {s : ByteArray} {c : Int} {e : Ending} {c1 c2 : Option Addr} {p1 p2 : Nat} (hq : q = 0) (he : e = .returned (.tuple #[.slice c1 nP p1, .agg #[.int .i64 y1, .int .i64 y2], .agg #[.slice c2 nS p2, .int .i64 a, .string s, .int .i64 c], .int .i64 0])) (h1 : OwnE w' w.heap.size c1 nP (cA R) (cB R)) (h2 : OwnE w' w.heap.size c2 nS fs gs) (k : Chg nob w w') :
    VxAns w q (scn q nP) (scn q nS) R fs gs (scI q y1) (scI q y2) (scI q a) (scS q s) (scI q c) e w' := by
  subst hq
  exact ⟨c1, p1, c2, p2, he, h1, h2, k⟩

end Go.Proofs.YtgiefpipflcbgadGreatDoor
