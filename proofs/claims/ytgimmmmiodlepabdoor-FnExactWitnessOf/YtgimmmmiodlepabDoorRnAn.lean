/- What a run answers: words. -/
import Derived.Test.YtgimmmmiodlepabDoorIGro
import Derived.Test.YtgimmmmiodlepabDoorSeeP
namespace Go.Proofs.YtgimmmmiodlepabDoor
open Go.RowKit
set_option linter.unusedVariables false
/-- What a run answers: values of the call's own, a code. -/
def RnAns (w : World) (code : Int) (N : Nat) (f : Nat → Int) (e : Ending) (w' : World) : Prop :=
  ∃ c cap, e = .returned (.tuple #[.slice c (if code = 0 then N else 0) cap, .int .i64 code]) ∧ OwnJ w' w.heap.size c (if code = 0 then N else 0) f ∧ Chg nob w w'
theorem RnAns.no {w w' : World} {code k : Int} {N : Nat} {f : Nat → Int} {e : Ending} {c : Option Addr} {cap : Nat} (h : code = k) (hk : k ≠ 0) (he : e = .returned (.tuple #[.slice c 0 cap, .int .i64 k])) (kk : Chg nob w w') : RnAns w code N f e w' :=
  ⟨c, cap, by rw [h, if_neg hk]; exact he, by rw [h, if_neg hk]; exact .inl rfl, kk⟩
theorem RnAns.yes {w w' : World} {code : Int} {N : Nat} {f : Nat → Int} {e : Ending} {c : Option Addr} {cap : Nat} (h : code = 0) (he : e = .returned (.tuple #[.slice c N cap, .int .i64 0])) (ho : OwnJ w' w.heap.size c N f) (kk : Chg nob w w') : RnAns w code N f e w' :=
  ⟨c, cap, by rw [if_pos h, h]; exact he, by rw [if_pos h]; exact ho, kk⟩
theorem OwnJ.mono {W : World} {B B' : Nat} {c : Option Addr} {n : Nat} {f g : Nat → Int} (h : OwnJ W B c n f) (hB : B' ≤ B) (e : ∀ i, i < n → f i = g i) : OwnJ W B' c n g := by
  rcases h with h0 | ⟨b, o, N, hh, hb, e', hN, r, hv⟩
  · exact .inl h0
  · exact .inr ⟨b, o, N, hh, by omega, e', hN, r, fun i hi => by rw [hv i hi]; unfold iv; rw [e i hi]⟩
theorem IGr.lower {W : World} {B B' : Nat} {v : Value} {k : Nat} {f : Nat → Int} (h : IGr W B v k f) (hB : B' ≤ B) : IGr W B' v k f := by
  obtain ⟨hl, h0 | ⟨g, cap, cur, e, hb, r⟩⟩ := h
  · exact ⟨hl, .inl h0⟩
  · exact ⟨hl, .inr ⟨g, cap, cur, e, by omega, r⟩⟩
end Go.Proofs.YtgimmmmiodlepabDoor
