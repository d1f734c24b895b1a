/- For the laws with lists: rows of a call's own under another one's marks. No condition but those that each theorem states. -/
import Derived.Test.YtfbjlohnbpienaaOwnE
import Derived.Test.YtfbjlohnbpienaaLawH
namespace Go.Proofs.Ytfbjlohnbpienaa
open Go.ChangeShapes Go.WideShapes Go.ChangeAt Go.RowKit
set_option linter.unusedVariables false
set_option linter.unusedSimpArgs false

/-- What was there ahead of the marked block stays. -/
theorem OwnE.past {u w w' v : World} {B B' n : Nat} {c c' : Option Addr} {f g : Nat → Int} (h0 : OwnE u B c n f g) (h : OwnE w B c n f g) (k : Chg (Mkb v B' c') w w') (hB : u.heap.size ≤ B') : OwnE w' B c n f g := by
  rcases h0 with rfl | ⟨b, N, H, rfl, hb, r, _⟩
  · exact .inl rfl
  · refine h.chg k (fun b' _ e m => ?_)
    cases e
    have := r.lt
    have := m.1
    omega
/-- What was made behind the marked block stays. -/
theorem OwnE.ahead {w w' v : World} {B B' b n : Nat} {c : Option Addr} {f g : Nat → Int} (h : OwnE w B c n f g) (k : Chg (Mkb v B' (some ⟨b, 0, none⟩)) w w') (hB : b < B) : OwnE w' B c n f g := by
  refine h.chg k (fun b' hb e m => ?_)
  have e2 := m.2.1
  cases e2
  omega
theorem near_mkb {w W W' v : World} {B : Nat} {c : Option Addr} (h : Chg nob w W) (k : Chg (Mkb v B c) W W') (hB : w.heap.size ≤ B) : Chg nob w W' := h.near k (fun i m => Nat.le_trans hB m.1)

theorem toExtS_ex (c : Option Addr) (n cap : Nat) (f g : Nat → Int) (w : World) (h : Hid (PairV w c n f g)) (hn : n ≤ 1099511627776) :
    Calls Try.prog 58 #[.slice c n cap] w fun e w' => ∃ b : Nat, e = .returned (.slice (some ⟨b, 0, none⟩) n n) ∧ w.heap.size ≤ b ∧ w'.rowIs b 36 (n * 2) (pf f g) ∧ Chg nob w w' := by
  refine (toExtS_any c n cap f g w h hn).mono ?_
  rintro e w' ⟨he, r, k⟩
  exact ⟨_, he, Nat.le_refl _, r, k⟩

end Go.Proofs.Ytfbjlohnbpienaa
