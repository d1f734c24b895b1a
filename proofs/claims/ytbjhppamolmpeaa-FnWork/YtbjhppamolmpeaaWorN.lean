/- A query more hashes more: plain. -/
import Derived.Test.YtbjhppamolmpeaaBzaw
import Derived.Test.YtbjhppamolmpeaaBzan
namespace Go.Proofs.Ytbjhppamolmpeaa
set_option linter.unusedVariables false
theorem stb_mk9 {r q g : Int} (r0 : 1 ≤ r) (r1 : r ≤ 3) (q0 : 1 ≤ q) (q1 : q ≤ 8) (g0 : 0 ≤ g) (g1 : g ≤ 12) : stb r q g = true := decide_eq_true ⟨⟨r0, r1⟩, ⟨q0, q1⟩, g0, g1⟩
theorem sysb_small {s : Sy} (h : sysb s = true) : s.small := by
  obtain ⟨⟨a, b, c⟩, _, _⟩ := sysb_ent h
  exact ⟨by omega, by omega, by omega⟩
theorem wkV_grows {s : Sy} {r q g : Int} (hs : sysb s = true) (h1 : stb r q g = true) (h2 : stb r (q + 1) g = true) : wkV s r q g < wkV s r (q + 1) g := by
  obtain ⟨⟨r0, r1⟩, ⟨q0, q1⟩, g0, g1⟩ := stb_parts h1
  obtain ⟨_, ⟨_, _, sq0, sq1, _, _⟩, _⟩ := sysb_ent hs
  obtain ⟨d0, d1⟩ := wkq_bd (v := s.q - 1) (r := r) (by omega) (by omega) r0 r1 (s.q - 1).toNat (by omega)
  unfold wkV
  rw [hs, h1, h2]
  simp only [Bool.and_self, if_true]
  unfold wk4
  rw [Int.add_mul, Int.one_mul]
  omega

end Go.Proofs.Ytbjhppamolmpeaa
