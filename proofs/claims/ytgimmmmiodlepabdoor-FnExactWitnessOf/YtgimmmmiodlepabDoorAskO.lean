/- What a run that is right has: plain. -/
import Derived.Test.YtgimmmmiodlepabDoorRunM
namespace Go.Proofs.YtgimmmmiodlepabDoor
theorem akr_ok {n : Nat} {G : Nat → Gt} {np : Nat} {P : Nat → Int} {ni : Nat} {I : Nat → Int} (h : akr n G np P ni I = 0) : crb n G = true ∧ (∀ i, i < np → fnb (P i)) ∧ (∀ i, i < ni → fnb (I i)) ∧ np = ctg 2 n G ∧ ni = ctg 1 n G := by
  unfold akr at h
  split at h
  · cases h
  · split at h
    · cases h
    · split at h
      · cases h
      · split at h
        · cases h
        · rename_i h1 h2 h3 h4
          have h2 : crb n G = true := by cases e : crb n G with | true => rfl | false => exact absurd e h2
          have h3a : fds np P = true := by cases e : fds np P with | true => rfl | false => exact absurd (.inl e) h3
          have h3b : fds ni I = true := by cases e : fds ni I with | true => rfl | false => exact absurd (.inr e) h3
          exact ⟨h2, fun i hi => fds_at h3a hi, fun i hi => fds_at h3b hi, Classical.byContradiction (fun q => h4 (.inl q)), Classical.byContradiction (fun q => h4 (.inr q))⟩
end Go.Proofs.YtgimmmmiodlepabDoor
