/- Of two ways up to one root by one path the last two texts that differ have one hash: plain facts. No program is walked here. -/
import Derived.Test.YtabioonijjibnabDoorMrkF
namespace Go.Proofs.YtabioonijjibnabDoor

theorem ba_ext {a b : ByteArray} (h : a.toList = b.toList) : a = b := by
  rw [ByteArray.toList_eq, ByteArray.toList_eq] at h
  exact Go.WideShapes.bytes_inj h
theorem ba_cancel_left {x a b : ByteArray} (h : x ++ a = x ++ b) : a = b := by
  have e := congrArg ByteArray.data h
  rw [ByteArray.data_append, ByteArray.data_append] at e
  have e2 : a.data = b.data := by simpa using congrArg Array.toList e
  cases a; cases b; simp_all
theorem ba_cancel_right {x a b : ByteArray} (h : a ++ x = b ++ x) : a = b := by
  have e := congrArg ByteArray.data h
  rw [ByteArray.data_append, ByteArray.data_append] at e
  have e2 : a.data = b.data := by simpa using congrArg Array.toList e
  cases a; cases b; simp_all
theorem ndT_left {x a b : ByteArray} (h : ndT x a = ndT x b) : a = b := ba_cancel_left h
theorem ndT_right {x a b : ByteArray} (h : ndT a x = ndT b x) : a = b := ba_cancel_left (ba_cancel_right h)
/-- Above the last two that differ all is alike. -/
theorem dif_some {u v : Nat → ByteArray} {k : Nat} : ∀ {n : Nat}, dif u v n = some k → k < n ∧ ¬ (u k).toList = (v k).toList ∧ ∀ j, k < j → j < n → u j = v j
  | 0, h => by simp [dif] at h
  | n + 1, h => by
    unfold dif at h
    split at h
    · rename_i e
      obtain ⟨h1, h2, h3⟩ := dif_some h
      refine ⟨by omega, h2, fun j hj hn => ?_⟩
      by_cases q : j = n
      · subst q; exact ba_ext e
      · exact h3 j hj (by omega)
    · rename_i e
      obtain rfl : n = k := by simpa using h
      exact ⟨by omega, e, fun j hj hn => by omega⟩
theorem upT_hash' (i : Nat) (t : ByteArray) (P : Nat → ByteArray) (k : Nat) : hsh (upT i t P k).1 = (upT i t P k).2 := by
  cases k with
  | zero => rfl
  | succ k => rfl
theorem upT_text' (i : Nat) (t : ByteArray) (P : Nat → ByteArray) (k : Nat) (ht : t.size ≤ 64) (hz : ∀ j, j < k → (P j).size = 32) : (upT i t P k).1.size ≤ 65 := by
  cases k with
  | zero => show (lfT t).size ≤ 65; rw [lfT_size]; omega
  | succ k =>
    have h1 := hz k (by omega)
    have h2 := upT_size i t P k
    simp only [upT]
    split <;> (rw [ndT_size, h1, h2]; omega)
theorem dif_hash {i d k : Nat} {s t : ByteArray} {P : Nat → ByteArray} (h : dif (fun k => (upT i s P k).1) (fun k => (upT i t P k).1) (d + 1) = some k) (hr : (upT i s P d).2 = (upT i t P d).2) : hsh (upT i s P k).1 = hsh (upT i t P k).1 := by
  obtain ⟨h1, _, h3⟩ := dif_some h
  rw [upT_hash', upT_hash']
  by_cases e : k = d
  · rw [e]; exact hr
  · have q := h3 (k + 1) (by omega) (by omega)
    simp only [upT] at q
    split at q
    · exact ndT_left q
    · exact ndT_right q
theorem ckb_root {r : ByteArray} {n : Int} {i : Nat} {t : ByteArray} {d : Nat} {P : Nat → ByteArray} (h : ckb r n i t d P = true) : (upT i t P d).2 = r := by
  unfold ckb at h
  split at h
  · cases h
  · split at h
    · exact ba_ext (by simpa using h)
    · cases h
/-- What is told of two leaves at one place by one path: nothing but two texts of one hash, or that a way does not lead to the root, or that nothing differs. -/
theorem exv_told {r : ByteArray} {n : Int} {i : Nat} {s t : ByteArray} {d : Nat} {P : Nat → ByteArray} (h1 : akc r n i s d = 0) (h2 : akc r n i t d = 0) :
    (exv r n i s d P t d P = exn 9) ∨ (exv r n i s d P t d P = exn 5) ∨ ∃ x y : ByteArray, exv r n i s d P t d P = .tuple #[.agg #[.string x, .string y], .int .i64 0] ∧ ¬ x.toList = y.toList ∧ hsh x = hsh y ∧ x.size ≤ 65 ∧ y.size ≤ 65 := by
  obtain ⟨a1, a2, a3, hp, _⟩ := akc_ok h1
  obtain ⟨_, b2, _⟩ := akc_ok h2
  have hz : ¬ (65536 < r.size ∨ 65536 < s.size ∨ 4096 < d ∨ 65536 < t.size ∨ 4096 < d) := by omega
  cases h3 : ckb r n i s d P
  · exact .inl (exv_9 hz h1 h2 (by rw [Int.toNat_natCast]; exact h3))
  · cases h4 : ckb r n i t d P
    · exact .inl (exv_9' hz h1 h2 (by rw [Int.toNat_natCast]; exact h3) (by rw [Int.toNat_natCast]; exact h4))
    · right
      have E := exv_ok hz h1 h2 (by rw [Int.toNat_natCast]; exact h3) (by rw [Int.toNat_natCast]; exact h4)
      rw [Int.toNat_natCast] at E
      cases hd : dif (fun k => (upT i s P k).1) (fun k => (upT i t P k).1) (d + 1) with
      | none => left; rw [E, hd]; rfl
      | some k =>
        right
        obtain ⟨q1, q2, _⟩ := dif_some hd
        obtain ⟨c8, c64, _, c32⟩ := ckb_ok h3 hp
        obtain ⟨_, e64, _, _⟩ := ckb_ok h4 hp
        refine ⟨(upT i s P k).1, (upT i t P k).1, by rw [E, hd]; rfl, q2, dif_hash hd ((ckb_root h3).trans (ckb_root h4).symm), ?_, ?_⟩
        · exact upT_text' i s P k c64 (fun j hj => c32 j (by omega))
        · exact upT_text' i t P k e64 (fun j hj => c32 j (by omega))
/-- Of one leaf there is none. -/
theorem dif_self (u : Nat → ByteArray) : ∀ n, dif u u n = none
  | 0 => rfl
  | n + 1 => by unfold dif; rw [if_pos rfl]; exact dif_self u n
theorem exv_self {r : ByteArray} {n : Int} {i : Nat} {s : ByteArray} {d : Nat} {P : Nat → ByteArray} (h1 : akc r n i s d = 0) (h3 : ckb r n i s d P = true) : exv r n i s d P s d P = exn 5 := by
  obtain ⟨a1, a2, a3, hp, _⟩ := akc_ok h1
  have hz : ¬ (65536 < r.size ∨ 65536 < s.size ∨ 4096 < d ∨ 65536 < s.size ∨ 4096 < d) := by omega
  rw [exv_ok hz h1 h1 (by rw [Int.toNat_natCast]; exact h3) (by rw [Int.toNat_natCast]; exact h3), Int.toNat_natCast, dif_self]
  rfl
end Go.Proofs.YtabioonijjibnabDoor
