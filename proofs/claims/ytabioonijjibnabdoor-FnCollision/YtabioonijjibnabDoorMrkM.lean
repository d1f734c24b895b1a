/- Trees of hashes as plain functions on texts. No program is named here but by what is imported. -/
import Derived.Test.YtabioonijjibnabDoorKecG
namespace Go.Proofs.YtabioonijjibnabDoor

/-- The hash of a text. -/
def hsh (s : ByteArray) : ByteArray := bt (lb (hst (pd (zs s) s.size) (s.size / 136 + 1))) 32
theorem hsh_size (s : ByteArray) : (hsh s).size = 32 := bt_size _ _
/-- What is hashed of a leaf, of a node. -/
def lfT (t : ByteArray) : ByteArray := ⟨#[0]⟩ ++ t
def ndT (a b : ByteArray) : ByteArray := ⟨#[1]⟩ ++ a ++ b
theorem lfT_size (t : ByteArray) : (lfT t).size = 1 + t.size := by unfold lfT; rw [ByteArray.size_append]; rfl
theorem ndT_size (a b : ByteArray) : (ndT a b).size = 1 + a.size + b.size := by unfold ndT; rw [ByteArray.size_append, ByteArray.size_append]; rfl
def lf (t : ByteArray) : ByteArray := hsh (lfT t)
def nd (a b : ByteArray) : ByteArray := hsh (ndT a b)
theorem lf_size (t : ByteArray) : (lf t).size = 32 := hsh_size _
theorem nd_size (a b : ByteArray) : (nd a b).size = 32 := hsh_size _
/-- Level k of a tree, place i. -/
def lev (L : Nat → ByteArray) : Nat → Nat → ByteArray
  | 0, i => lf (L i)
  | k + 1, i => nd (lev L k (2 * i)) (lev L k (2 * i + 1))
theorem lev_size (L : Nat → ByteArray) (k i : Nat) : (lev L k i).size = 32 := by
  cases k with
  | zero => exact lf_size _
  | succ k => exact nd_size _ _
/-- What is hashed on the way up, and what it comes to: place i, leaf t, the hashes beside the way. -/
def upT (i : Nat) (t : ByteArray) (p : Nat → ByteArray) : Nat → ByteArray × ByteArray
  | 0 => (lfT t, lf t)
  | k + 1 => let h := (upT i t p k).2; let x := if i / 2 ^ k % 2 = 1 then ndT (p k) h else ndT h (p k); (x, hsh x)
theorem upT_size (i : Nat) (t : ByteArray) (p : Nat → ByteArray) (k : Nat) : (upT i t p k).2.size = 32 := by
  cases k with
  | zero => exact lf_size _
  | succ k => exact hsh_size _
/-- Each leaf's path leads to the root. -/
theorem upT_lev (L : Nat → ByteArray) (i : Nat) : ∀ k, (upT i (L i) (fun j => lev L j (if i / 2 ^ j % 2 = 1 then i / 2 ^ j - 1 else i / 2 ^ j + 1)) k).2 = lev L k (i / 2 ^ k)
  | 0 => by simp [upT, lev]
  | k + 1 => by
    have ih := upT_lev L i k
    have e : i / 2 ^ (k + 1) = i / 2 ^ k / 2 := by rw [Nat.pow_succ, Nat.div_div_eq_div_mul]
    simp only [upT]
    rw [ih, e, lev]
    generalize i / 2 ^ k = m
    by_cases h : m % 2 = 1
    · rw [if_pos h, if_pos h, show 2 * (m / 2) = m - 1 by omega, show m - 1 + 1 = m by omega]
      rfl
    · rw [if_neg h, if_neg h, show 2 * (m / 2) = m by omega]
      rfl
end Go.Proofs.YtabioonijjibnabDoor
