/- Several texts in one: Lists of a call's own that grow: words. No condition but those that each theorem states. · What the program's ReadOpening answers: a contract. Conditions: bytes that can be read, numbers from 0 to 255, of at most 2 to the 40. · What the model's reader of an opening answers: a contract. Conditions: sizes in their bounds, a text of at most 2 to the 16 bytes. · What the program's ReadProof answers: a contract. Conditions: bytes that can be read, numbers from 0 to 255, of at most 2 to the 40; a system that can be read. -/
import Derived.Test.YtppiilbcnkphbaaGreatBzag
import Derived.Test.YtppiilbcnkphbaaGreatBzaj
import Derived.Test.YtppiilbcnkphbaaGreatBzaq
import Derived.Test.YtppiilbcnkphbaaGreatBzat
import Derived.Test.YtppiilbcnkphbaaGreatBzam
import Derived.Test.YtppiilbcnkphbaaGreatBzal
import Derived.Test.YtppiilbcnkphbaaGreatBzbd
import Derived.Test.YtppiilbcnkphbaaGreatBzba
import Derived.Test.YtppiilbcnkphbaaGreatBzbg
namespace Go.Proofs.YtppiilbcnkphbaaGreat
open Go.ChangeShapes Go.WideShapes Go.ChangeAt Go.RowKit
set_option linter.unusedVariables false
set_option maxRecDepth 100000
set_option linter.unusedSimpArgs false

/-- n items of m cells each, in blocks from X on and below H, the row in one of these or in block B; each cell's data in blocks of its own. -/
structure Gl (W : World) (t : TypeId) (m B H X : Nat) (v : Value) (n : Nat) (x : Nat → Df) (vs : Nat → Value) (Si Mi : Nat → Nat → Prop) : Prop where
  own : W.ownsRow B t m v n ((List.range (n * m)).map vs)
  hH : H ≤ W.heap.size
  gH : ∀ g, v.ownBlock = some g → g < H
  it : ∀ p, p < n * m → (x p).Own W (Si p) (Mi p) (vs p)
  bd : ∀ p c, p < n * m → Si p c → X ≤ c ∧ c < H
  off : ∀ p c, p < n * m → Si p c → v.ownBlock ≠ some c
  dis : ∀ p p' c, p < n * m → p' < n * m → p ≠ p' → Mi p c → ¬ Si p' c
  xg : ∀ g, v.ownBlock = some g → g = B ∨ X ≤ g
  xH : B < X ∧ X ≤ H
theorem Gl.chg {P : Nat → Prop} {W W' : World} {t : TypeId} {m B H X : Nat} {v : Value} {n : Nat} {x : Nat → Df} {vs : Nat → Value} {Si Mi : Nat → Nat → Prop} (h : Gl W t m B H X v n x vs Si Mi) (k : Chg P W W') (hp : ∀ c, (c = B ∨ X ≤ c) → c < H → ¬ P c) : Gl W' t m B H X v n x vs Si Mi := by
  refine ⟨⟨h.own.1, ?_⟩, Nat.le_trans h.hH k.size, h.gH, fun p hp' => (x p).chg k (h.it p hp') (fun c hc => hp c (.inr (h.bd p c hp' hc).1) (h.bd p c hp' hc).2), h.bd, h.off, h.dis, h.xg, h.xH⟩
  rcases h.own.2 with q | ⟨g, cap, cur, e, hb, hc, r⟩
  · exact .inl q
  · exact .inr ⟨g, cap, cur, e, hb, (k.block g (Array.getElem?_eq_some_iff.1 hc).1 (hp g (h.xg g (by rw [e]; rfl)) (h.gH g (by rw [e]; rfl)))).trans hc, r⟩
theorem Gl.keep {W W' : World} {t : TypeId} {m B H X : Nat} {v : Value} {n : Nat} {x : Nat → Df} {vs : Nat → Value} {Si Mi : Nat → Nat → Prop} (h : Gl W t m B H X v n x vs Si Mi) (k : Chg nob W W') : Gl W' t m B H X v n x vs Si Mi := h.chg k (fun _ _ _ x => x)
theorem Gl.top {W : World} {t : TypeId} {m B H H' X : Nat} {v : Value} {n : Nat} {x : Nat → Df} {vs : Nat → Value} {Si Mi : Nat → Nat → Prop} (h : Gl W t m B H X v n x vs Si Mi) (l : H ≤ H') (l' : H' ≤ W.heap.size) : Gl W t m B H' X v n x vs Si Mi :=
  ⟨h.own, l', fun g e => Nat.lt_of_lt_of_le (h.gH g e) l, h.it, fun p c hp hc => ⟨(h.bd p c hp hc).1, Nat.lt_of_lt_of_le (h.bd p c hp hc).2 l⟩, h.off, h.dis, h.xg, ⟨h.xH.1, Nat.le_trans h.xH.2 l⟩⟩
theorem Gl.congr {W : World} {t : TypeId} {m B H X : Nat} {v : Value} {n : Nat} {x y : Nat → Df} {vs : Nat → Value} {Si Mi : Nat → Nat → Prop} (h : Gl W t m B H X v n x vs Si Mi) (e : ∀ p, p < n * m → y p = x p) : Gl W t m B H X v n y vs Si Mi :=
  ⟨h.own, h.hH, h.gH, fun p hp => by rw [e p hp]; exact h.it p hp, h.bd, h.off, h.dis, h.xg, h.xH⟩
theorem Gl.fresh {W : World} {t : TypeId} {m B H X : Nat} {x : Nat → Df} (hc : W.heap[B]? = some (.cells #[] t (0, 0))) (hX : B < X) (hXH : X ≤ H) (hH : H ≤ W.heap.size) : Gl W t m B H X (.slice (some ⟨B, 0, none⟩) 0 0) 0 x (fun _ => undef) (fun _ _ => False) (fun _ _ => False) := by
  refine ⟨⟨by simp, .inr ⟨B, 0, #[], rfl, Nat.le_refl _, hc, Nat.le_refl _, Nat.zero_le _, by simp, by simp⟩⟩, hH, fun g' e => ?_, fun p hp => absurd hp (by omega), fun p c hp => absurd hp (by omega), fun p c hp => absurd hp (by omega), fun p p' c hp => absurd hp (by omega), fun g' e => ?_, hX, hXH⟩
  · have e' : B = g' := by simpa [Value.ownBlock] using e
    omega
  · have e' : B = g' := by simpa [Value.ownBlock] using e
    exact .inl e'.symm
theorem Gl.cell {W : World} {t : TypeId} {m B H X : Nat} {v : Value} {n : Nat} {x : Nat → Df} {vs : Nat → Value} {Si Mi : Nat → Nat → Prop} (h : Gl W t m B H X v n x vs Si Mi) {g cap : Nat} (e : v = .slice (some ⟨g, 0, none⟩) n cap) {p : Nat} (hp : p < n * m) : W.cell? ⟨g, p, none⟩ = some (vs p) := by
  have hc := h.own
  rw [e] at hc
  have := hc.cells rfl p (vs p) (by rw [List.getElem?_map, List.getElem?_range hp]; rfl)
  rw [Go.WideShapes.add_plain, Nat.zero_add] at this
  exact this
def ext9 {α : Type} (k : Nat) (x y : Nat → α) (p : Nat) : α := if p < k then x p else y (p - k)
theorem ext9_lo {α : Type} (k : Nat) (x y : Nat → α) {p : Nat} (h : p < k) : ext9 k x y p = x p := if_pos h
theorem ext9_hi {α : Type} (k : Nat) (x y : Nat → α) (j : Nat) : ext9 k x y (k + j) = y j := by
  unfold ext9
  rw [if_neg (by omega), show k + j - k = j by omega]
theorem ext9_map {α : Type} (k m : Nat) (x y : Nat → α) : (List.range k).map x ++ (List.range m).map y = (List.range (k + m)).map (ext9 k x y) := by
  rw [List.range_add, List.map_append, List.map_map]
  congr 1
  · exact List.map_congr_left (fun p hp => by rw [ext9_lo k x y (List.mem_range.1 hp)])
  · exact List.map_congr_left (fun j _ => by simp only [Function.comp_apply]; rw [ext9_hi])
/-- An item is appended: its data lie in blocks from H on. -/
theorem Gl.step {W W' : World} {t : TypeId} {m B H X : Nat} {v : Value} {n : Nat} {x : Nat → Df} {vs : Nat → Value} {Si Mi : Nat → Nat → Prop} (h : Gl W t m B H X v n x vs Si Mi) {g cap : Nat} (xu : Nat → Df) (vu : Nat → Value) (Su Mu : Nat → Nat → Prop)
    (ho : W'.ownsRow B t m (.slice (some ⟨g, 0, none⟩) (n + 1) cap) (n + 1) ((List.range (n * m)).map vs ++ (List.range m).map vu)) (hg : W.grownBy W' v.ownBlock) (hat : v.ownBlock = some g ∨ g = W.heap.size) (hlt : g < W'.heap.size) (hB : B ≤ H)
    (hn : ∀ j, j < m → (xu j).Own W (Su j) (Mu j) (vu j)) (hb : ∀ j c, j < m → Su j c → H ≤ c ∧ c < W.heap.size) (hd : ∀ j j' c, j < m → j' < m → j ≠ j' → Mu j c → ¬ Su j' c) :
    Gl W' t m B W'.heap.size X (.slice (some ⟨g, 0, none⟩) (n + 1) cap) (n + 1) (ext9 (n * m) x xu) (ext9 (n * m) vs vu) (ext9 (n * m) Si Su) (ext9 (n * m) Mi Mu) := by
  have k : Chg (fun y => v.ownBlock = some y) W W' := (Chg.refl _ W).grown hg (fun b e _ => e)
  have hs := k.size
  have hH := h.hH
  have e1 : (n + 1) * m = n * m + m := Nat.succ_mul n m
  have cs : ∀ p, p < n * m + m → p < n * m ∨ ∃ j, j < m ∧ p = n * m + j := fun p hp => by
    by_cases q : p < n * m
    · exact .inl q
    · exact .inr ⟨p - n * m, by omega, by omega⟩
  have hX := h.xH
  refine ⟨by rw [e1, ← ext9_map]; exact ho, Nat.le_refl _, fun g' e => ?_, fun p hp => ?_, fun p c hp hc => ?_, fun p c hp hc e => ?_, fun p p' c hp hp' hne hm hc => ?_, fun g' e => ?_, by omega⟩
  · have e' : g = g' := by simpa [Value.ownBlock] using e
    omega
  · rw [e1] at hp
    rcases cs p hp with q | ⟨j, hj, rfl⟩
    · rw [ext9_lo _ _ _ q, ext9_lo _ _ _ q, ext9_lo _ _ _ q, ext9_lo _ _ _ q]
      exact (x p).chg k (h.it p q) (fun c hc => h.off p c q hc)
    · rw [ext9_hi, ext9_hi, ext9_hi, ext9_hi]
      exact (xu j).chg k (hn j hj) (fun c hc e => by
        have := (hb j c hj hc).1
        have := h.gH c e
        omega)
  · rw [e1] at hp
    rcases cs p hp with q | ⟨j, hj, rfl⟩
    · rw [ext9_lo _ _ _ q] at hc
      have := h.bd p c q hc
      omega
    · rw [ext9_hi] at hc
      have := hb j c hj hc
      omega
  · rw [e1] at hp
    have e' : g = c := by simpa [Value.ownBlock] using e
    subst e'
    rcases cs p hp with q | ⟨j, hj, rfl⟩
    · rw [ext9_lo _ _ _ q] at hc
      have := h.bd p g q hc
      rcases hat with z | z
      · exact h.off p g q hc z
      · omega
    · rw [ext9_hi] at hc
      have := hb j g hj hc
      rcases hat with z | z
      · have := h.gH g z
        omega
      · omega
  · rw [e1] at hp hp'
    rcases cs p hp with q | ⟨j, hj, rfl⟩ <;> rcases cs p' hp' with q' | ⟨j', hj', rfl⟩
    · rw [ext9_lo _ _ _ q] at hm
      rw [ext9_lo _ _ _ q'] at hc
      exact h.dis p p' c q q' hne hm hc
    · rw [ext9_lo _ _ _ q] at hm
      rw [ext9_hi] at hc
      have := h.bd p c q ((x p).sub (h.it p q) c hm)
      have := hb j' c hj' hc
      omega
    · rw [ext9_hi] at hm
      rw [ext9_lo _ _ _ q'] at hc
      have := h.bd p' c q' hc
      have := hb j c hj ((xu j).sub (hn j hj) c hm)
      omega
    · rw [ext9_hi] at hm hc
      exact hd j j' c hj hj' (fun e => hne (by rw [e])) hm hc
  · have e' : g = g' := by simpa [Value.ownBlock] using e
    subst e'
    rcases hat with z | z
    · exact h.xg g z
    · exact .inr (by omega)
/-- The list, as data of a call's own. -/
theorem Gl.done {W : World} {t : TypeId} {m B H X : Nat} {v : Value} {n : Nat} {x : Nat → Df} {vs : Nat → Value} {Si Mi : Nat → Nat → Prop} (h : Gl W t m B H X v n x vs Si Mi) {y : Nat → Nat → Df} (hy : ∀ i j, i < n → j < m → y i j = x (i * m + j)) : (liF n m y).Own W (fun c => c = B ∨ Iv X H c) (fun c => ∃ p, p < n * m ∧ Mi p c) v := by
  have hlt : ∀ i j, i < n → j < m → i * m + j < n * m := fun i j hi hj => by
    have : (i + 1) * m ≤ n * m := Nat.mul_le_mul_right m (by omega)
    rw [Nat.succ_mul] at this
    omega
  refine ⟨fun c ⟨p, hp, hc⟩ => .inr (h.bd p c hp ((x p).sub (h.it p hp) c hc)), ?_⟩
  rcases h.own.2 with ⟨e, hn⟩ | ⟨g, cap, cur, e, hb, hc, r⟩
  · subst hn
    exact ⟨none, 0, e, .inl rfl⟩
  · refine ⟨_, cap, e, .inr ⟨g, fun i j => Si (i * m + j), fun i j => Mi (i * m + j), rfl, (h.xg g (by rw [e]; rfl)).imp id (fun q => ⟨q, h.gH g (by rw [e]; rfl)⟩), ⟨(Array.getElem?_eq_some_iff.1 hc).1, fun i j hi hj => ⟨_, h.cell e (hlt i j hi hj), by rw [hy i j hi hj]; exact h.it _ (hlt i j hi hj)⟩, fun i j hi hj hm => ?_, fun i j i' j' hi hj hi' hj' hne c h1 h2 => ?_⟩, fun i j c hi hj q => .inr (h.bd _ c (hlt i j hi hj) q), fun i j c hi hj q => ⟨_, hlt i j hi hj, q⟩⟩⟩
    · exact h.off _ g (hlt i j hi hj) ((x (i * m + j)).sub (h.it _ (hlt i j hi hj)) g hm) (by rw [e]; rfl)
    · refine h.dis (i * m + j) (i' * m + j') c (hlt i j hi hj) (hlt i' j' hi' hj') (fun e0 => hne ?_) h1 h2
      have hm0 : 0 < m := by omega
      have d1 : (i * m + j) / m = i := by rw [Nat.mul_comm, Nat.mul_add_div hm0, Nat.div_eq_of_lt hj, Nat.add_zero]
      have d2 : (i' * m + j') / m = i' := by rw [Nat.mul_comm, Nat.mul_add_div hm0, Nat.div_eq_of_lt hj', Nat.add_zero]
      have ei : i = i' := by rw [← d1, ← d2, e0]
      subst ei
      exact ⟨rfl, by omega⟩
/-- A list of elements of a call's own, as data. -/
theorem exF_of_own {W : World} {B n : Nat} {c : Option Addr} {cap : Nat} {f g : Nat → Int} (h : OwnE W B c n f g) : (exF n f g).Own W (Iv B W.heap.size) (Iv B W.heap.size) (.slice c n cap) := by
  refine ⟨fun _ x => x, c, cap, rfl, ?_⟩
  rcases h with h0 | ⟨b, N, hh, rfl, hB, hr, q⟩
  · exact .inl h0
  · exact .inr ⟨b, rfl, ⟨hB, hr.lt⟩, .inr ⟨b, N, hh, rfl, Nat.le_refl _, hr, q⟩⟩
/-- A list of texts that grows. -/
structure Gt (W : World) (B H X : Nat) (v : Value) (n : Nat) (L : Nat → ByteArray) : Prop where
  own : W.ownsRow B 9 1 v n ((List.range n).map (sb L))
  hH : H ≤ W.heap.size
  gH : ∀ g, v.ownBlock = some g → g < H
  xg : ∀ g, v.ownBlock = some g → g = B ∨ X ≤ g
  xH : B < X ∧ X ≤ H
theorem Gt.chg {P : Nat → Prop} {W W' : World} {B H X : Nat} {v : Value} {n : Nat} {L : Nat → ByteArray} (h : Gt W B H X v n L) (k : Chg P W W') (hp : ∀ c, (c = B ∨ X ≤ c) → c < H → ¬ P c) : Gt W' B H X v n L := by
  refine ⟨⟨h.own.1, ?_⟩, Nat.le_trans h.hH k.size, h.gH, h.xg, h.xH⟩
  rcases h.own.2 with q | ⟨g, cap, cur, e, hb, hc, r⟩
  · exact .inl q
  · exact .inr ⟨g, cap, cur, e, hb, (k.block g (Array.getElem?_eq_some_iff.1 hc).1 (hp g (h.xg g (by rw [e]; rfl)) (h.gH g (by rw [e]; rfl)))).trans hc, r⟩
theorem Gt.keep {W W' : World} {B H X : Nat} {v : Value} {n : Nat} {L : Nat → ByteArray} (h : Gt W B H X v n L) (k : Chg nob W W') : Gt W' B H X v n L := h.chg k (fun _ _ _ x => x)
theorem Gt.fresh {W : World} {B H X : Nat} {L : Nat → ByteArray} (hc : W.heap[B]? = some (.cells #[] 9 (0, 0))) (hX : B < X) (hXH : X ≤ H) (hH : H ≤ W.heap.size) : Gt W B H X (.slice (some ⟨B, 0, none⟩) 0 0) 0 L := by
  refine ⟨⟨by simp, .inr ⟨B, 0, #[], rfl, Nat.le_refl _, hc, Nat.le_refl _, Nat.zero_le _, by simp, by simp⟩⟩, hH, fun g' e => ?_, fun g' e => ?_, hX, hXH⟩
  · have e' : B = g' := by simpa [Value.ownBlock] using e
    omega
  · have e' : B = g' := by simpa [Value.ownBlock] using e
    exact .inl e'.symm
theorem Gt.top {W : World} {B H H' X : Nat} {v : Value} {n : Nat} {L : Nat → ByteArray} (h : Gt W B H X v n L) (l : H ≤ H') (l' : H' ≤ W.heap.size) : Gt W B H' X v n L :=
  ⟨h.own, l', fun g e => Nat.lt_of_lt_of_le (h.gH g e) l, h.xg, ⟨h.xH.1, Nat.le_trans h.xH.2 l⟩⟩
theorem Gt.step {W W' : World} {B H X : Nat} {v : Value} {n : Nat} {L : Nat → ByteArray} (h : Gt W B H X v n L) {g cap : Nat} (s : ByteArray)
    (ho : W'.ownsRow B 9 1 (.slice (some ⟨g, 0, none⟩) (n + 1) cap) (n + 1) ((List.range n).map (sb L) ++ [.string s])) (hg : W.grownBy W' v.ownBlock) (hat : v.ownBlock = some g ∨ g = W.heap.size) (hlt : g < W'.heap.size) :
    Gt W' B W'.heap.size X (.slice (some ⟨g, 0, none⟩) (n + 1) cap) (n + 1) (ext9 n L (fun _ => s)) := by
  have k : Chg (fun y => v.ownBlock = some y) W W' := (Chg.refl _ W).grown hg (fun b e _ => e)
  have hs := k.size
  have hH := h.hH
  have hX := h.xH
  have em : (List.range n).map (sb L) ++ [.string s] = (List.range (n + 1)).map (sb (ext9 n L (fun _ => s))) := by
    have q := ext9_map n 1 (sb L) (fun _ => .string s)
    rw [show (List.range 1).map (fun _ => (Value.string s)) = [.string s] from rfl] at q
    rw [q]
    refine List.map_congr_left (fun p _ => ?_)
    unfold ext9 sb
    by_cases e : p < n
    · simp only [e, if_true]
    · simp only [e, if_false]
  refine ⟨by rw [← em]; exact ho, Nat.le_refl _, fun g' e => ?_, fun g' e => ?_, by omega⟩
  · have e' : g = g' := by simpa [Value.ownBlock] using e
    omega
  · have e' : g = g' := by simpa [Value.ownBlock] using e
    subst e'
    rcases hat with z | z
    · exact h.xg g z
    · exact .inr (by omega)
theorem Gt.congr {W : World} {B H X : Nat} {v : Value} {n : Nat} {L L' : Nat → ByteArray} (h : Gt W B H X v n L) (e : ∀ i, i < n → L' i = L i) : Gt W B H X v n L' :=
  ⟨by rw [show (List.range n).map (sb L') = (List.range n).map (sb L) from List.map_congr_left (fun p hp => by unfold sb; rw [e p (List.mem_range.1 hp)])]; exact h.own, h.hH, h.gH, h.xg, h.xH⟩
theorem Gt.done {W : World} {B H X : Nat} {v : Value} {n : Nat} {L : Nat → ByteArray} (h : Gt W B H X v n L) : (txF n L).Own W (fun c => c = B ∨ Iv X H c) (fun c => v.ownBlock = some c) v := by
  obtain ⟨c, cap, e, q⟩ := own_slice h.own
  refine ⟨fun b hb => ?_, c, cap, e, ?_⟩
  · rcases h.own.2 with ⟨e', _⟩ | ⟨g, cap', cur, e', hB, _⟩
    · rw [e'] at hb
      cases hb
    · have : g = b := by rw [e'] at hb; simpa [Value.ownBlock] using hb
      subst this
      exact (h.xg g (by rw [e']; rfl)).imp id (fun q => ⟨q, h.gH g (by rw [e']; rfl)⟩)
  · rcases q with q | ⟨b, ec, h1, h2, hw⟩
    · exact .inl q
    · exact .inr ⟨b, ec, by rw [e, ec]; rfl, hw⟩

end Go.Proofs.YtppiilbcnkphbaaGreat

namespace Go.Proofs.YtppiilbcnkphbaaGreat
open Go.ChangeShapes Go.WideShapes Go.ChangeAt Go.RowKit
set_option linter.unusedVariables false
set_option maxRecDepth 100000
set_option linter.unusedSimpArgs false

/-- ReadOpening's code; the opening that is told. -/
def roc (n : Nat) (z : Nat → Int) (v r q g : Int) : Int := if 65536 < n then 2 else if stb r q g then (if vrB v then (if (n : Int) = osn v r q ∧ ook (rdO z v.toNat r.toNat q.toNat 0) v r q g = true then 0 else 3) else 4) else 1
def noO : OD := { nr := 0, rl := fun _ => 0, rf := fun _ _ => 0, rg := fun _ _ => 0, nt := 0, ts := fun _ => ⟨#[]⟩, la := 0, lb := 0, no := 0, nq := 0, q := fun _ => { np := 0, f := fun _ => 0, g := fun _ => 0, nq := 0, l := fun _ => 0, T := fun _ _ => ⟨#[]⟩ } }
def rov (n : Nat) (z : Nat → Int) (v r q g : Int) : OD := if roc n z v r q g = 0 then rdO z v.toNat r.toNat q.toNat 0 else noO
/-- Where an opening's lists lie. -/
structure OA where
  cR : Option Addr
  pR : Nat
  cT : Option Addr
  pT : Nat
  cQ : Option Addr
  pQ : Nat
/-- An opening of a call's own and a code. -/
def RoAns (w : World) (d : OD) (code : Int) (e : Ending) (w' : World) : Prop :=
  ∃ a : OA, e = .returned (.tuple #[.agg #[.slice a.cR d.nr a.pR, .slice a.cT d.nt a.pT, .int .i64 d.la, .int .i64 d.lb, .int .i64 d.no, .slice a.cQ d.nq a.pQ], .int .i64 code]) ∧ OpF w' (Iv w.heap.size w'.heap.size) d a.cR a.pR a.cT a.pT a.cQ a.pQ ∧ Chg nob w w'
theorem OpF.none9 (w : World) (S : Nat → Prop) : OpF w S noO none 0 none 0 none 0 := by
  refine ⟨fun _ => False, fun _ => False, fun _ => False, fun _ => False, fun _ => False, fun _ => False, ⟨fun _ x => x, _, _, rfl, .inl rfl⟩, ⟨fun _ x => x, _, _, rfl, .inl rfl⟩, ⟨fun _ x => x, _, _, rfl, .inl rfl⟩, fun c hc => ?_, fun c hc => absurd hc (fun x => x), fun c hc => absurd hc (fun x => x), fun c hc => absurd hc (fun x => x)⟩
  rcases hc with x | x | x <;> exact x.elim
theorem RoAns.no {w w' : World} {n : Nat} {z : Nat → Int} {v r q g code : Int} {e : Ending} (hb : roc n z v r q g = code) (hc : code ≠ 0) (h : e = .returned (.tuple #[.agg #[.slice none 0 0, .slice none 0 0, .int .i64 0, .int .i64 0, .int .i64 0, .slice none 0 0], .int .i64 code])) (k : Chg nob w w') : RoAns w (rov n z v r q g) (roc n z v r q g) e w' := by
  have e1 : rov n z v r q g = noO := by unfold rov; rw [if_neg (by rw [hb]; exact hc)]
  rw [e1, hb]
  exact ⟨⟨none, 0, none, 0, none, 0⟩, h, OpF.none9 _ _, k⟩


end Go.Proofs.YtppiilbcnkphbaaGreat

namespace Go.Proofs.YtppiilbcnkphbaaGreat
open Go.ChangeShapes Go.WideShapes Go.ChangeAt Go.RowKit
set_option linter.unusedVariables false
set_option maxRecDepth 100000
set_option linter.unusedSimpArgs false

/-- The text's block and a row's own. -/
def PR9 (gx : Nat) (v : Value) (y : Nat) : Prop := y = gx ∨ v.ownBlock = some y
theorem Chg.nearP {P Q : Nat → Prop} {w W W' : World} (h : Chg P w W) (k : Chg Q W W') (hp : ∀ i, Q i → P i ∨ w.heap.size ≤ i) : Chg P w W' :=
  ⟨k.os.trans h.os, k.tape.trans h.tape, k.output.trans h.output, Nat.le_trans h.size k.size, fun i hi hn => (k.block i (Nat.lt_of_lt_of_le hi h.size) (fun x => by rcases hp i x with q | q; exact hn q; omega)).trans (h.block i hi hn)⟩
theorem new_blk (W : World) (a : Array Value) (t : TypeId) : (W.alloc (.cells a t)).heap[W.heap.size]? = some (.cells a t (0, 0)) := Array.getElem?_push_size
/-- An empty block. -/
def Emp (W : World) (b : Nat) (t : TypeId) : Prop := W.heap[b]? = some (.cells #[] t (0, 0))
theorem Emp.chg {P : Nat → Prop} {W W' : World} {b : Nat} {t : TypeId} (h : Emp W b t) (k : Chg P W W') (hp : ¬ P b) : Emp W' b t := (k.block b (Array.getElem?_eq_some_iff.1 h).1 hp).trans h
theorem oneS9 (s : ByteArray) : ∀ u ∈ ([.string s] : List Value), u.oneCell' = true := by
  intro u hu
  simp at hu
  subst hu
  rfl
theorem tz9_of {s : ByteArray} {z : Nat → Int} {k i : Nat} (h : s.size = 32) (e : ∀ j, j < 32 → sz s j = z (k + 32 * i + j)) : s = tz9 z k i := by
  have hl : s.data.toList.length = 32 := by rw [← h]; rfl
  have q : s.data.toList = (tz9 z k i).data.toList := by
    refine List.ext_getElem? (fun j => ?_)
    unfold tz9
    rw [strOfNums_data, List.getElem?_map, List.getElem?_map]
    by_cases hj : j < 32
    · have a := e j hj
      unfold sz at a
      have hj' : j < s.data.toList.length := by omega
      rw [List.getElem?_eq_getElem hj', Option.getD_some] at a
      rw [List.getElem?_eq_getElem hj', List.getElem?_range hj]
      simp only [Option.map_some]
      show some _ = some (UInt8.ofNat (z (k + 32 * i + j)).toNat)
      rw [← a, Int.toNat_natCast, UInt8.ofNat_toNat]
    · rw [List.getElem?_eq_none (by omega), List.getElem?_eq_none (by rw [List.length_range]; omega)]
      rfl
  exact ByteArray.ext (Array.toList_inj.1 q)
theorem ext9_at {α : Type} (k : Nat) (x : Nat → α) (y : α) : ext9 k x (fun _ => y) k = y := by
  have h := ext9_hi k x (fun _ => y) 0
  rwa [Nat.add_zero] at h
theorem ext9_tx (k : Nat) (L : Nat → Nat) (T : Nat → Nat → ByteArray) (l : Nat) (T1 : Nat → ByteArray) (p : Nat) : txF (ext9 k L (fun _ => l) p) (ext9 k T (fun _ => T1) p) = ext9 (k * 1) (fun p => txF (L p) (T p)) (fun _ => txF l T1) p := by
  unfold ext9
  rw [Nat.mul_one]
  by_cases e : p < k
  · simp only [e, if_true]
  · simp only [e, if_false]
theorem msr9 {m N : Nat} (h : m < N) : (((N - (m + 1) : Nat) : Int)).toNat < (((N - m : Nat) : Int)).toNat := by omega
theorem infoSS9 : (Tryz.prog.info? 32).map (fun i => (i.zero, i.size, i.bytes)) = some (some (.slice none 0 0), 1, 24) := by kernel_rfl
theorem ext9_ex (k : Nat) (L : Nat → Nat) (f g : Nat → Nat → Int) (l : Nat) (f1 g1 : Nat → Int) (p : Nat) : exF (ext9 k L (fun _ => l) p) (ext9 k f (fun _ => f1) p) (ext9 k g (fun _ => g1) p) = ext9 (k * 1) (fun p => exF (L p) (f p) (g p)) (fun _ => exF l f1 g1) p := by
  unfold ext9
  rw [Nat.mul_one]
  by_cases e : p < k
  · simp only [e, if_true]
  · simp only [e, if_false]
/-- Two queries are the same. -/
def QE9 (a b : QD) : Prop := a.np = b.np ∧ (∀ i, i < b.np → a.f i = b.f i ∧ a.g i = b.g i) ∧ a.nq = b.nq ∧ ∀ y, y < b.nq → a.l y = b.l y ∧ ∀ m, m < b.l y → a.T y m = b.T y m
def OE9 (a b : OD) : Prop := a.nr = b.nr ∧ (∀ i, i < b.nr → a.rl i = b.rl i ∧ ∀ j, j < b.rl i → a.rf i j = b.rf i j ∧ a.rg i j = b.rg i j) ∧ a.nt = b.nt ∧ (∀ i, i < b.nt → a.ts i = b.ts i) ∧ a.la = b.la ∧ a.lb = b.lb ∧ a.no = b.no ∧ a.nq = b.nq ∧ ∀ i, i < b.nq → QE9 (a.q i) (b.q i)
def mkQ9 (lp : Nat) (fp gp : Nat → Int) (v : Nat) (lP : Nat → Nat) (TP : Nat → Nat → ByteArray) : QD := { np := lp, f := fp, g := gp, nq := v, l := lP, T := TP }
/-- What is read, off a cut: an opening of the call's own; where all went well it is the one of the bytes. -/
def CrA (w : World) (gx n k v r q : Nat) (z : Nat → Int) (G : Prop) (ok : Bool) (e : Ending) (w' : World) : Prop := ∃ (d : OD) (a : OA) (ok' : Bool), e = .returned (.agg #[.slice a.cR d.nr a.pR, .slice a.cT d.nt a.pT, .int .i64 d.la, .int .i64 d.lb, .int .i64 d.no, .slice a.cQ d.nq a.pQ]) ∧ OpF w' (Iv w.heap.size w'.heap.size) d a.cR a.pR a.cT a.pT a.cQ a.pQ ∧ CtI w' gx n (k + osN v r q) z G ok' ∧ Chg (RG gx) w w' ∧ (ok' = true → ok = true ∧ OE9 d (rdO z v r q k)) ∧ d.nr = v ∧ d.nt = v - 1 ∧ d.nq = q
theorem newsQ9 (W : World) (a b : Value) (T : TypeId) : ∀ j u, ([a, b] : List Value)[j]? = some u → (W.alloc (.cells #[a, b] T)).cell? ((⟨W.heap.size, 0, none⟩ : Addr).add j) = some u := by
  intro j u hj
  match j, hj with
  | 0, hj => simp at hj; subst hj; simp [Addr.add]
  | 1, hj => simp at hj; subst hj; simp [Addr.add]
  | j + 2, hj => simp at hj
theorem oneQ9 (a b : Option Addr) (n m c d : Nat) : ∀ u ∈ ([.slice a n c, .slice b m d] : List Value), u.oneCell' = true := by
  intro u hu
  simp at hu
  rcases hu with rfl | rfl <;> rfl
def qx9 (X : Nat → QD) (p : Nat) : Df := if p % 2 = 0 then (X (p / 2)).Pf else (X (p / 2)).Sf
theorem qx9_at (X : Nat → QD) (i j : Nat) (h : j < 2) : (if j = 0 then (X i).Pf else (X i).Sf) = qx9 X (i * 2 + j) := by
  unfold qx9
  rw [show (i * 2 + j) / 2 = i by omega]
  by_cases e : j = 0
  · rw [if_pos e, if_pos (by omega)]
  · rw [if_neg e, if_neg (by omega)]
theorem ext9_q (j : Nat) (X : Nat → QD) (x : QD) (p : Nat) (hp : p < (j + 1) * 2) : qx9 (ext9 j X (fun _ => x)) p = ext9 (j * 2) (qx9 X) (fun jj => if jj = 0 then x.Pf else x.Sf) p := by
  unfold qx9 ext9
  by_cases e : p < j * 2
  · have h1 : p / 2 < j := by omega
    simp only [e, h1, if_true]
  · have h1 : ¬ p / 2 < j := by omega
    simp only [e, h1, if_false]
    by_cases h2 : p % 2 = 0
    · rw [if_pos h2, if_pos (by omega)]
    · rw [if_neg h2, if_neg (by omega)]
/-- What the reader of an opening needs where all goes well. -/
def RdG (n k v r q : Nat) (z : Nat → Int) : Prop :=
  k + osN v r q ≤ n ∧ (∀ i, i < v → okP (rf (zk z (k + 24 * i))) (rg (zk z (k + 24 * i))) 3 = true) ∧ okP (rf (zk z (k + oL9 v))) (rg (zk z (k + oL9 v))) 1 = true ∧ ∀ i, i < q → okP (rf (zk z (k + oL9 v + 12 + i * qsz v r))) (rg (zk z (k + oL9 v + 12 + i * qsz v r))) (2 * v) = true
set_option maxHeartbeats 8000000 in
theorem l09Read_any (gx n k v r q : Nat) (g : Int) (z : Nat → Int) (G : Prop) (ok : Bool) (w : World) (h : Hid (CtI w gx n k z G ok)) (hG : Hid (G → RdG n k v r q z)) (v0 : 1 ≤ v) (v1 : v ≤ 6) (r0 : 1 ≤ r) (r1 : r ≤ 3) (q0 : 1 ≤ q) (q1 : q ≤ 8) :
    Calls Tryz.prog 38 #[.pointer (some ⟨gx, 0, none⟩), .int .i64 (v : Int), .agg #[.int .i64 (r : Int), .int .i64 (q : Int), .int .i64 g]] w fun e w' => CrA w gx n k v r q z G ok e w' := by
  have hgl := h.out.lt
  have K0 := hik ((((((((Chg.refl (RG gx) w).alloc (.cells #[.int .i64 (r : Int), .int .i64 (q : Int), .int .i64 g] 45)).alloc (.cells #[.slice none 0 0, .slice none 0 0, .int .i64 0, .int .i64 0, .int .i64 0, .slice none 0 0] 35)).alloc (.cells #[] 81)).alloc (.cells #[] 9)).alloc (.cells #[] 110)).alloc (.cells #[.slice (some ⟨w.heap.size + 1 + 1, 0, none⟩) 0 0, .slice (some ⟨w.heap.size + 1 + 1 + 1, 0, none⟩) 0 0, .int .i64 0, .int .i64 0, .int .i64 0, .slice (some ⟨w.heap.size + 1 + 1 + 1 + 1, 0, none⟩) 0 0] 35)))
  have KN := (((((Chg.refl nob (w.alloc (.cells #[.int .i64 (r : Int), .int .i64 (q : Int), .int .i64 g] 45))).alloc (.cells #[.slice none 0 0, .slice none 0 0, .int .i64 0, .int .i64 0, .int .i64 0, .slice none 0 0] 35)).alloc (.cells #[] 81)).alloc (.cells #[] 9)).alloc (.cells #[] 110)).alloc (.cells #[.slice (some ⟨w.heap.size + 1 + 1, 0, none⟩) 0 0, .slice (some ⟨w.heap.size + 1 + 1 + 1, 0, none⟩) 0 0, .int .i64 0, .int .i64 0, .int .i64 0, .slice (some ⟨w.heap.size + 1 + 1 + 1 + 1, 0, none⟩) 0 0] 35)
  have RT := hik (rowIs_keep (rowN_new w 3 #[.int .i64 (r : Int), .int .i64 (q : Int), .int .i64 g] 45 rfl) KN)
  clear KN
  have KN := ((((Chg.refl nob ((w.alloc (.cells #[.int .i64 (r : Int), .int .i64 (q : Int), .int .i64 g] 45)).alloc (.cells #[.slice none 0 0, .slice none 0 0, .int .i64 0, .int .i64 0, .int .i64 0, .slice none 0 0] 35))).alloc (.cells #[] 81)).alloc (.cells #[] 9)).alloc (.cells #[] 110)).alloc (.cells #[.slice (some ⟨w.heap.size + 1 + 1, 0, none⟩) 0 0, .slice (some ⟨w.heap.size + 1 + 1 + 1, 0, none⟩) 0 0, .int .i64 0, .int .i64 0, .int .i64 0, .slice (some ⟨w.heap.size + 1 + 1 + 1 + 1, 0, none⟩) 0 0] 35)
  have RX := hik (rowIs_keep (rowN_new (w.alloc (.cells #[.int .i64 (r : Int), .int .i64 (q : Int), .int .i64 g] 45)) 6 #[.slice none 0 0, .slice none 0 0, .int .i64 0, .int .i64 0, .int .i64 0, .slice none 0 0] 35 rfl) KN)
  clear KN
  have X1 := hik ((show Emp (((w.alloc (.cells #[.int .i64 (r : Int), .int .i64 (q : Int), .int .i64 g] 45)).alloc (.cells #[.slice none 0 0, .slice none 0 0, .int .i64 0, .int .i64 0, .int .i64 0, .slice none 0 0] 35)).alloc (.cells #[] 81)) ((w.alloc (.cells #[.int .i64 (r : Int), .int .i64 (q : Int), .int .i64 g] 45)).alloc (.cells #[.slice none 0 0, .slice none 0 0, .int .i64 0, .int .i64 0, .int .i64 0, .slice none 0 0] 35)).heap.size 81 from new_blk _ _ _).chg ((((Chg.refl nob (((w.alloc (.cells #[.int .i64 (r : Int), .int .i64 (q : Int), .int .i64 g] 45)).alloc (.cells #[.slice none 0 0, .slice none 0 0, .int .i64 0, .int .i64 0, .int .i64 0, .slice none 0 0] 35)).alloc (.cells #[] 81))).alloc (.cells #[] 9)).alloc (.cells #[] 110)).alloc (.cells #[.slice (some ⟨w.heap.size + 1 + 1, 0, none⟩) 0 0, .slice (some ⟨w.heap.size + 1 + 1 + 1, 0, none⟩) 0 0, .int .i64 0, .int .i64 0, .int .i64 0, .slice (some ⟨w.heap.size + 1 + 1 + 1 + 1, 0, none⟩) 0 0] 35)) (fun x => x))
  have X2 := hik ((show Emp ((((w.alloc (.cells #[.int .i64 (r : Int), .int .i64 (q : Int), .int .i64 g] 45)).alloc (.cells #[.slice none 0 0, .slice none 0 0, .int .i64 0, .int .i64 0, .int .i64 0, .slice none 0 0] 35)).alloc (.cells #[] 81)).alloc (.cells #[] 9)) (((w.alloc (.cells #[.int .i64 (r : Int), .int .i64 (q : Int), .int .i64 g] 45)).alloc (.cells #[.slice none 0 0, .slice none 0 0, .int .i64 0, .int .i64 0, .int .i64 0, .slice none 0 0] 35)).alloc (.cells #[] 81)).heap.size 9 from new_blk _ _ _).chg (((Chg.refl nob ((((w.alloc (.cells #[.int .i64 (r : Int), .int .i64 (q : Int), .int .i64 g] 45)).alloc (.cells #[.slice none 0 0, .slice none 0 0, .int .i64 0, .int .i64 0, .int .i64 0, .slice none 0 0] 35)).alloc (.cells #[] 81)).alloc (.cells #[] 9))).alloc (.cells #[] 110)).alloc (.cells #[.slice (some ⟨w.heap.size + 1 + 1, 0, none⟩) 0 0, .slice (some ⟨w.heap.size + 1 + 1 + 1, 0, none⟩) 0 0, .int .i64 0, .int .i64 0, .int .i64 0, .slice (some ⟨w.heap.size + 1 + 1 + 1 + 1, 0, none⟩) 0 0] 35)) (fun x => x))
  have X3 := hik ((show Emp (((((w.alloc (.cells #[.int .i64 (r : Int), .int .i64 (q : Int), .int .i64 g] 45)).alloc (.cells #[.slice none 0 0, .slice none 0 0, .int .i64 0, .int .i64 0, .int .i64 0, .slice none 0 0] 35)).alloc (.cells #[] 81)).alloc (.cells #[] 9)).alloc (.cells #[] 110)) ((((w.alloc (.cells #[.int .i64 (r : Int), .int .i64 (q : Int), .int .i64 g] 45)).alloc (.cells #[.slice none 0 0, .slice none 0 0, .int .i64 0, .int .i64 0, .int .i64 0, .slice none 0 0] 35)).alloc (.cells #[] 81)).alloc (.cells #[] 9)).heap.size 110 from new_blk _ _ _).chg ((Chg.refl nob (((((w.alloc (.cells #[.int .i64 (r : Int), .int .i64 (q : Int), .int .i64 g] 45)).alloc (.cells #[.slice none 0 0, .slice none 0 0, .int .i64 0, .int .i64 0, .int .i64 0, .slice none 0 0] 35)).alloc (.cells #[] 81)).alloc (.cells #[] 9)).alloc (.cells #[] 110))).alloc (.cells #[.slice (some ⟨w.heap.size + 1 + 1, 0, none⟩) 0 0, .slice (some ⟨w.heap.size + 1 + 1 + 1, 0, none⟩) 0 0, .int .i64 0, .int .i64 0, .int .i64 0, .slice (some ⟨w.heap.size + 1 + 1 + 1 + 1, 0, none⟩) 0 0] 35)) (fun x => x))
  have RO := hik (rowN_new (((((w.alloc (.cells #[.int .i64 (r : Int), .int .i64 (q : Int), .int .i64 g] 45)).alloc (.cells #[.slice none 0 0, .slice none 0 0, .int .i64 0, .int .i64 0, .int .i64 0, .slice none 0 0] 35)).alloc (.cells #[] 81)).alloc (.cells #[] 9)).alloc (.cells #[] 110)) 6 #[.slice (some ⟨w.heap.size + 1 + 1, 0, none⟩) 0 0, .slice (some ⟨w.heap.size + 1 + 1 + 1, 0, none⟩) 0 0, .int .i64 0, .int .i64 0, .int .i64 0, .slice (some ⟨w.heap.size + 1 + 1 + 1 + 1, 0, none⟩) 0 0] 35 rfl)
  have HC := hik (h.out.keep ((((((((Chg.refl nob w).alloc (.cells #[.int .i64 (r : Int), .int .i64 (q : Int), .int .i64 g] 45)).alloc (.cells #[.slice none 0 0, .slice none 0 0, .int .i64 0, .int .i64 0, .int .i64 0, .slice none 0 0] 35)).alloc (.cells #[] 81)).alloc (.cells #[] 9)).alloc (.cells #[] 110)).alloc (.cells #[.slice (some ⟨w.heap.size + 1 + 1, 0, none⟩) 0 0, .slice (some ⟨w.heap.size + 1 + 1 + 1, 0, none⟩) 0 0, .int .i64 0, .int .i64 0, .int .i64 0, .slice (some ⟨w.heap.size + 1 + 1 + 1 + 1, 0, none⟩) 0 0] 35))))
  have HSZ := hik (show w.heap.size + 1 + 1 + 1 + 1 + 1 + 1 = ((((((w.alloc (.cells #[.int .i64 (r : Int), .int .i64 (q : Int), .int .i64 g] 45)).alloc (.cells #[.slice none 0 0, .slice none 0 0, .int .i64 0, .int .i64 0, .int .i64 0, .slice none 0 0] 35)).alloc (.cells #[] 81)).alloc (.cells #[] 9)).alloc (.cells #[] 110)).alloc (.cells #[.slice (some ⟨w.heap.size + 1 + 1, 0, none⟩) 0 0, .slice (some ⟨w.heap.size + 1 + 1 + 1, 0, none⟩) 0 0, .int .i64 0, .int .i64 0, .int .i64 0, .slice (some ⟨w.heap.size + 1 + 1 + 1 + 1, 0, none⟩) 0 0] 35)).heap.size by simp)
  rw [asz] at RX
  simp only [asz] at X1 X2 X3 RO
  go_enter Tryz.func38, Tryz.ntmps38
  go_upto_region 2 with fail
  generalize hW : ((((((w.alloc (.cells #[.int .i64 (r : Int), .int .i64 (q : Int), .int .i64 g] 45)).alloc (.cells #[.slice none 0 0, .slice none 0 0, .int .i64 0, .int .i64 0, .int .i64 0, .slice none 0 0] 35)).alloc (.cells #[] 81)).alloc (.cells #[] 9)).alloc (.cells #[] 110)).alloc (.cells #[.slice (some ⟨w.heap.size + 1 + 1, 0, none⟩) 0 0, .slice (some ⟨w.heap.size + 1 + 1 + 1, 0, none⟩) 0 0, .int .i64 0, .int .i64 0, .int .i64 0, .slice (some ⟨w.heap.size + 1 + 1 + 1 + 1, 0, none⟩) 0 0] 35)) = W0 at K0 RT RX X1 X2 X3 RO HC HSZ ⊢
  clear hW h
  obtain ⟨b1, hb1⟩ : ∃ b, b = w.heap.size + 1 + 1 := ⟨_, rfl⟩
  obtain ⟨b2, hb2⟩ : ∃ b, b = w.heap.size + 1 + 1 + 1 := ⟨_, rfl⟩
  obtain ⟨b3, hb3⟩ : ∃ b, b = w.heap.size + 1 + 1 + 1 + 1 := ⟨_, rfl⟩
  obtain ⟨go, hgo⟩ : ∃ b, b = w.heap.size + 1 + 1 + 1 + 1 + 1 := ⟨_, rfl⟩
  rw [← hgo, ← hb3, ← hb2, ← hb1] at RO
  rw [← hb1] at X1
  rw [← hb2] at X2
  rw [← hb3] at X3
  rw [← hgo] at HSZ
  rw [← hgo, ← hb3, ← hb2, ← hb1]
  have HB := hik (show gx < w.heap.size ∧ b1 = w.heap.size + 2 ∧ b2 = w.heap.size + 3 ∧ b3 = w.heap.size + 4 ∧ go = w.heap.size + 5 by omega)
  clear hb1 hb2 hb3 hgo hgl
  have HOS := hik (show osN v r q = oL9 v + 12 + q * qsz v r ∧ oL9 v = 24 * v + 32 * (v - 1) from ⟨rfl, rfl⟩)
  obtain ⟨i1, hi, hz0, hz1, hz2⟩ := info_parts infoRow
  have HJ := hik hi
  have HJ0 := hik hz0
  have HJ1 := hik hz1
  have HJ2 := hik hz2
  clear hi hz0 hz1 hz2
  go_wp2
  go_loopw [8] (fun i W => ∃ (k' : Nat) (vR : Value) (H : Nat) (L : Nat → Nat) (f g' : Nat → Nat → Int) (vs : Nat → Value) (Si Mi : Nat → Nat → Prop) (okb : Bool), k' ≤ v ∧ i = .int .i64 (k' : Int) ∧ Hid (W.rowIs go 35 6 (fun i => (#[vR, .slice (some ⟨b2, 0, none⟩) 0 0, .int .i64 0, .int .i64 0, .int .i64 0, .slice (some ⟨b3, 0, none⟩) 0 0] : Array Value).getD i undef)) ∧ Hid (Gl W 81 1 b1 H (go + 1) vR k' (fun p => exF (L p) (f p) (g' p)) vs Si Mi) ∧ Hid (CtI W gx n (k + 24 * k') z G okb) ∧ Hid (okb = true → ok = true ∧ ∀ i, i < k' → L i = 3 ∧ ∀ j, j < 3 → f i j = rf (zk z (k + 24 * i)) j ∧ g' i j = rg (zk z (k + 24 * i)) j) ∧ Hid (W.rowIs w.heap.size 45 3 (fun i => (#[.int .i64 (r : Int), .int .i64 (q : Int), .int .i64 g] : Array Value).getD i undef)) ∧ Hid (W.rowIs (w.heap.size + 1) 35 6 (fun i => (#[.slice none 0 0, .slice none 0 0, .int .i64 0, .int .i64 0, .int .i64 0, .slice none 0 0] : Array Value).getD i undef)) ∧ Hid (Emp W b2 9) ∧ Hid (Emp W b3 110) ∧ Hid (Chg (RG gx) w W)) (fun i _ => v - (intOf i).toNat)
  case atStart => exact ⟨0, _, go + 1, fun _ => 0, fun _ _ => 0, fun _ _ => 0, _, _, _, ok, Nat.zero_le _, rfl, RO, hik (Gl.fresh (x := fun p => exF 0 (fun _ => 0) (fun _ => 0)) X1.out (by have := HB.out; omega) (Nat.le_refl _) (by have := HSZ.out; omega)), hik (by rw [Nat.mul_zero, Nat.add_zero]; exact HC.out), hik (fun e => ⟨e, fun i hi => absurd hi (by omega)⟩), RT, RX, X2, X3, K0⟩
  case round =>
    clear RO HC RT RX X1 X2 X3 K0 HSZ
    obtain ⟨k', vR, H, L, f, g', vs, Si, Mi, okb, hk, rfl, RO, GL, HC, HOK, RT, RX, X2, X3, K0⟩ := hrel
    rename World => wi
    by_cases hlt : k' < v
    · have hk1 : (k' : Int) < (v : Int) := by omega
      have xo0 : wi.cell? ⟨go, 0, none⟩ = some vR := RO.out.cell (i := 0) (by omega)
      have hPgo : ¬ PR9 gx vR go := fun e => by
        rcases e with e | e
        · have := HB.out; omega
        · have := GL.out.xg go e; have := HB.out; omega
      have HPB := hik (show ∀ c, PR9 gx vR c → c = gx ∨ c = b1 ∨ go + 1 ≤ c from fun c e => by
        rcases e with e | e
        · exact .inl e
        · exact .inr (GL.out.xg c e))
      go_wp2
      have KW := hik ((Chg.refl (PR9 gx vR) wi).drew1)
      have SA := hik (fun (WW : World) (kW : Chg (PR9 gx vR) wi WW) => (show (WW.cell? ⟨go, 0, none⟩ = some (vR)) from kW.seeP xo0 hPgo))
      refine wp_regionL (L := 7) (S := fun w' => w'.cell? ⟨go, 0, none⟩ = some (vR)) (by kernel_rfl) (SA.out _ KW.out) (fun hHeld => ?_)
      refine wpAnyL_take (i := 0) (v := ?_) rfl (by kernel_rfl) (by kernel_rfl) (by kernel_rfl) (fun _ _ _ h => h) (by rfl) (by kernel_rfl) (by kernel_rfl) (Or.inl ⟨by rfl, ?_⟩) (by assumption) ?_
      rotate_left 1
      · (intro w' hSw; (try dsimp only at hSw); go_simp; try with_reducible rfl)
      try simp only [Act.put, List.setIfInBounds_toArray, List.set_cons_zero, List.set_cons_succ, List.getElem_toArray, List.getElem_cons_zero, List.getElem_cons_succ]
      refine wpAnyL_take (i := 1) (v := ?_) rfl (by kernel_rfl) (by kernel_rfl) (by kernel_rfl) (fun _ _ _ h => h) (by rfl) (by kernel_rfl) (by kernel_rfl) (Or.inl ⟨by rfl, ?_⟩) (by assumption) ?_
      rotate_left 1
      · (intro w' hSw; (try dsimp only at hSw); go_simp; try with_reducible rfl)
      try simp only [Act.put, List.setIfInBounds_toArray, List.set_cons_zero, List.set_cons_succ, List.getElem_toArray, List.getElem_cons_zero, List.getElem_cons_succ]
      refine wpAnyL_take (i := 2) (v := ?_) rfl (by kernel_rfl) (by kernel_rfl) (by kernel_rfl) (fun _ _ _ h => h) (by rfl) (by kernel_rfl) (by kernel_rfl) (Or.inl ⟨by rfl, ?_⟩) (by assumption) ?_
      rotate_left 1
      · (intro w' hSw; (try dsimp only at hSw); go_simp; try with_reducible rfl)
      try simp only [Act.put, List.setIfInBounds_toArray, List.set_cons_zero, List.set_cons_succ, List.getElem_toArray, List.getElem_cons_zero, List.getElem_cons_succ]
      refine wpAnyL_ready (rs := [3]) (by kernel_rfl) (by simp) ?_
      refine AllReadyL.cons rfl (fun K hK => ?_) AllReadyL.nil
      refine stepL_callN 36 #[.tmp 26, .const (.int .i64 3)] #[77, 3] (by rfl) (by rfl) #[.pointer (some ⟨gx, 0, none⟩), .int .i64 3] (by simp only [List.map_toArray, List.map_cons, List.map_nil] <;> rfl) (run_go Tryz.func36 (by kernel_rfl) (by kernel_rfl) _ _) (cutExts_any gx n (k + 24 * k') 3 z G okb _ (hik (HC.out.keep ((Chg.refl nob wi).drew1))) (by omega) (hik (fun u => by have a := hG.out u; have a1 := a.1; have a2 := HOS.out; exact ⟨by omega, a.2.1 k' hlt⟩))) ?_
      rintro e U1 ⟨c1, l1, p1, f1, g1, ok1, he, hl1, ho1, hok1, hc1, kk⟩
      have HS0 := hik kk.size
      have GL1 := hik (GL.out.chg (((Chg.refl (RG gx) wi).drew1).trans kk) (fun c hc hl e => by have e' : c = gx := e; have := HB.out; omega))
      have HL1 := hik hl1
      have HO1 := hik ho1
      have HOK1 := hik hok1
      have HC1 := hik hc1
      replace kk : Chg (PR9 gx vR) _ _ := kk.mono (fun i _ m => .inl m)
      clear hl1 ho1 hok1 hc1
      refine ⟨_, he, ?_⟩
      replace KW := hik (KW.out.trans kk)
      refine hK.out _ _ (SA.out _ KW.out) (fun hHeld => ?_)
      clear hK K
      try simp only [Act.put, List.setIfInBounds_toArray, List.set_cons_zero, List.set_cons_succ, List.getElem_toArray, List.getElem_cons_zero, List.getElem_cons_succ]
      clear he kk
      refine wpAnyL_ready (rs := [4]) (by kernel_rfl) (by simp) ?_
      refine AllReadyL.cons rfl (fun K hK => ?_) AllReadyL.nil
      simp only [List.getElem_toArray, List.getElem_cons_zero, List.getElem_cons_succ]
      go_simp
      replace KW := hik (KW.out.alloc (.cells #[.slice c1 l1 p1] 81))
      replace HO1 := hik (HO1.out.keep ((Chg.refl nob _).alloc (.cells #[.slice c1 l1 p1] 81)))
      replace HC1 := hik (HC1.out.keep ((Chg.refl nob _).alloc (.cells #[.slice c1 l1 p1] 81)))
      replace GL1 := hik (GL1.out.keep ((Chg.refl nob _).alloc (.cells #[.slice c1 l1 p1] 81)))
      refine hK.out _ _ (SA.out _ KW.out) (fun hHeld => ?_)
      clear hK K
      try simp only [Act.put, List.setIfInBounds_toArray, List.set_cons_zero, List.set_cons_succ, List.getElem_toArray, List.getElem_cons_zero, List.getElem_cons_succ]
      refine wpAnyL_ready (rs := [5]) (by kernel_rfl) (by simp) ?_
      refine AllReadyL.cons rfl (fun K hK => ?_) AllReadyL.nil
      refine step_append_lies _ (by rfl) (.tmp 25) (.tmp 28) 29 (by rfl) b1 81 i1 (.slice none 0 0) 1 24 Tryz.underlying29 HJ.out HJ0.out HJ1.out HJ2.out rfl (by decide) vR k' _ (by rfl) (GL1.out.own) ⟨_, 0, none⟩ 1 1 [.slice c1 l1 p1] (by rfl) rfl (rwNews _ _ _) (rwOne _ _ _) (by decide) (by unfold maxLen; omega) (by omega) (by have := GL1.out.hH; have := GL1.out.xH; omega) _ rfl ?_
      intro g7 cp7 w7 o7 hg7 hat7 hlt7
      have hsu : wi.heap.size ≤ U1.heap.size ∧ ((World.alloc U1 (.cells #[.slice c1 l1 p1] 81))).heap.size = U1.heap.size + 1 := ⟨HS0.out, by simp⟩
      have GLN := hik ((GL1.out.step (fun _ => exF l1 f1 g1) (fun _ => .slice c1 l1 p1) (fun _ => Iv wi.heap.size ((World.alloc U1 (.cells #[.slice c1 l1 p1] 81))).heap.size) (fun _ => Iv wi.heap.size ((World.alloc U1 (.cells #[.slice c1 l1 p1] 81))).heap.size) o7 hg7 hat7 hlt7 (by have := GL1.out.xH; omega) (fun j _ => exF_of_own HO1.out) (fun j c _ hc => by have := GL.out.hH; unfold Iv at hc; omega) (fun j j' c hj hj' hne => absurd hne (by omega))).congr (fun p _ => ext9_ex k' L f g' l1 f1 g1 p))
      replace KW : Hid (Chg (PR9 gx vR) wi w7) := hik (KW.out.grown hg7 (fun b e _ => .inr e))
      have HC7 := hik (HC1.out.chg ((Chg.refl (fun y => vR.ownBlock = some y) _).grown hg7 (fun b e _ => e)) (fun e => by have := GL.out.xg gx e; have := HB.out; omega))
      have HG7 := hik (show g7 = b1 ∨ go + 1 ≤ g7 from GLN.out.xg g7 rfl)
      clear o7 hg7 hat7 hlt7 hsu GL1 HC1 HO1
      refine hK.out _ _ (SA.out _ KW.out) (fun hHeld => ?_)
      clear hK K
      try simp only [Act.put, List.setIfInBounds_toArray, List.set_cons_zero, List.set_cons_succ, List.getElem_toArray, List.getElem_cons_zero, List.getElem_cons_succ]
      refine wpAnyL_take (i := 6) (v := ?_) rfl (by kernel_rfl) (by kernel_rfl) (by kernel_rfl) (fun _ _ _ h => h) (by rfl) (by kernel_rfl) (by kernel_rfl) (Or.inl ⟨by rfl, ?_⟩) (by assumption) ?_
      rotate_left 1
      · (intro w' hSw; (try dsimp only at hSw); go_simp; try with_reducible rfl)
      try simp only [Act.put, List.setIfInBounds_toArray, List.set_cons_zero, List.set_cons_succ, List.getElem_toArray, List.getElem_cons_zero, List.getElem_cons_succ]
      refine wpAnyL_ready (rs := [7]) (by kernel_rfl) (by simp) ?_
      refine AllReadyL.last rfl (by kernel_rfl) (fun K hK => ?_)
      have y0 : w7.cell? ⟨go, 0, none⟩ = some vR := KW.out.seeP xo0 hPgo
      have y1 : w7.frozen? ⟨go, 0, none⟩ = false := (rowIs_chg RO.out KW.out hPgo).frozen 0
      have y2 : go < w7.heap.size := (rowIs_chg RO.out KW.out hPgo).lt
      simp only [List.getElem_toArray, List.getElem_cons_zero, List.getElem_cons_succ]
      go_simp
      refine hK.out _ _ ?_
      clear hK K
      try simp only [Act.put, List.setIfInBounds_toArray, List.set_cons_zero, List.set_cons_succ, List.getElem_toArray, List.getElem_cons_zero, List.getElem_cons_succ]
      clear y0 y1 y2
      refine wpAnyL_done (by kernel_rfl) ?_ _
      have kS := (Chg.refl (fun b => b = go) w7).setCell (p := ⟨go, 0, none⟩) (fun _ => rfl) (.slice (some ⟨g7, 0, none⟩) (k' + 1) cp7)
      have GLF := hik ((GLN.out.chg kS (fun c hc hl e => by have e' : c = go := e; have := HB.out; omega)))
      have ROF := hik (((rowIs_chg RO.out KW.out hPgo).set 0 (.slice (some ⟨g7, 0, none⟩) (k' + 1) cp7)).congr (g := (fun i => (#[(.slice (some ⟨g7, 0, none⟩) (k' + 1) cp7), .slice (some ⟨b2, 0, none⟩) 0 0, .int .i64 0, .int .i64 0, .int .i64 0, .slice (some ⟨b3, 0, none⟩) 0 0] : Array Value).getD i undef)) (fun i hi => by rcases (show i = 0 ∨ i = 1 ∨ i = 2 ∨ i = 3 ∨ i = 4 ∨ i = 5 by omega) with rfl | rfl | rfl | rfl | rfl | rfl <;> rfl))
      have HCF := hik (show CtI (w7.setCell ⟨go, 0, none⟩ (.slice (some ⟨g7, 0, none⟩) (k' + 1) cp7)) gx n (k + 24 * (k' + 1)) z G ok1 from by rw [show k + 24 * (k' + 1) = k + 24 * k' + 8 * 3 by omega]; exact HC7.out.chg kS (fun e => by have e' : gx = go := e; have := HB.out; omega))
      have HOKF := hik (show ok1 = true → ok = true ∧ ∀ i, i < k' + 1 → ext9 k' L (fun _ => l1) i = 3 ∧ ∀ j, j < 3 → ext9 k' f (fun _ => f1) i j = rf (zk z (k + 24 * i)) j ∧ ext9 k' g' (fun _ => g1) i j = rg (zk z (k + 24 * i)) j from fun u => by
        have a := HOK1.out u
        have b := HOK.out a.1
        refine ⟨b.1, fun i hi => ?_⟩
        by_cases e : i < k'
        · rw [ext9_lo _ _ _ e, ext9_lo _ _ _ e, ext9_lo _ _ _ e]
          exact b.2 i e
        · obtain rfl : i = k' := by omega
          have h0 := ext9_hi i L (fun _ => l1) 0
          have h1 := ext9_hi i f (fun _ => f1) 0
          have h2 := ext9_hi i g' (fun _ => g1) 0
          rw [Nat.add_zero] at h0 h1 h2
          rw [h0, h1, h2]
          exact a.2.2)
      have RTF := hik (rowIs_chg (rowIs_chg RT.out KW.out (fun e => by have := HPB _ e; have := HB.out; omega)) kS (fun e => by have e' : _ = go := e; have := HB.out; omega))
      have RXF := hik (rowIs_chg (rowIs_chg RX.out KW.out (fun e => by have := HPB _ e; have := HB.out; omega)) kS (fun e => by have e' : _ = go := e; have := HB.out; omega))
      have X2F := hik ((X2.out.chg KW.out (fun e => by have := HPB _ e; have := HB.out; omega)).chg kS (fun e => by have e' : _ = go := e; have := HB.out; omega))
      have X3F := hik ((X3.out.chg KW.out (fun e => by have := HPB _ e; have := HB.out; omega)).chg kS (fun e => by have e' : _ = go := e; have := HB.out; omega))
      have K0F := hik ((K0.out.nearP KW.out (fun i e => by have a := HPB i e; have := HB.out; rcases a with a | a; exact .inl a; exact .inr (by omega))).nearP kS (fun i e => .inr (by have e' : i = go := e; have := HB.out; omega)))
      have HF8 := hik (show w7.heap.size = ((w7.setCell ⟨go, 0, none⟩ (.slice (some ⟨g7, 0, none⟩) (k' + 1) cp7))).heap.size by simp)
      generalize hE : (w7.setCell ⟨go, 0, none⟩ (.slice (some ⟨g7, 0, none⟩) (k' + 1) cp7)) = W8 at GLF ROF HCF RTF RXF X2F X3F K0F HF8 ⊢
      clear hE kS KW SA hHeld GLN HC7 HOK1 HOK GL HC RO RT RX X2 X3 K0 HPB hPgo xo0
      go_wp2
      go_roundw
      case rel => exact ⟨k' + 1, _, _, _, _, _, _, _, _, ok1, by omega, by go_num, ROF, GLF, HCF, HOKF, RTF, RXF, X2F, X3F, K0F⟩
      case measure => simp [intOf]; omega
    · obtain rfl : v = k' := by omega
      have hv : ¬ (v : Int) < (v : Int) := by omega
      have OR0 : (dEEf v L f g').Own wi (fun c => c = b1 ∨ Iv (go + 1) H c) (fun c => ∃ p, p < v * 1 ∧ Mi p c) vR := GL.out.done (fun i j hi hj => (by obtain rfl : j = 0 := (by omega); rw [Nat.mul_one, Nat.add_zero]))
      obtain ⟨cR, pR, hvR⟩ : ∃ (cR : Option Addr) (pR : Nat), vR = .slice cR v pR := by
        obtain ⟨_, c, cap, e, _⟩ := OR0
        exact ⟨c, cap, e⟩
      subst hvR
      have HH1 := hik (show go + 1 ≤ H ∧ H ≤ wi.heap.size from ⟨GL.out.xH.2, GL.out.hH⟩)
      obtain ⟨MR, OR1, hmr⟩ : ∃ M : Nat → Prop, (dEEf v L f g').Own wi (fun c => c = b1 ∨ Iv (go + 1) H c) M (.slice cR v pR) ∧ ∀ c, M c → Iv (go + 1) H c := ⟨_, OR0, fun c ⟨p, hp, hc⟩ => GL.out.bd p c hp ((exF (L p) (f p) (g' p)).sub (GL.out.it p hp) c hc)⟩
      have OR := hik OR1
      have HMR := hik hmr
      clear OR1 hmr
      clear GL OR0
      obtain ⟨u1, hu1⟩ : ∃ u, u = wi.heap.size := ⟨_, rfl⟩
      have HT := hik (Gt.fresh (L := fun _ => ⟨#[]⟩) (X := u1) (H := u1) X2.out (by have := HB.out; have := HH1.out; omega) (Nat.le_refl _) (by omega))
      have HU1 := hik (show go + 1 ≤ u1 ∧ H ≤ u1 by have := HH1.out; omega)
      have HUW := hik (show u1 ≤ wi.heap.size by omega)
      clear hu1 X2 HH1
      obtain ⟨i2, hi, hz0, hz1, hz2⟩ := info_parts infoTx9
      have HT0 := hik hi
      have HT1 := hik hz0
      have HT2 := hik hz1
      have HT3 := hik hz2
      clear hi hz0 hz1 hz2
      go_wp2
      go_loopw [9] (fun i W => ∃ (t' : Nat) (vT : Value) (H2 : Nat) (Lt : Nat → ByteArray) (okt : Bool), t' ≤ v - 1 ∧ i = .int .i64 ((t' + 1 : Nat) : Int) ∧ Hid (W.rowIs go 35 6 (fun i => (#[.slice cR v pR, vT, .int .i64 0, .int .i64 0, .int .i64 0, .slice (some ⟨b3, 0, none⟩) 0 0] : Array Value).getD i undef)) ∧ Hid (Gt W b2 H2 u1 vT t' Lt) ∧ Hid ((dEEf v L f g').Own W (fun c => c = b1 ∨ Iv (go + 1) H c) MR (.slice cR v pR)) ∧ Hid (CtI W gx n (k + 24 * v + 32 * t') z G okt) ∧ Hid (okt = true → okb = true ∧ ∀ i, i < t' → Lt i = tz9 z (k + 24 * v) i) ∧ Hid (W.rowIs w.heap.size 45 3 (fun i => (#[.int .i64 (r : Int), .int .i64 (q : Int), .int .i64 g] : Array Value).getD i undef)) ∧ Hid (W.rowIs (w.heap.size + 1) 35 6 (fun i => (#[.slice none 0 0, .slice none 0 0, .int .i64 0, .int .i64 0, .int .i64 0, .slice none 0 0] : Array Value).getD i undef)) ∧ Hid (Emp W b3 110) ∧ Hid (Chg (RG gx) w W)) (fun i _ => v - (intOf i).toNat)
      case atStart => exact ⟨0, _, u1, fun _ => ⟨#[]⟩, okb, Nat.zero_le _, rfl, RO, HT, OR, hik (by rw [Nat.mul_zero, Nat.add_zero]; exact HC.out), hik (fun e => ⟨e, fun i hi => absurd hi (by omega)⟩), RT, RX, X3, K0⟩
      case round =>
        clear RO HT OR HC RT RX X3 K0 HUW
        obtain ⟨t', vT, H2, Lt, okt, ht, rfl, RO, HT, OR, HC, HOT, RT, RX, X3, K0⟩ := hrel
        rename World => wi
        by_cases hlt : t' + 1 < v
        · have hk1 : ((t' + 1 : Nat) : Int) < (v : Int) := by omega
          have xo1 : wi.cell? ⟨go, 1, none⟩ = some vT := RO.out.cell (i := 1) (by omega)
          have hPgo : ¬ PR9 gx vT go := fun e => by
            rcases e with e | e
            · have := HB.out; omega
            · have := HT.out.xg go e; have := HB.out; have := HU1.out; omega
          have HPB := hik (show ∀ c, PR9 gx vT c → c = gx ∨ c = b2 ∨ u1 ≤ c from fun c e => by
            rcases e with e | e
            · exact .inl e
            · exact .inr (HT.out.xg c e))
          go_wp2
          have KW := hik ((Chg.refl (PR9 gx vT) wi).drew1)
          have SA := hik (fun (WW : World) (kW : Chg (PR9 gx vT) wi WW) => (show (WW.cell? ⟨go, 1, none⟩ = some (vT)) from kW.seeP xo1 hPgo))
          refine wp_regionL (L := 7) (S := fun w' => w'.cell? ⟨go, 1, none⟩ = some (vT)) (by kernel_rfl) (SA.out _ KW.out) (fun hHeld => ?_)
          refine wpAnyL_take (i := 0) (v := ?_) rfl (by kernel_rfl) (by kernel_rfl) (by kernel_rfl) (fun _ _ _ h => h) (by rfl) (by kernel_rfl) (by kernel_rfl) (Or.inl ⟨by rfl, ?_⟩) (by assumption) ?_
          rotate_left 1
          · (intro w' hSw; (try dsimp only at hSw); go_simp; try with_reducible rfl)
          try simp only [Act.put, List.setIfInBounds_toArray, List.set_cons_zero, List.set_cons_succ, List.getElem_toArray, List.getElem_cons_zero, List.getElem_cons_succ]
          refine wpAnyL_take (i := 1) (v := ?_) rfl (by kernel_rfl) (by kernel_rfl) (by kernel_rfl) (fun _ _ _ h => h) (by rfl) (by kernel_rfl) (by kernel_rfl) (Or.inl ⟨by rfl, ?_⟩) (by assumption) ?_
          rotate_left 1
          · (intro w' hSw; (try dsimp only at hSw); go_simp; try with_reducible rfl)
          try simp only [Act.put, List.setIfInBounds_toArray, List.set_cons_zero, List.set_cons_succ, List.getElem_toArray, List.getElem_cons_zero, List.getElem_cons_succ]
          refine wpAnyL_take (i := 2) (v := ?_) rfl (by kernel_rfl) (by kernel_rfl) (by kernel_rfl) (fun _ _ _ h => h) (by rfl) (by kernel_rfl) (by kernel_rfl) (Or.inl ⟨by rfl, ?_⟩) (by assumption) ?_
          rotate_left 1
          · (intro w' hSw; (try dsimp only at hSw); go_simp; try with_reducible rfl)
          try simp only [Act.put, List.setIfInBounds_toArray, List.set_cons_zero, List.set_cons_succ, List.getElem_toArray, List.getElem_cons_zero, List.getElem_cons_succ]
          refine wpAnyL_ready (rs := [3]) (by kernel_rfl) (by simp) ?_
          refine AllReadyL.cons rfl (fun K hK => ?_) AllReadyL.nil
          refine stepL_callN 35 #[.tmp 38, .const (.int .i64 32)] #[77, 3] (by rfl) (by rfl) #[.pointer (some ⟨gx, 0, none⟩), .int .i64 32] (by simp only [List.map_toArray, List.map_cons, List.map_nil] <;> rfl) (run_go Tryz.func35 (by kernel_rfl) (by kernel_rfl) _ _) (cutTake_any gx n (k + 24 * v + 32 * t') 32 z G okt _ (hik (HC.out.keep ((Chg.refl nob wi).drew1))) (by omega) (hik (fun u => by have a := hG.out u; have a1 := a.1; have a2 := HOS.out; omega))) ?_
          rintro e U1 ⟨s1, ok1, he, hs1, hok1, hc1, kk⟩
          have HS0 := hik kk.size
          have HT1_ := hik (HT.out.chg (((Chg.refl (RG gx) wi).drew1).trans kk) (fun c hc hl e => by have e' : c = gx := e; have := HB.out; have := HU1.out; omega))
          have HS1 := hik hs1
          have HOK1 := hik hok1
          have HC1 := hik hc1
          replace kk : Chg (PR9 gx vT) _ _ := kk.mono (fun i _ m => .inl m)
          clear hs1 hok1 hc1
          refine ⟨_, he, ?_⟩
          replace KW := hik (KW.out.trans kk)
          refine hK.out _ _ (SA.out _ KW.out) (fun hHeld => ?_)
          clear hK K
          try simp only [Act.put, List.setIfInBounds_toArray, List.set_cons_zero, List.set_cons_succ, List.getElem_toArray, List.getElem_cons_zero, List.getElem_cons_succ]
          clear he kk
          refine wpAnyL_ready (rs := [4]) (by kernel_rfl) (by simp) ?_
          refine AllReadyL.cons rfl (fun K hK => ?_) AllReadyL.nil
          simp only [List.getElem_toArray, List.getElem_cons_zero, List.getElem_cons_succ]
          go_simp
          replace KW := hik (KW.out.alloc (.cells #[.string s1] 9))
          replace HC1 := hik (HC1.out.keep ((Chg.refl nob _).alloc (.cells #[.string s1] 9)))
          replace HT1_ := hik (HT1_.out.keep ((Chg.refl nob _).alloc (.cells #[.string s1] 9)))
          refine hK.out _ _ (SA.out _ KW.out) (fun hHeld => ?_)
          clear hK K
          try simp only [Act.put, List.setIfInBounds_toArray, List.set_cons_zero, List.set_cons_succ, List.getElem_toArray, List.getElem_cons_zero, List.getElem_cons_succ]
          refine wpAnyL_ready (rs := [5]) (by kernel_rfl) (by simp) ?_
          refine AllReadyL.cons rfl (fun K hK => ?_) AllReadyL.nil
          refine step_append_lies _ (by rfl) (.tmp 37) (.tmp 40) 32 (by rfl) b2 9 i2 (.string ⟨#[]⟩) 1 16 Tryz.underlying32 HT0.out HT1.out HT2.out HT3.out rfl (by decide) vT t' _ (by rfl) (HT1_.out.own) ⟨_, 0, none⟩ 1 1 [.string s1] (by rfl) rfl (rwNews _ _ _) (oneS9 _) (by decide) (by unfold maxLen; omega) (by omega) (by have := HT1_.out.hH; have := HT1_.out.xH; omega) _ rfl ?_
          intro g7 cp7 w7 o7 hg7 hat7 hlt7
          have GTN := hik (HT1_.out.step s1 o7 hg7 hat7 hlt7)
          replace KW : Hid (Chg (PR9 gx vT) wi w7) := hik (KW.out.grown hg7 (fun b e _ => .inr e))
          have HC7 := hik (HC1.out.chg ((Chg.refl (fun y => vT.ownBlock = some y) _).grown hg7 (fun b e _ => e)) (fun e => by have := HT.out.xg gx e; have := HB.out; have := HU1.out; omega))
          clear o7 hg7 hat7 hlt7 HT1_ HC1
          refine hK.out _ _ (SA.out _ KW.out) (fun hHeld => ?_)
          clear hK K
          try simp only [Act.put, List.setIfInBounds_toArray, List.set_cons_zero, List.set_cons_succ, List.getElem_toArray, List.getElem_cons_zero, List.getElem_cons_succ]
          refine wpAnyL_take (i := 6) (v := ?_) rfl (by kernel_rfl) (by kernel_rfl) (by kernel_rfl) (fun _ _ _ h => h) (by rfl) (by kernel_rfl) (by kernel_rfl) (Or.inl ⟨by rfl, ?_⟩) (by assumption) ?_
          rotate_left 1
          · (intro w' hSw; (try dsimp only at hSw); go_simp; try with_reducible rfl)
          try simp only [Act.put, List.setIfInBounds_toArray, List.set_cons_zero, List.set_cons_succ, List.getElem_toArray, List.getElem_cons_zero, List.getElem_cons_succ]
          refine wpAnyL_ready (rs := [7]) (by kernel_rfl) (by simp) ?_
          refine AllReadyL.last rfl (by kernel_rfl) (fun K hK => ?_)
          have y0 : w7.cell? ⟨go, 1, none⟩ = some vT := KW.out.seeP xo1 hPgo
          have y1 : w7.frozen? ⟨go, 1, none⟩ = false := (rowIs_chg RO.out KW.out hPgo).frozen 1
          have y2 : go < w7.heap.size := (rowIs_chg RO.out KW.out hPgo).lt
          simp only [List.getElem_toArray, List.getElem_cons_zero, List.getElem_cons_succ]
          go_simp
          refine hK.out _ _ ?_
          clear hK K
          try simp only [Act.put, List.setIfInBounds_toArray, List.set_cons_zero, List.set_cons_succ, List.getElem_toArray, List.getElem_cons_zero, List.getElem_cons_succ]
          clear y0 y1 y2
          refine wpAnyL_done (by kernel_rfl) ?_ _
          have kS := (Chg.refl (fun b => b = go) w7).setCell (p := ⟨go, 1, none⟩) (fun _ => rfl) (.slice (some ⟨g7, 0, none⟩) (t' + 1) cp7)
          have GTF := hik ((GTN.out.chg kS (fun c hc hl e => by have e' : c = go := e; have := HB.out; have := HU1.out; omega)))
          have ROF := hik (((rowIs_chg RO.out KW.out hPgo).set 1 (.slice (some ⟨g7, 0, none⟩) (t' + 1) cp7)).congr (g := (fun i => (#[.slice cR v pR, (.slice (some ⟨g7, 0, none⟩) (t' + 1) cp7), .int .i64 0, .int .i64 0, .int .i64 0, .slice (some ⟨b3, 0, none⟩) 0 0] : Array Value).getD i undef)) (fun i hi => by rcases (show i = 0 ∨ i = 1 ∨ i = 2 ∨ i = 3 ∨ i = 4 ∨ i = 5 by omega) with rfl | rfl | rfl | rfl | rfl | rfl <;> rfl))
          have HCF := hik (show CtI (w7.setCell ⟨go, 1, none⟩ (.slice (some ⟨g7, 0, none⟩) (t' + 1) cp7)) gx n (k + 24 * v + 32 * (t' + 1)) z G ok1 from by rw [show k + 24 * v + 32 * (t' + 1) = k + 24 * v + 32 * t' + 32 by omega]; exact HC7.out.chg kS (fun e => by have e' : gx = go := e; have := HB.out; omega))
          have HOKF := hik (show ok1 = true → okb = true ∧ ∀ i, i < t' + 1 → ext9 t' Lt (fun _ => s1) i = tz9 z (k + 24 * v) i from fun u => by
            have a := HOK1.out u
            have b := HOT.out a.1
            refine ⟨b.1, fun i hi => ?_⟩
            by_cases e : i < t'
            · rw [ext9_lo _ _ _ e]
              exact b.2 i e
            · obtain rfl : i = t' := by omega
              rw [ext9_at]
              exact tz9_of HS1.out a.2.2)
          have RTF := hik (rowIs_chg (rowIs_chg RT.out KW.out (fun e => by have := HPB _ e; have := HB.out; have := HU1.out; omega)) kS (fun e => by have e' : _ = go := e; have := HB.out; omega))
          have RXF := hik (rowIs_chg (rowIs_chg RX.out KW.out (fun e => by have := HPB _ e; have := HB.out; have := HU1.out; omega)) kS (fun e => by have e' : _ = go := e; have := HB.out; omega))
          have ORF := hik ((dEEf v L f g').chg kS ((dEEf v L f g').chg KW.out OR.out (fun c hc e => by have := HPB _ e; have := HB.out; have := HU1.out; unfold Iv at hc; omega)) (fun c hc e => by have e' : c = go := e; have := HB.out; unfold Iv at hc; omega))
          have X3F := hik ((X3.out.chg KW.out (fun e => by have := HPB _ e; have := HB.out; have := HU1.out; omega)).chg kS (fun e => by have e' : _ = go := e; have := HB.out; omega))
          have K0F := hik ((K0.out.nearP KW.out (fun i e => by have a := HPB i e; have := HB.out; have := HU1.out; rcases a with a | a; exact .inl a; exact .inr (by omega))).nearP kS (fun i e => .inr (by have e' : i = go := e; have := HB.out; omega)))
          generalize hE : (w7.setCell ⟨go, 1, none⟩ (.slice (some ⟨g7, 0, none⟩) (t' + 1) cp7)) = W8 at GTF ROF HCF RTF RXF ORF X3F K0F ⊢
          clear hE kS KW SA hHeld GTN HC7 HOK1 HOT HT HC RO RT RX OR X3 K0 HPB hPgo xo1
          go_wp2
          go_roundw
          case rel => exact ⟨t' + 1, _, _, _, ok1, by omega, by go_num, ROF, GTF, ORF, HCF, HOKF, RTF, RXF, X3F, K0F⟩
          case measure => simp [intOf]; omega
        · obtain rfl : t' = v - 1 := by omega
          have hv1 : ¬ ((v - 1 + 1 : Nat) : Int) < (v : Int) := by omega
          have OT0 : (txF (v - 1) Lt).Own wi (fun c => c = b2 ∨ Iv u1 H2 c) (fun c => vT.ownBlock = some c) vT := HT.out.done
          obtain ⟨cT, pT, hvT⟩ : ∃ (cT : Option Addr) (pT : Nat), vT = .slice cT (v - 1) pT := by
            obtain ⟨_, c, cap, e, _⟩ := OT0
            exact ⟨c, cap, e⟩
          subst hvT
          have HU2 := hik (show H2 ≤ wi.heap.size ∧ u1 ≤ wi.heap.size ∧ u1 ≤ H2 from ⟨HT.out.hH, Nat.le_trans HT.out.xH.2 HT.out.hH, HT.out.xH.2⟩)
          obtain ⟨MT, OT1, hmt⟩ : ∃ M : Nat → Prop, (txF (v - 1) Lt).Own wi (fun c => c = b2 ∨ Iv u1 H2 c) M (.slice cT (v - 1) pT) ∧ ∀ c, M c → c = b2 ∨ Iv u1 H2 c := ⟨_, OT0, fun c hc => (txF (v - 1) Lt).sub OT0 c hc⟩
          have OT := hik OT1
          have HMT := hik hmt
          clear OT1 hmt
          clear HT OT0
          replace HC : Hid (CtI wi gx n (k + oL9 v) z G okt) := hik (by have a := HC.out; rw [show k + 24 * v + 32 * (v - 1) = k + oL9 v by have := HOS.out; omega] at a; exact a)
          go_wp2_with fail
          refine (cutOne_any gx n (k + oL9 v) z G okt _ HC (hik (fun u => by have a := hG.out u; have a1 := a.1; have a2 := HOS.out; exact ⟨by omega, a.2.2.1⟩))).mono ?_
          rintro e W1 ⟨la, lb, ok3, rfl, hok3, hc3, kk⟩
          have hzW1 := kk.size
          replace RT := hik (rowIs_chg RT.out kk (fun e => by have e' : _ = gx := e; have := HB.out; omega))
          replace RX := hik (rowIs_chg RX.out kk (fun e => by have e' : _ = gx := e; have := HB.out; omega))
          replace RO := hik (rowIs_chg RO.out kk (fun e => by have e' : _ = gx := e; have := HB.out; omega))
          replace OR := hik ((dEEf v L f g').chg kk OR.out (fun c hc e => by have e' : c = gx := e; have := HB.out; unfold Iv at hc; omega))
          replace OT := hik ((txF (v - 1) Lt).chg kk OT.out (fun c hc e => by have e' : c = gx := e; have := HB.out; have := HU1.out; unfold Iv at hc; omega))
          replace X3 := hik (X3.out.chg kk (fun e => by have e' : _ = gx := e; have := HB.out; omega))
          replace K0 := hik (K0.out.trans kk)
          have HOK3 := hik hok3
          replace HC := hik hc3
          clear hok3 hc3 kk
          have y2 : W1.cell? ⟨go, 2, none⟩ = some (.int .i64 0) := RO.out.cell (i := 2) (by omega)
          have f2_ := RO.out.frozen 2
          have y3 : W1.cell? ⟨go, 3, none⟩ = some (.int .i64 0) := RO.out.cell (i := 3) (by omega)
          have f3_ := RO.out.frozen 3
          have l_ := RO.out.lt
          have kS := (((Chg.refl (fun b => b = go) W1).setCell (p := ⟨go, 2, none⟩) (fun _ => rfl) (.int .i64 la)).setCell (p := ⟨go, 3, none⟩) (fun _ => rfl) (.int .i64 lb))
          replace RT := hik (rowIs_chg RT.out kS (fun e => by have e' : _ = go := e; have := HB.out; omega))
          replace RX := hik (rowIs_chg RX.out kS (fun e => by have e' : _ = go := e; have := HB.out; omega))
          replace OR := hik ((dEEf v L f g').chg kS OR.out (fun c hc e => by have e' : c = go := e; have := HB.out; unfold Iv at hc; omega))
          replace OT := hik ((txF (v - 1) Lt).chg kS OT.out (fun c hc e => by have e' : c = go := e; have := HB.out; have := HU1.out; unfold Iv at hc; omega))
          replace X3 := hik (X3.out.chg kS (fun e => by have e' : _ = go := e; have := HB.out; omega))
          replace K0 := hik (K0.out.nearP kS (fun i e => .inr (by have e' : i = go := e; have := HB.out; omega)))
          replace HC := hik (HC.out.chg kS (fun e => by have e' : gx = go := e; have := HB.out; omega))
          replace RO := hik (((RO.out.set 2 (.int .i64 la)).set 3 (.int .i64 lb)).congr (g := (fun i => (#[.slice cR v pR, .slice cT (v - 1) pT, .int .i64 la, .int .i64 lb, .int .i64 0, .slice (some ⟨b3, 0, none⟩) 0 0] : Array Value).getD i undef)) (fun i hi => by rcases (show i = 0 ∨ i = 1 ∨ i = 2 ∨ i = 3 ∨ i = 4 ∨ i = 5 by omega) with rfl | rfl | rfl | rfl | rfl | rfl <;> rfl))
          have hzW2 : W1.heap.size = ((W1.setCell ⟨go, 2, none⟩ (.int .i64 la)).setCell ⟨go, 3, none⟩ (.int .i64 lb)).heap.size := by simp
          clear kS
          go_wp2_with fail
          clear y2 y3 f2_ f3_ l_
          generalize hE : (W1.setCell ⟨go, 2, none⟩ (.int .i64 la)).setCell ⟨go, 3, none⟩ (.int .i64 lb) = W2 at RT RX RO OR OT X3 K0 HC hzW2 ⊢
          clear hE
          refine (cutTake_any gx n (k + oL9 v + 8) 4 z G ok3 _ HC (by omega) (hik (fun u => by have a := hG.out u; have a1 := a.1; have a2 := HOS.out; omega))).mono ?_
          rintro e W3 ⟨s4, ok4, rfl, hs4, hok4, hc4, kk⟩
          have hzW3 := kk.size
          replace RT := hik (rowIs_chg RT.out kk (fun e => by have e' : _ = gx := e; have := HB.out; omega))
          replace RX := hik (rowIs_chg RX.out kk (fun e => by have e' : _ = gx := e; have := HB.out; omega))
          replace RO := hik (rowIs_chg RO.out kk (fun e => by have e' : _ = gx := e; have := HB.out; omega))
          replace OR := hik ((dEEf v L f g').chg kk OR.out (fun c hc e => by have e' : c = gx := e; have := HB.out; unfold Iv at hc; omega))
          replace OT := hik ((txF (v - 1) Lt).chg kk OT.out (fun c hc e => by have e' : c = gx := e; have := HB.out; have := HU1.out; unfold Iv at hc; omega))
          replace X3 := hik (X3.out.chg kk (fun e => by have e' : _ = gx := e; have := HB.out; omega))
          replace K0 := hik (K0.out.trans kk)
          have HOK4 := hik hok4
          have HS4 := hik hs4
          replace HC := hik hc4
          clear hok4 hc4 hs4 kk
          go_wp2_with fail
          refine (l02Four_any s4 _ HS4.out).mono ?_
          rintro e W4 ⟨rfl, rfl⟩
          obtain ⟨no, hno⟩ : ∃ x, x = w4 (sz s4) 0 := ⟨_, rfl⟩
          rw [← hno]
          have HNO := hik (show ok4 = true → no = w4 z (k + oL9 v + 8) from fun u => by
            have a := (HOK4.out u).2.2
            rw [hno]
            unfold w4
            rw [a 0 (by omega), a (0 + 1) (by omega), a (0 + 2) (by omega), a (0 + 3) (by omega)])
          clear hno
          have y4 : W4.cell? ⟨go, 4, none⟩ = some (.int .i64 0) := RO.out.cell (i := 4) (by omega)
          have f4_ := RO.out.frozen 4
          have l_ := RO.out.lt
          have kS := ((Chg.refl (fun b => b = go) W4).setCell (p := ⟨go, 4, none⟩) (fun _ => rfl) (.int .i64 no))
          replace RT := hik (rowIs_chg RT.out kS (fun e => by have e' : _ = go := e; have := HB.out; omega))
          replace RX := hik (rowIs_chg RX.out kS (fun e => by have e' : _ = go := e; have := HB.out; omega))
          replace OR := hik ((dEEf v L f g').chg kS OR.out (fun c hc e => by have e' : c = go := e; have := HB.out; unfold Iv at hc; omega))
          replace OT := hik ((txF (v - 1) Lt).chg kS OT.out (fun c hc e => by have e' : c = go := e; have := HB.out; have := HU1.out; unfold Iv at hc; omega))
          replace X3 := hik (X3.out.chg kS (fun e => by have e' : _ = go := e; have := HB.out; omega))
          replace K0 := hik (K0.out.nearP kS (fun i e => .inr (by have e' : i = go := e; have := HB.out; omega)))
          replace HC := hik (HC.out.chg kS (fun e => by have e' : gx = go := e; have := HB.out; omega))
          replace RO := hik ((RO.out.set 4 (.int .i64 no)).congr (g := (fun i => (#[.slice cR v pR, .slice cT (v - 1) pT, .int .i64 la, .int .i64 lb, .int .i64 no, .slice (some ⟨b3, 0, none⟩) 0 0] : Array Value).getD i undef)) (fun i hi => by rcases (show i = 0 ∨ i = 1 ∨ i = 2 ∨ i = 3 ∨ i = 4 ∨ i = 5 by omega) with rfl | rfl | rfl | rfl | rfl | rfl <;> rfl))
          have hzW5 : W4.heap.size = (W4.setCell ⟨go, 4, none⟩ (.int .i64 no)).heap.size := by simp
          clear kS
          obtain ⟨u3, hu3⟩ : ∃ u, u = W4.heap.size := ⟨_, rfl⟩
          have HU3 := hik (show u1 ≤ u3 ∧ H2 ≤ u3 ∧ go + 1 ≤ u3 by have := HU1.out; have := HU2.out; omega)
          have HZ5 := hik (show u3 ≤ (W4.setCell ⟨go, 4, none⟩ (.int .i64 no)).heap.size by omega)
          clear hu3 HU2 hzW1 hzW2 hzW3 hzW5
          obtain ⟨i3, hi, hz0, hz1, hz2⟩ := info_parts infoQ9
          have HQ0 := hik hi
          have HQ1 := hik hz0
          have HQ2 := hik hz1
          have HQ3 := hik hz2
          clear hi hz0 hz1 hz2
          have HQI := hik (Gl.fresh (m := 2) (x := qx9 (fun _ => noO.q 0)) (X := u3) (H := u3) X3.out (by have := HB.out; have := HU3.out; omega) (Nat.le_refl _) HZ5.out)
          clear HZ5 X3
          go_wp2
          clear y4 f4_ l_
          generalize hE : W4.setCell ⟨go, 4, none⟩ (.int .i64 no) = W5 at RT RX RO OR OT K0 HC HQI ⊢
          clear hE
          have HCQ := hik (show CtI W5 gx n (k + oL9 v + 12 + 0 * qsz v r) z G ok4 from by have a := HC.out; rw [show k + oL9 v + 12 + 0 * qsz v r = k + oL9 v + 8 + 4 by omega]; exact a)
          clear HC
          go_loopw [10] (fun i W => ∃ (j : Nat) (vQ : Value) (H3 : Nat) (X : Nat → QD) (vs : Nat → Value) (Si Mi : Nat → Nat → Prop) (okq : Bool), j ≤ q ∧ i = .int .i64 (j : Int) ∧ Hid (W.rowIs go 35 6 (fun i => (#[.slice cR v pR, .slice cT (v - 1) pT, .int .i64 la, .int .i64 lb, .int .i64 no, vQ] : Array Value).getD i undef)) ∧ Hid ((dEEf v L f g').Own W (fun c => c = b1 ∨ Iv (go + 1) H c) MR (.slice cR v pR)) ∧ Hid ((txF (v - 1) Lt).Own W (fun c => c = b2 ∨ Iv u1 H2 c) MT (.slice cT (v - 1) pT)) ∧ Hid (W.rowIs w.heap.size 45 3 (fun i => (#[.int .i64 (r : Int), .int .i64 (q : Int), .int .i64 g] : Array Value).getD i undef)) ∧ Hid (W.rowIs (w.heap.size + 1) 35 6 (fun i => (#[.slice none 0 0, .slice none 0 0, .int .i64 0, .int .i64 0, .int .i64 0, .slice none 0 0] : Array Value).getD i undef)) ∧ Hid (Chg (RG gx) w W) ∧ Hid (Gl W 110 2 b3 H3 u3 vQ j (qx9 X) vs Si Mi) ∧ Hid (CtI W gx n (k + oL9 v + 12 + j * qsz v r) z G okq) ∧ Hid (okq = true → ok4 = true ∧ ∀ i, i < j → QE9 (X i) (rdQ z v r (k + oL9 v + 12 + i * qsz v r)))) (fun i _ => q - (intOf i).toNat)
          case atStart => exact ⟨0, _, u3, fun _ => noO.q 0, _, _, _, ok4, Nat.zero_le _, rfl, RO, OR, OT, RT, RX, K0, HQI, HCQ, hik (fun e => ⟨e, fun i hi => absurd hi (by omega)⟩)⟩
          case round =>
            clear RO OR OT RT RX K0 HQI HCQ
            obtain ⟨j, vQ, H3, X, vs, Si, Mi, okq, hj, rfl, RO, OR, OT, RT, RX, K0, GQ, HC, HOQ⟩ := hrel
            rename World => wi
            have xt1 : wi.cell? ⟨w.heap.size, 1, none⟩ = some (.int .i64 (q : Int)) := RT.out.cell (i := 1) (by omega)
            by_cases hlt : j < q
            · have hk1 : (j : Int) < (q : Int) := by omega
              have HMU := hik (show j * qsz v r + qsz v r ≤ q * qsz v r by have := Nat.mul_le_mul_right (qsz v r) hlt; rw [Nat.succ_mul] at this; exact this)
              have HQS := hik (show qsz v r = 16 * v + 32 * hpN v r v from rfl)
              have HX3 := hik (show H3 ≤ wi.heap.size ∧ u3 ≤ H3 from ⟨GQ.out.hH, GQ.out.xH.2⟩)
              go_wp2_with fail
              clear xt1
              rw [show (2 : Int) * (v : Int) = ((2 * v : Nat) : Int) by omega]
              refine (cutExts_any gx n (k + oL9 v + 12 + j * qsz v r) (2 * v) z G okq _ HC (by omega) (hik (fun u => by have a := hG.out u; have a1 := a.1; have a2 := HOS.out; have a3 := HMU.out; have a4 := HQS.out; exact ⟨by omega, a.2.2.2 j hlt⟩))).mono ?_
              rintro e W1 ⟨cp, lp, pp, fp, gp, okp, rfl, hlp, hop, hokp, hcp, kk⟩
          
              have hz1 := kk.size
              replace RT := hik (rowIs_chg RT.out kk (fun e => by have e_ : _ = gx := e; have := HB.out; have := HU1.out; have := HU3.out; have := HX3.out; omega))
              replace RX := hik (rowIs_chg RX.out kk (fun e => by have e_ : _ = gx := e; have := HB.out; have := HU1.out; have := HU3.out; have := HX3.out; omega))
              replace RO := hik (rowIs_chg RO.out kk (fun e => by have e_ : _ = gx := e; have := HB.out; have := HU1.out; have := HU3.out; have := HX3.out; omega))
              replace OR := hik ((dEEf v L f g').chg kk OR.out (fun c hc e => by have e_ : _ = gx := e; have := HB.out; have := HU1.out; have := HU3.out; have := HX3.out; try unfold Iv at hc; omega))
              replace OT := hik ((txF (v - 1) Lt).chg kk OT.out (fun c hc e => by have e_ : _ = gx := e; have := HB.out; have := HU1.out; have := HU3.out; have := HX3.out; try unfold Iv at hc; omega))
              replace GQ := hik (GQ.out.chg kk (fun c hc hl e => by have e_ : _ = gx := e; have := HB.out; have := HU1.out; have := HU3.out; have := HX3.out; omega))
              replace K0 := hik (K0.out.nearP kk (fun i e => by first | (left; exact e) | (right; have e_ : _ = gx := e; have := HB.out; have := HU1.out; have := HU3.out; have := HX3.out; omega)))
              have HOP := hik hop
              have HOKP := hik hokp
              have HLP := hik hlp
              replace HC := hik hcp
              obtain ⟨uq, huq⟩ : ∃ u, u = wi.heap.size := ⟨_, rfl⟩
              obtain ⟨e1, he1⟩ : ∃ u, u = W1.heap.size := ⟨_, rfl⟩
              have HPF0 := exF_of_own (cap := pp) HOP.out
              rw [← he1, ← huq] at HPF0
              have HPF := hik HPF0
              have HE1 := hik (show wi.heap.size = uq ∧ uq ≤ e1 ∧ H3 ≤ uq by have := HX3.out; omega)
              clear hop hokp hlp hcp HPF0 HOP kk hz1 huq
              have XE := hik ((show Emp (W1.alloc (.cells #[] 32)) W1.heap.size 32 from new_blk _ _ _).chg ((Chg.refl nob _).alloc (.cells #[.slice cp lp pp, .slice (some ⟨W1.heap.size, 0, none⟩) 0 0] 110)) (fun x => x))
              have RQ := hik (rowN_new (W1.alloc (.cells #[] 32)) 2 #[.slice cp lp pp, .slice (some ⟨W1.heap.size, 0, none⟩) 0 0] 110 rfl)
              have kk := ((Chg.refl nob W1).alloc (.cells #[] 32)).alloc (.cells #[.slice cp lp pp, .slice (some ⟨W1.heap.size, 0, none⟩) 0 0] 110)
              rw [asz] at RQ
              replace RT := hik (rowIs_keep RT.out kk)
              replace RX := hik (rowIs_keep RX.out kk)
              replace RO := hik (rowIs_keep RO.out kk)
              replace OR := hik ((dEEf v L f g').chg kk OR.out (fun _ _ x => x))
              replace OT := hik ((txF (v - 1) Lt).chg kk OT.out (fun _ _ x => x))
              replace GQ := hik (GQ.out.keep kk)
              replace HPF := hik ((exF lp fp gp).chg kk HPF.out (fun _ _ x => x))
              replace HC := hik (HC.out.keep kk)
              replace K0 := hik (K0.out.trans kk.wide)
              clear kk
              have hzz : ((W1.alloc (.cells #[] 32)).alloc (.cells #[.slice cp lp pp, .slice (some ⟨W1.heap.size, 0, none⟩) 0 0] 110)).heap.size = W1.heap.size + 1 + 1 := by simp
              go_wp2
              generalize hE : (W1.alloc (.cells #[] 32)).alloc (.cells #[.slice cp lp pp, .slice (some ⟨W1.heap.size, 0, none⟩) 0 0] 110) = W2 at RT RX RO OR OT GQ HPF HC K0 XE RQ hzz ⊢
              clear hE
              rw [← he1] at XE RQ hzz
              rw [← he1]
              clear he1
              have HGP := hik (Gl.fresh (m := 1) (x := fun _ => txF 0 (fun _ => ⟨#[]⟩)) (X := e1 + 2) (H := e1 + 2) XE.out (by omega) (Nat.le_refl _) (by omega))
              have HC4 := hik (show CtI W2 gx n (k + oL9 v + 12 + j * qsz v r + 16 * v + 32 * hpN v r 0) z G okp from by have a := HC.out; rw [show k + oL9 v + 12 + j * qsz v r + 16 * v + 32 * hpN v r 0 = k + oL9 v + 12 + j * qsz v r + 8 * (2 * v) by show k + oL9 v + 12 + j * qsz v r + 16 * v + 32 * 0 = _; omega]; exact a)
              clear HC XE hzz
              
              go_loopw [12] (fun i W => ∃ (y' : Nat) (vP : Value) (H4 : Nat) (lP : Nat → Nat) (TP : Nat → Nat → ByteArray) (vs4 : Nat → Value) (Si4 Mi4 : Nat → Nat → Prop) (oky : Bool), y' ≤ v ∧ i = .int .i64 (y' : Int) ∧ Hid (W.rowIs go 35 6 (fun i => (#[.slice cR v pR, .slice cT (v - 1) pT, .int .i64 la, .int .i64 lb, .int .i64 no, vQ] : Array Value).getD i undef)) ∧ Hid ((dEEf v L f g').Own W (fun c => c = b1 ∨ Iv (go + 1) H c) MR (.slice cR v pR)) ∧ Hid ((txF (v - 1) Lt).Own W (fun c => c = b2 ∨ Iv u1 H2 c) MT (.slice cT (v - 1) pT)) ∧ Hid (W.rowIs w.heap.size 45 3 (fun i => (#[.int .i64 (r : Int), .int .i64 (q : Int), .int .i64 g] : Array Value).getD i undef)) ∧ Hid (W.rowIs (w.heap.size + 1) 35 6 (fun i => (#[.slice none 0 0, .slice none 0 0, .int .i64 0, .int .i64 0, .int .i64 0, .slice none 0 0] : Array Value).getD i undef)) ∧ Hid (Chg (RG gx) w W) ∧ Hid (Gl W 110 2 b3 H3 u3 vQ j (qx9 X) vs Si Mi) ∧ Hid (W.rowIs (e1 + 1) 110 2 (fun i => (#[.slice cp lp pp, vP] : Array Value).getD i undef)) ∧ Hid ((exF lp fp gp).Own W (Iv uq e1) (Iv uq e1) (.slice cp lp pp)) ∧ Hid (Gl W 32 1 e1 H4 (e1 + 2) vP y' (fun p => txF (lP p) (TP p)) vs4 Si4 Mi4) ∧ Hid (CtI W gx n (k + oL9 v + 12 + j * qsz v r + 16 * v + 32 * hpN v r y') z G oky) ∧ Hid (oky = true → okp = true ∧ ∀ y, y < y' → lP y = v + r - 1 - y ∧ ∀ m, m < v + r - 1 - y → TP y m = tz9 z (k + oL9 v + 12 + j * qsz v r + 16 * v + 32 * hpN v r y) m)) (fun i _ => v - (intOf i).toNat)
              case atStart => exact ⟨0, _, e1 + 2, fun _ => 0, fun _ _ => ⟨#[]⟩, _, _, _, okp, Nat.zero_le _, rfl, RO, OR, OT, RT, RX, K0, GQ, RQ, HPF, HGP, HC4, hik (fun e => ⟨e, fun i hi => absurd hi (by omega)⟩)⟩
              case round =>
                clear RO OR OT RT RX K0 GQ RQ HPF HGP HC4
                obtain ⟨y', vP, H4, lP, TP, vs4, Si4, Mi4, oky, hy, rfl, RO, OR, OT, RT, RX, K0, GQ, RQ, HPF, GP, HC, HOY⟩ := hrel
                rename World => wi
                by_cases hlt4 : y' < v
                · have hk4 : (y' : Int) < (v : Int) := by omega
                  have xt0 : wi.cell? ⟨w.heap.size, 0, none⟩ = some (.int .i64 (r : Int)) := RT.out.cell (i := 0) (by omega)
                  have ws1 : IntKind.i64.wrap ((v : Int) + (r : Int)) = (v : Int) + (r : Int) := by rw [IntKind.wrap_i64]; omega
                  have ws2 : IntKind.i64.wrap ((v : Int) + (r : Int) - 1) = (v : Int) + (r : Int) - 1 := by rw [IntKind.wrap_i64]; omega
                  have ws3 : IntKind.i64.wrap ((v : Int) + (r : Int) - 1 - (y' : Int)) = (v : Int) + (r : Int) - 1 - (y' : Int) := by rw [IntKind.wrap_i64]; omega
                  have H4X := hik (show H4 ≤ wi.heap.size ∧ e1 + 2 ≤ H4 from ⟨GP.out.hH, GP.out.xH.2⟩)
                  have X5 := hik (show Emp (wi.alloc (.cells #[] 9)) wi.heap.size 9 from new_blk _ _ _)
                  have kk := (Chg.refl nob wi).alloc (.cells #[] 9)
                  have hz5 : (wi.alloc (.cells #[] 9)).heap.size = wi.heap.size + 1 := by simp
              
                  replace RT := hik (rowIs_keep RT.out kk)
                  replace RX := hik (rowIs_keep RX.out kk)
                  replace RO := hik (rowIs_keep RO.out kk)
                  replace OR := hik ((dEEf v L f g').chg kk OR.out (fun _ _ x => x))
                  replace OT := hik ((txF (v - 1) Lt).chg kk OT.out (fun _ _ x => x))
                  replace GQ := hik (GQ.out.keep kk)
                  replace RQ := hik (rowIs_keep RQ.out kk)
                  replace HPF := hik ((exF lp fp gp).chg kk HPF.out (fun _ _ x => x))
                  replace GP := hik (GP.out.keep kk)
                  replace HC := hik (HC.out.keep kk)
                  replace K0 := hik (K0.out.trans kk.wide)
                  replace xt0 := kk.see xt0
                  clear kk
                  go_wp2
                  obtain ⟨e2, he2⟩ : ∃ u, u = wi.heap.size := ⟨_, rfl⟩
                  generalize hE : wi.alloc (.cells #[] 9) = W3 at RT RX RO OR OT GQ RQ HPF GP HC K0 X5 hz5 ⊢
                  clear hE xt0 ws1 ws2 ws3
                  rw [← he2] at X5 hz5 H4X
                  rw [← he2]
                  clear he2
                  obtain ⟨NN, hNN⟩ : ∃ x, x = v + r - 1 - y' := ⟨_, rfl⟩
                  have HNN := hik (show NN = v + r - 1 - y' ∧ NN ≤ 8 by omega)
                  rw [show (v : Int) + (r : Int) - 1 - (y' : Int) = (NN : Int) by omega]
                  have HT5 := hik (Gt.fresh (L := fun _ => ⟨#[]⟩) (X := e2 + 1) (H := e2 + 1) X5.out (by omega) (Nat.le_refl _) (by omega))
                  clear X5 hz5 hNN
                  go_loopw [13, 14] (fun s13 s14 W => ∃ (m : Nat) (vp : Value) (H5 : Nat) (Lp : Nat → ByteArray) (okz : Bool), m ≤ NN ∧ vp = s13 ∧ s14 = .int .i64 ((NN - m : Nat) : Int) ∧ Hid (W.rowIs go 35 6 (fun i => (#[.slice cR v pR, .slice cT (v - 1) pT, .int .i64 la, .int .i64 lb, .int .i64 no, vQ] : Array Value).getD i undef)) ∧ Hid ((dEEf v L f g').Own W (fun c => c = b1 ∨ Iv (go + 1) H c) MR (.slice cR v pR)) ∧ Hid ((txF (v - 1) Lt).Own W (fun c => c = b2 ∨ Iv u1 H2 c) MT (.slice cT (v - 1) pT)) ∧ Hid (W.rowIs w.heap.size 45 3 (fun i => (#[.int .i64 (r : Int), .int .i64 (q : Int), .int .i64 g] : Array Value).getD i undef)) ∧ Hid (W.rowIs (w.heap.size + 1) 35 6 (fun i => (#[.slice none 0 0, .slice none 0 0, .int .i64 0, .int .i64 0, .int .i64 0, .slice none 0 0] : Array Value).getD i undef)) ∧ Hid (Chg (RG gx) w W) ∧ Hid (Gl W 110 2 b3 H3 u3 vQ j (qx9 X) vs Si Mi) ∧ Hid (W.rowIs (e1 + 1) 110 2 (fun i => (#[.slice cp lp pp, vP] : Array Value).getD i undef)) ∧ Hid ((exF lp fp gp).Own W (Iv uq e1) (Iv uq e1) (.slice cp lp pp)) ∧ Hid (Gl W 32 1 e1 H4 (e1 + 2) vP y' (fun p => txF (lP p) (TP p)) vs4 Si4 Mi4) ∧ Hid (Gt W e2 H5 (e2 + 1) vp m Lp) ∧ Hid (CtI W gx n ((k + oL9 v + 12 + j * qsz v r + 16 * v + 32 * hpN v r y') + 32 * m) z G okz) ∧ Hid (okz = true → oky = true ∧ ∀ i, i < m → Lp i = tz9 z (k + oL9 v + 12 + j * qsz v r + 16 * v + 32 * hpN v r y') i)) (fun _ s14 _ => (intOf s14).toNat)
                  case atStart => exact ⟨0, _, e2 + 1, fun _ => ⟨#[]⟩, oky, Nat.zero_le _, rfl, rfl, RO, OR, OT, RT, RX, K0, GQ, RQ, HPF, GP, HT5, hik (by rw [Nat.mul_zero, Nat.add_zero]; exact HC.out), hik (fun e => ⟨e, fun i hi => absurd hi (by omega)⟩)⟩
                  case round =>
                    clear RO OR OT RT RX K0 GQ RQ HPF GP HT5 HC
                    obtain ⟨m, vp, H5, Lp, okz, hm, rfl, rfl, RO, OR, OT, RT, RX, K0, GQ, RQ, HPF, GP, H5G, HC, HOZ⟩ := hrel
                    rename World => wi
                    have HNH := hik (show hpN v r (y' + 1) = hpN v r y' + (v + r - 1 - y') ∧ hpN v r (y' + 1) ≤ hpN v r v from ⟨rfl, hpN_mono v r (by omega)⟩)
                    by_cases hlt5 : m < NN
                    · have hk5 : (0 : Int) < ((NN - m : Nat) : Int) := by omega
                      go_wp2_with fail
                      refine (cutTake_any gx n ((k + oL9 v + 12 + j * qsz v r + 16 * v + 32 * hpN v r y') + 32 * m) 32 z G okz _ HC (by omega) (hik (fun u => by have a := hG.out u; have a1 := a.1; have a2 := HOS.out; have a3 := HMU.out; have a4 := HQS.out; have a5 := HNH.out; have a6 := HNN.out; omega))).mono ?_
                      rintro e W4 ⟨s1, ok1, rfl, hs1, hok1, hc1, kk⟩
                  
                      replace RT := hik (rowIs_chg RT.out kk (fun e => by have e_ : _ = gx := e; have := HB.out; have := HU1.out; have := HU3.out; have := HX3.out; have := HE1.out; have := H4X.out; omega))
                      replace RX := hik (rowIs_chg RX.out kk (fun e => by have e_ : _ = gx := e; have := HB.out; have := HU1.out; have := HU3.out; have := HX3.out; have := HE1.out; have := H4X.out; omega))
                      replace RO := hik (rowIs_chg RO.out kk (fun e => by have e_ : _ = gx := e; have := HB.out; have := HU1.out; have := HU3.out; have := HX3.out; have := HE1.out; have := H4X.out; omega))
                      replace OR := hik ((dEEf v L f g').chg kk OR.out (fun c hc e => by have e_ : _ = gx := e; have := HB.out; have := HU1.out; have := HU3.out; have := HX3.out; have := HE1.out; have := H4X.out; try unfold Iv at hc; omega))
                      replace OT := hik ((txF (v - 1) Lt).chg kk OT.out (fun c hc e => by have e_ : _ = gx := e; have := HB.out; have := HU1.out; have := HU3.out; have := HX3.out; have := HE1.out; have := H4X.out; try unfold Iv at hc; omega))
                      replace GQ := hik (GQ.out.chg kk (fun c hc hl e => by have e_ : _ = gx := e; have := HB.out; have := HU1.out; have := HU3.out; have := HX3.out; have := HE1.out; have := H4X.out; omega))
                      replace RQ := hik (rowIs_chg RQ.out kk (fun e => by have e_ : _ = gx := e; have := HB.out; have := HU1.out; have := HU3.out; have := HX3.out; have := HE1.out; have := H4X.out; omega))
                      replace HPF := hik ((exF lp fp gp).chg kk HPF.out (fun c hc e => by have e_ : _ = gx := e; have := HB.out; have := HU1.out; have := HU3.out; have := HX3.out; have := HE1.out; have := H4X.out; try unfold Iv at hc; omega))
                      replace GP := hik (GP.out.chg kk (fun c hc hl e => by have e_ : _ = gx := e; have := HB.out; have := HU1.out; have := HU3.out; have := HX3.out; have := HE1.out; have := H4X.out; omega))
                      replace H5G := hik (H5G.out.chg kk (fun c hc hl e => by have e_ : _ = gx := e; have := HB.out; have := HU1.out; have := HU3.out; have := HX3.out; have := HE1.out; have := H4X.out; omega))
                      replace K0 := hik (K0.out.nearP kk (fun i e => by first | (left; exact e) | (right; have e_ : _ = gx := e; have := HB.out; have := HU1.out; have := HU3.out; have := HX3.out; have := HE1.out; have := H4X.out; omega)))
                      have HS1 := hik hs1
                      have HOK1 := hik hok1
                      replace HC := hik hc1
                      clear hs1 hok1 hc1 kk
                      have ka := (Chg.refl nob W4).alloc (.cells #[.string s1] 9)
                      replace RT := hik (rowIs_keep RT.out ka)
                      replace RX := hik (rowIs_keep RX.out ka)
                      replace RO := hik (rowIs_keep RO.out ka)
                      replace OR := hik ((dEEf v L f g').chg ka OR.out (fun _ _ x => x))
                      replace OT := hik ((txF (v - 1) Lt).chg ka OT.out (fun _ _ x => x))
                      replace GQ := hik (GQ.out.keep ka)
                      replace RQ := hik (rowIs_keep RQ.out ka)
                      replace HPF := hik ((exF lp fp gp).chg ka HPF.out (fun _ _ x => x))
                      replace GP := hik (GP.out.keep ka)
                      replace H5G := hik (H5G.out.keep ka)
                      replace HC := hik (HC.out.keep ka)
                      replace K0 := hik (K0.out.trans ka.wide)
                      clear ka
                      have hm8 : m ≤ 8 := by have := HNN.out; omega
                      go_wp2_with (at_builtin; refine wpList_append_lies _ ?g0 (.tmp 79) (.tmp 82) 32 ?g1 e2 9 i2 (.string ⟨#[]⟩) 1 16 Tryz.underlying32 HT0.out HT1.out HT2.out HT3.out rfl (by decide) vp m _ ?b1 H5G.out.own ⟨_, 0, none⟩ 1 1 [.string s1] ?b3 ?b4 (rwNews _ _ _) (oneS9 _) (by decide) ?b7 ?b8 ?b9 _ rfl ?b10)
                      case g0 => rfl
                      case g1 => rfl
                      case b1 => rfl
                      case b3 => rfl
                      case b4 => rfl
                      case b7 => unfold maxLen; omega
                      case b8 => omega
                      case b9 => have := H5G.out.hH; have := H5G.out.xH; omega
                      case b10 =>
                        intro g7 cp7 w7 o7 hg7 hat7 hlt7
                        have GTN := hik (H5G.out.step s1 o7 hg7 (by rw [asz]; exact hat7) hlt7)
                        have k7 := (Chg.refl (fun y => vp.ownBlock = some y) _).grown hg7 (fun b e _ => e)
                        have HXG := hik (show ∀ c, vp.ownBlock = some c → c = e2 ∨ e2 + 1 ≤ c from H5G.out.xg)
                        clear H5G o7 hg7 hat7 hlt7
                        replace RT := hik (rowIs_chg RT.out k7 (fun e => by have e_ := HXG.out _ e; have := HB.out; have := HU1.out; have := HU3.out; have := HX3.out; have := HE1.out; have := H4X.out; omega))
                        replace RX := hik (rowIs_chg RX.out k7 (fun e => by have e_ := HXG.out _ e; have := HB.out; have := HU1.out; have := HU3.out; have := HX3.out; have := HE1.out; have := H4X.out; omega))
                        replace RO := hik (rowIs_chg RO.out k7 (fun e => by have e_ := HXG.out _ e; have := HB.out; have := HU1.out; have := HU3.out; have := HX3.out; have := HE1.out; have := H4X.out; omega))
                        replace OR := hik ((dEEf v L f g').chg k7 OR.out (fun c hc e => by have e_ := HXG.out _ e; have := HB.out; have := HU1.out; have := HU3.out; have := HX3.out; have := HE1.out; have := H4X.out; try unfold Iv at hc; omega))
                        replace OT := hik ((txF (v - 1) Lt).chg k7 OT.out (fun c hc e => by have e_ := HXG.out _ e; have := HB.out; have := HU1.out; have := HU3.out; have := HX3.out; have := HE1.out; have := H4X.out; try unfold Iv at hc; omega))
                        replace GQ := hik (GQ.out.chg k7 (fun c hc hl e => by have e_ := HXG.out _ e; have := HB.out; have := HU1.out; have := HU3.out; have := HX3.out; have := HE1.out; have := H4X.out; omega))
                        replace RQ := hik (rowIs_chg RQ.out k7 (fun e => by have e_ := HXG.out _ e; have := HB.out; have := HU1.out; have := HU3.out; have := HX3.out; have := HE1.out; have := H4X.out; omega))
                        replace HPF := hik ((exF lp fp gp).chg k7 HPF.out (fun c hc e => by have e_ := HXG.out _ e; have := HB.out; have := HU1.out; have := HU3.out; have := HX3.out; have := HE1.out; have := H4X.out; try unfold Iv at hc; omega))
                        replace GP := hik (GP.out.chg k7 (fun c hc hl e => by have e_ := HXG.out _ e; have := HB.out; have := HU1.out; have := HU3.out; have := HX3.out; have := HE1.out; have := H4X.out; omega))
                        replace K0 := hik (K0.out.nearP k7 (fun i e => by first | (left; exact e) | (right; have e_ := HXG.out _ e; have := HB.out; have := HU1.out; have := HU3.out; have := HX3.out; have := HE1.out; have := H4X.out; omega)))
                        replace HC := hik (HC.out.chg k7 (fun e => by have e_ := HXG.out _ e; have := HB.out; have := HU1.out; have := HU3.out; have := HX3.out; have := HE1.out; have := H4X.out; omega))
                        clear k7 HXG
                        have HCF := hik (show CtI w7 gx n ((k + oL9 v + 12 + j * qsz v r + 16 * v + 32 * hpN v r y') + 32 * (m + 1)) z G ok1 from by rw [show (k + oL9 v + 12 + j * qsz v r + 16 * v + 32 * hpN v r y') + 32 * (m + 1) = (k + oL9 v + 12 + j * qsz v r + 16 * v + 32 * hpN v r y') + 32 * m + 32 by omega]; exact HC.out)
                        have HOKF := hik (show ok1 = true → oky = true ∧ ∀ i, i < m + 1 → ext9 m Lp (fun _ => s1) i = tz9 z (k + oL9 v + 12 + j * qsz v r + 16 * v + 32 * hpN v r y') i from fun u => by
                          have a := HOK1.out u
                          have b := HOZ.out a.1
                          refine ⟨b.1, fun i hi => ?_⟩
                          by_cases e : i < m
                          · rw [ext9_lo _ _ _ e]
                            exact b.2 i e
                          · obtain rfl : i = m := by omega
                            rw [ext9_at]
                            exact tz9_of HS1.out a.2.2)
                        clear HC HOK1 HOZ HS1
                        go_wp2
                        have hnm : ((NN - m : Nat) : Int) - 1 = ((NN - (m + 1) : Nat) : Int) := by omega
                        have hnw : wrap64 ((NN - (m + 1) : Nat) : Int) = ((NN - (m + 1) : Nat) : Int) := by (have := HNN.out; unfold wrap64; omega)
                        go_roundw
                        case rel => refine ⟨m + 1, _, _, _, ok1, by omega, rfl, by (first | rw [hnm, hnw] | rw [hnm] | go_num), RO, OR, OT, RT, RX, K0, GQ, RQ, HPF, GP, GTN, HCF, HOKF⟩
                        case measure => (simp only [intOf]; rw [hnm, hnw]; exact msr9 hlt5)
                    · have hv5 : ¬ (0 : Int) < ((NN - m : Nat) : Int) := by omega
                      have HMN := hik (show m = NN by omega)
                      have OP0 : (txF m Lp).Own wi (fun c => c = e2 ∨ Iv (e2 + 1) H5 c) (fun c => vp.ownBlock = some c) vp := H5G.out.done
                      have H5X := hik (show H5 ≤ wi.heap.size ∧ e2 + 1 ≤ H5 from ⟨H5G.out.hH, H5G.out.xH.2⟩)
                      obtain ⟨cp5, pp5, hvp⟩ : ∃ (c : Option Addr) (p : Nat), vp = .slice c m p := by
                        obtain ⟨_, c, cap, e, _⟩ := OP0
                        exact ⟨c, cap, e⟩
                      subst hvp
                      obtain ⟨MP, OP1⟩ : ∃ M : Nat → Prop, (txF m Lp).Own wi (fun c => c = e2 ∨ Iv (e2 + 1) H5 c) M (.slice cp5 m pp5) := ⟨_, OP0⟩
                      have HOP9 := hik OP1
                      clear OP0 OP1 H5G
                      have HXG := hik (show ∀ c, vP.ownBlock = some c → c = e1 ∨ e1 + 2 ≤ c from GP.out.xg)
                      have xq1 : wi.cell? ⟨e1 + 1, 1, none⟩ = some vP := RQ.out.cell (i := 1) (by omega)
                      have ka := (Chg.refl nob wi).alloc (.cells #[.slice cp5 m pp5] 32)
                      replace RT := hik (rowIs_keep RT.out ka)
                      replace RX := hik (rowIs_keep RX.out ka)
                      replace RO := hik (rowIs_keep RO.out ka)
                      replace OR := hik ((dEEf v L f g').chg ka OR.out (fun _ _ x => x))
                      replace OT := hik ((txF (v - 1) Lt).chg ka OT.out (fun _ _ x => x))
                      replace GQ := hik (GQ.out.keep ka)
                      replace RQ := hik (rowIs_keep RQ.out ka)
                      replace HPF := hik ((exF lp fp gp).chg ka HPF.out (fun _ _ x => x))
                      replace GP := hik (GP.out.keep ka)
                      replace HC := hik (HC.out.keep ka)
                      replace HOP9 := hik ((txF m Lp).chg ka HOP9.out (fun _ _ x => x))
                      replace K0 := hik (K0.out.trans ka.wide)
                      clear ka
                      obtain ⟨i4, hi, hz0, hz1, hz2⟩ := info_parts infoSS9
                      have HP0 := hik hi
                      have HP1 := hik hz0
                      have HP2 := hik hz1
                      have HP3 := hik hz2
                      clear hi hz0 hz1 hz2
                      go_wp2_with (at_builtin; first | refine wpList_append_lies _ (by rfl) (.tmp 85) (.tmp 87) 108 (by rfl) e1 32 i4 (.slice none 0 0) 1 24 Tryz.underlying108 HP0.out HP1.out HP2.out HP3.out rfl (by decide) vP y' _ (by rfl) GP.out.own ⟨_, 0, none⟩ 1 1 [.slice cp5 m pp5] (by rfl) (by rfl) (rwNews _ _ _) (rwOne _ _ _) (by decide) (by unfold maxLen; omega) (by omega) (by have := GP.out.hH; have := GP.out.xH; omega) _ rfl ?_)
                      focus
                        intro g7 cp7 w7 o7 hg7 hat7 hlt7
                        have GPN := hik ((GP.out.step (fun _ => txF m Lp) (fun _ => .slice cp5 m pp5) (fun _ => fun c => c = e2 ∨ Iv (e2 + 1) H5 c) (fun _ => MP) (by rw [Nat.mul_one]; exact o7) hg7 (by rw [asz]; exact hat7) hlt7 (by have := GP.out.xH; omega) (fun j _ => HOP9.out) (fun j c _ hc => by rw [asz]; have := H4X.out; have := H5X.out; unfold Iv at hc; omega) (fun j j' c hj hj' hne => absurd hne (by omega))).congr (fun p _ => ext9_tx y' lP TP m Lp p))
                        have k7 := (Chg.refl (fun y => vP.ownBlock = some y) _).grown hg7 (fun b e _ => e)
                        clear GP o7 hg7 hat7 hlt7 HOP9
                        replace RT := hik (rowIs_chg RT.out k7 (fun e => by have e_ := HXG.out _ e; have := HB.out; have := HU1.out; have := HU3.out; have := HX3.out; have := HE1.out; have := H4X.out; omega))
                        replace RX := hik (rowIs_chg RX.out k7 (fun e => by have e_ := HXG.out _ e; have := HB.out; have := HU1.out; have := HU3.out; have := HX3.out; have := HE1.out; have := H4X.out; omega))
                        replace RO := hik (rowIs_chg RO.out k7 (fun e => by have e_ := HXG.out _ e; have := HB.out; have := HU1.out; have := HU3.out; have := HX3.out; have := HE1.out; have := H4X.out; omega))
                        replace OR := hik ((dEEf v L f g').chg k7 OR.out (fun c hc e => by have e_ := HXG.out _ e; have := HB.out; have := HU1.out; have := HU3.out; have := HX3.out; have := HE1.out; have := H4X.out; try unfold Iv at hc; omega))
                        replace OT := hik ((txF (v - 1) Lt).chg k7 OT.out (fun c hc e => by have e_ := HXG.out _ e; have := HB.out; have := HU1.out; have := HU3.out; have := HX3.out; have := HE1.out; have := H4X.out; try unfold Iv at hc; omega))
                        replace GQ := hik (GQ.out.chg k7 (fun c hc hl e => by have e_ := HXG.out _ e; have := HB.out; have := HU1.out; have := HU3.out; have := HX3.out; have := HE1.out; have := H4X.out; omega))
                        replace RQ := hik (rowIs_chg RQ.out k7 (fun e => by have e_ := HXG.out _ e; have := HB.out; have := HU1.out; have := HU3.out; have := HX3.out; have := HE1.out; have := H4X.out; omega))
                        replace HPF := hik ((exF lp fp gp).chg k7 HPF.out (fun c hc e => by have e_ := HXG.out _ e; have := HB.out; have := HU1.out; have := HU3.out; have := HX3.out; have := HE1.out; have := H4X.out; try unfold Iv at hc; omega))
                        replace K0 := hik (K0.out.nearP k7 (fun i e => by first | (left; exact e) | (right; have e_ := HXG.out _ e; have := HB.out; have := HU1.out; have := HU3.out; have := HX3.out; have := HE1.out; have := H4X.out; omega)))
                        replace HC := hik (HC.out.chg k7 (fun e => by have e_ := HXG.out _ e; have := HB.out; have := HU1.out; have := HU3.out; have := HX3.out; have := HE1.out; have := H4X.out; omega))
                        clear k7 HXG
                        have xq1 : w7.cell? ⟨e1 + 1, 1, none⟩ = some vP := RQ.out.cell (i := 1) (by omega)
                        have xf1 := RQ.out.frozen 1
                        have xl1 := RQ.out.lt
                        have HCF := hik (show CtI w7 gx n (k + oL9 v + 12 + j * qsz v r + 16 * v + 32 * hpN v r (y' + 1)) z G okz from by rw [show (k + oL9 v + 12 + j * qsz v r + 16 * v + 32 * hpN v r (y' + 1)) = (k + oL9 v + 12 + j * qsz v r + 16 * v + 32 * hpN v r y') + 32 * m by have := HNH.out; have := HNN.out; have := HMN.out; omega]; exact HC.out)
                        have HOYF := hik (show okz = true → okp = true ∧ ∀ y, y < y' + 1 → ext9 y' lP (fun _ => m) y = v + r - 1 - y ∧ ∀ i, i < v + r - 1 - y → ext9 y' TP (fun _ => Lp) y i = tz9 z (k + oL9 v + 12 + j * qsz v r + 16 * v + 32 * hpN v r y) i from fun u => by
                          have a := HOZ.out u
                          have b := HOY.out a.1
                          refine ⟨b.1, fun y hy => ?_⟩
                          by_cases e : y < y'
                          · rw [ext9_lo _ _ _ e, ext9_lo _ _ _ e]
                            exact b.2 y e
                          · obtain rfl : y = y' := by omega
                            rw [ext9_at, ext9_at]
                            have c := HNN.out
                            have d := HMN.out
                            exact ⟨by omega, fun i hi => a.2 i (by omega)⟩)
                        clear HC HOZ HOY HP0 HP1 HP2 HP3 H5X
                        go_wp2
                        clear xq1 xf1 xl1
                        have kS := (Chg.refl (fun b => b = e1 + 1) w7).setCell (p := ⟨e1 + 1, 1, none⟩) (fun _ => rfl) (.slice (some ⟨g7, 0, none⟩) (y' + 1) cp7)
                        have RQF := hik ((RQ.out.set 1 (.slice (some ⟨g7, 0, none⟩) (y' + 1) cp7)).congr (g := (fun i => (#[.slice cp lp pp, .slice (some ⟨g7, 0, none⟩) (y' + 1) cp7] : Array Value).getD i undef)) (fun i hi => by rcases (show i = 0 ∨ i = 1 by omega) with rfl | rfl <;> rfl))
                        replace RO := hik (rowIs_chg RO.out kS (fun e => by have e_ : _ = e1 + 1 := e; have := HB.out; have := HU1.out; have := HU3.out; have := HX3.out; have := HE1.out; have := H4X.out; omega))
                        replace OR := hik ((dEEf v L f g').chg kS OR.out (fun c hc e => by have e_ : _ = e1 + 1 := e; have := HB.out; have := HU1.out; have := HU3.out; have := HX3.out; have := HE1.out; have := H4X.out; try unfold Iv at hc; omega))
                        replace OT := hik ((txF (v - 1) Lt).chg kS OT.out (fun c hc e => by have e_ : _ = e1 + 1 := e; have := HB.out; have := HU1.out; have := HU3.out; have := HX3.out; have := HE1.out; have := H4X.out; try unfold Iv at hc; omega))
                        replace RT := hik (rowIs_chg RT.out kS (fun e => by have e_ : _ = e1 + 1 := e; have := HB.out; have := HU1.out; have := HU3.out; have := HX3.out; have := HE1.out; have := H4X.out; omega))
                        replace RX := hik (rowIs_chg RX.out kS (fun e => by have e_ : _ = e1 + 1 := e; have := HB.out; have := HU1.out; have := HU3.out; have := HX3.out; have := HE1.out; have := H4X.out; omega))
                        replace K0 := hik (K0.out.nearP kS (fun i e => by first | (left; exact e) | (right; have e_ : _ = e1 + 1 := e; have := HB.out; have := HU1.out; have := HU3.out; have := HX3.out; have := HE1.out; have := H4X.out; omega)))
                        replace GQ := hik (GQ.out.chg kS (fun c hc hl e => by have e_ : _ = e1 + 1 := e; have := HB.out; have := HU1.out; have := HU3.out; have := HX3.out; have := HE1.out; have := H4X.out; omega))
                        replace HPF := hik ((exF lp fp gp).chg kS HPF.out (fun c hc e => by have e_ : _ = e1 + 1 := e; have := HB.out; have := HU1.out; have := HU3.out; have := HX3.out; have := HE1.out; have := H4X.out; try unfold Iv at hc; omega))
                        replace GPN := hik (GPN.out.chg kS (fun c hc hl e => by have e_ : _ = e1 + 1 := e; have := HB.out; have := HU1.out; have := HU3.out; have := HX3.out; have := HE1.out; have := H4X.out; omega))
                        replace HCF := hik (HCF.out.chg kS (fun e => by have e_ : _ = e1 + 1 := e; have := HB.out; have := HU1.out; have := HU3.out; have := HX3.out; have := HE1.out; have := H4X.out; omega))
                        generalize hE : w7.setCell ⟨e1 + 1, 1, none⟩ (.slice (some ⟨g7, 0, none⟩) (y' + 1) cp7) = w8 at RO OR OT RT RX K0 GQ HPF GPN HCF RQF ⊢
                        clear hE kS RQ
                        go_roundw
                        case rel => exact ⟨y' + 1, _, _, _, _, _, _, _, okz, by omega, by go_num, RO, OR, OT, RT, RX, K0, GQ, RQF, HPF, GPN, HCF, HOYF⟩
                        case measure => simp [intOf]; omega
                · obtain rfl : v = y' := by omega
                  have hv4 : ¬ (v : Int) < (v : Int) := by omega
                  have OS0 : (dSSf v lP TP).Own wi (fun c => c = e1 ∨ Iv (e1 + 2) H4 c) (fun c => ∃ p, p < v * 1 ∧ Mi4 p c) vP := GP.out.done (fun i jj hi hj => (by obtain rfl : jj = 0 := (by omega); rw [Nat.mul_one, Nat.add_zero]))
                  have H4Y := hik (show H4 ≤ wi.heap.size ∧ e1 + 2 ≤ H4 from ⟨GP.out.hH, GP.out.xH.2⟩)
                  obtain ⟨cS, pS, hvP⟩ : ∃ (c : Option Addr) (p : Nat), vP = .slice c v p := by
                    obtain ⟨_, c, cap, e, _⟩ := OS0
                    exact ⟨c, cap, e⟩
                  subst hvP
                  obtain ⟨MS, OS1, hms⟩ : ∃ M : Nat → Prop, (dSSf v lP TP).Own wi (fun c => c = e1 ∨ Iv (e1 + 2) H4 c) M (.slice cS v pS) ∧ ∀ c, M c → c = e1 ∨ Iv (e1 + 2) H4 c := ⟨_, OS0, fun c hc => (dSSf v lP TP).sub OS0 c hc⟩
                  have HOS := hik OS1
                  have HMS := hik hms
                  clear OS0 OS1 hms GP
                  have HXQ := hik (show ∀ c, vQ.ownBlock = some c → c = b3 ∨ u3 ≤ c from GQ.out.xg)
                  have xo5 : wi.cell? ⟨go, 5, none⟩ = some vQ := RO.out.cell (i := 5) (by omega)
                  have xq0 : wi.cell? ⟨e1 + 1, 0, none⟩ = some (.slice cp lp pp) := RQ.out.cell (i := 0) (by omega)
                  have xq1 : wi.cell? ⟨e1 + 1, 1, none⟩ = some (.slice cS v pS) := RQ.out.cell (i := 1) (by omega)
                  have ka := (Chg.refl nob wi).alloc (.cells #[.slice cp lp pp, .slice cS v pS] 110)
                  replace RT := hik (rowIs_keep RT.out ka)
                  replace RX := hik (rowIs_keep RX.out ka)
                  replace RO := hik (rowIs_keep RO.out ka)
                  replace OR := hik ((dEEf v L f g').chg ka OR.out (fun _ _ x => x))
                  replace OT := hik ((txF (v - 1) Lt).chg ka OT.out (fun _ _ x => x))
                  replace GQ := hik (GQ.out.keep ka)
                  replace HPF := hik ((exF lp fp gp).chg ka HPF.out (fun _ _ x => x))
                  replace HOS := hik ((dSSf v lP TP).chg ka HOS.out (fun _ _ x => x))
                  replace HC := hik (HC.out.keep ka)
                  replace K0 := hik (K0.out.trans ka.wide)
                  clear ka RQ
                  go_wp2_with (at_builtin; refine wpList_append_lies _ (by rfl) (.tmp 91) (.tmp 93) 33 (by rfl) b3 110 i3 (.agg #[.slice none 0 0, .slice none 0 0]) 2 48 Tryz.underlying33 HQ0.out HQ1.out HQ2.out HQ3.out rfl (by decide) vQ j _ (by rfl) GQ.out.own ⟨_, 0, none⟩ 1 1 [.slice cp lp pp, .slice cS v pS] (by rfl) rfl (newsQ9 _ _ _ _) (oneQ9 _ _ _ _ _ _) (by decide) (by unfold maxLen; omega) (by omega) (by have := GQ.out.hH; have := GQ.out.xH; omega) _ rfl ?_)
                  focus
                    intro g7 cp7 w7 o7 hg7 hat7 hlt7
                    have GQN := hik ((GQ.out.step (fun jj => if jj = 0 then (mkQ9 lp fp gp v lP TP).Pf else (mkQ9 lp fp gp v lP TP).Sf) (fun jj => if jj = 0 then .slice cp lp pp else .slice cS v pS) (fun jj => if jj = 0 then Iv uq e1 else (fun c => c = e1 ∨ Iv (e1 + 2) H4 c)) (fun jj => if jj = 0 then Iv uq e1 else MS) o7 hg7 (by rw [asz]; exact hat7) hlt7 (by have := GQ.out.xH; omega) (fun jj hj => by
                      rcases (show jj = 0 ∨ jj = 1 by omega) with rfl | rfl
                      · exact HPF.out
                      · exact HOS.out) (fun jj c hj hc => by
                      rw [asz]
                      have h1 := HE1.out
                      have h2 := H4Y.out
                      have h3 := HX3.out
                      rcases (show jj = 0 ∨ jj = 1 by omega) with rfl | rfl
                      · have hc' : Iv uq e1 c := hc
                        unfold Iv at hc'
                        omega
                      · have hc' : c = e1 ∨ Iv (e1 + 2) H4 c := hc
                        unfold Iv at hc'
                        omega) (fun jj j' c hj hj' hne hm hc => by
                      rcases (show jj = 0 ∨ jj = 1 by omega) with rfl | rfl <;> rcases (show j' = 0 ∨ j' = 1 by omega) with rfl | rfl
                      · exact hne rfl
                      · have hm' : Iv uq e1 c := hm
                        have hc' : c = e1 ∨ Iv (e1 + 2) H4 c := hc
                        unfold Iv at hm' hc'
                        omega
                      · have hm' := HMS.out c hm
                        have hc' : Iv uq e1 c := hc
                        unfold Iv at hm' hc'
                        omega
                      · exact hne rfl)).congr (fun p hp => ext9_q j X (mkQ9 lp fp gp v lP TP) p hp))
                    have k7 := (Chg.refl (fun y => vQ.ownBlock = some y) _).grown hg7 (fun b e _ => e)
                    clear GQ o7 hg7 hat7 hlt7 HPF HOS
                    replace RT := hik (rowIs_chg RT.out k7 (fun e => by have e_ := HXQ.out _ e; have := HB.out; have := HU1.out; have := HU3.out; have := HX3.out; have := HE1.out; omega))
                    replace RX := hik (rowIs_chg RX.out k7 (fun e => by have e_ := HXQ.out _ e; have := HB.out; have := HU1.out; have := HU3.out; have := HX3.out; have := HE1.out; omega))
                    replace RO := hik (rowIs_chg RO.out k7 (fun e => by have e_ := HXQ.out _ e; have := HB.out; have := HU1.out; have := HU3.out; have := HX3.out; have := HE1.out; omega))
                    replace OR := hik ((dEEf v L f g').chg k7 OR.out (fun c hc e => by have e_ := HXQ.out _ e; have := HB.out; have := HU1.out; have := HU3.out; have := HX3.out; have := HE1.out; try unfold Iv at hc; omega))
                    replace OT := hik ((txF (v - 1) Lt).chg k7 OT.out (fun c hc e => by have e_ := HXQ.out _ e; have := HB.out; have := HU1.out; have := HU3.out; have := HX3.out; have := HE1.out; try unfold Iv at hc; omega))
                    replace K0 := hik (K0.out.nearP k7 (fun i e => by first | (left; exact e) | (right; have e_ := HXQ.out _ e; have := HB.out; have := HU1.out; have := HU3.out; have := HX3.out; have := HE1.out; omega)))
                    replace HC := hik (HC.out.chg k7 (fun e => by have e_ := HXQ.out _ e; have := HB.out; have := HU1.out; have := HU3.out; have := HX3.out; have := HE1.out; omega))
                    clear k7 HXQ
                    have xo5 : w7.cell? ⟨go, 5, none⟩ = some vQ := RO.out.cell (i := 5) (by omega)
                    have xf5 := RO.out.frozen 5
                    have xl5 := RO.out.lt
                    have HCF := hik (show CtI w7 gx n (k + oL9 v + 12 + (j + 1) * qsz v r) z G oky from by rw [show k + oL9 v + 12 + (j + 1) * qsz v r = (k + oL9 v + 12 + j * qsz v r + 16 * v + 32 * hpN v r v) by have := HQS.out; rw [Nat.succ_mul]; omega]; exact HC.out)
                    have HOQF := hik (show oky = true → ok4 = true ∧ ∀ i, i < j + 1 → QE9 (ext9 j X (fun _ => mkQ9 lp fp gp v lP TP) i) (rdQ z v r (k + oL9 v + 12 + i * qsz v r)) from fun u => by
                      have a := HOY.out u
                      have b := HOKP.out a.1
                      have c := HOQ.out b.1
                      refine ⟨c.1, fun i hi => ?_⟩
                      by_cases e : i < j
                      · rw [ext9_lo _ _ _ e]
                        exact c.2 i e
                      · obtain rfl : i = j := by omega
                        rw [ext9_at]
                        exact ⟨b.2.2.1, fun i hi => b.2.2.2 i hi, rfl, fun y hy => a.2 y hy⟩)
                    clear HC HOY HOKP HOQ HMS H4Y
                    go_wp2
                    clear xo5 xf5 xl5 xq0 xq1
                    have kS := (Chg.refl (fun b => b = go) w7).setCell (p := ⟨go, 5, none⟩) (fun _ => rfl) (.slice (some ⟨g7, 0, none⟩) (j + 1) cp7)
                    have ROF := hik ((RO.out.set 5 (.slice (some ⟨g7, 0, none⟩) (j + 1) cp7)).congr (g := (fun i => (#[.slice cR v pR, .slice cT (v - 1) pT, .int .i64 la, .int .i64 lb, .int .i64 no, .slice (some ⟨g7, 0, none⟩) (j + 1) cp7] : Array Value).getD i undef)) (fun i hi => by rcases (show i = 0 ∨ i = 1 ∨ i = 2 ∨ i = 3 ∨ i = 4 ∨ i = 5 by omega) with rfl | rfl | rfl | rfl | rfl | rfl <;> rfl))
                    replace RT := hik (rowIs_chg RT.out kS (fun e => by have e_ : _ = go := e; have := HB.out; have := HU1.out; have := HU3.out; have := HX3.out; have := HE1.out; omega))
                    replace RX := hik (rowIs_chg RX.out kS (fun e => by have e_ : _ = go := e; have := HB.out; have := HU1.out; have := HU3.out; have := HX3.out; have := HE1.out; omega))
                    replace OR := hik ((dEEf v L f g').chg kS OR.out (fun c hc e => by have e_ : _ = go := e; have := HB.out; have := HU1.out; have := HU3.out; have := HX3.out; have := HE1.out; try unfold Iv at hc; omega))
                    replace OT := hik ((txF (v - 1) Lt).chg kS OT.out (fun c hc e => by have e_ : _ = go := e; have := HB.out; have := HU1.out; have := HU3.out; have := HX3.out; have := HE1.out; try unfold Iv at hc; omega))
                    replace K0 := hik (K0.out.nearP kS (fun i e => by first | (left; exact e) | (right; have e_ : _ = go := e; have := HB.out; have := HU1.out; have := HU3.out; have := HX3.out; have := HE1.out; omega)))
                    replace GQN := hik (GQN.out.chg kS (fun c hc hl e => by have e_ : _ = go := e; have := HB.out; have := HU1.out; have := HU3.out; have := HX3.out; have := HE1.out; omega))
                    replace HCF := hik (HCF.out.chg kS (fun e => by have e_ : _ = go := e; have := HB.out; have := HU1.out; have := HU3.out; have := HX3.out; have := HE1.out; omega))
                    generalize hE : w7.setCell ⟨go, 5, none⟩ (.slice (some ⟨g7, 0, none⟩) (j + 1) cp7) = w8 at ROF OR OT RT RX K0 GQN HCF ⊢
                    clear hE kS RO
                    go_roundw
                    case rel => exact ⟨j + 1, _, _, _, _, _, _, oky, by omega, by go_num, ROF, OR, OT, RT, RX, K0, GQN, HCF, HOQF⟩
                    case measure => simp [intOf]; omega
            · obtain rfl : q = j := by omega
              have hvq : ¬ (q : Int) < (q : Int) := by omega
              have OQ0 : (dQsf q X).Own wi (fun c => c = b3 ∨ Iv u3 H3 c) (fun c => ∃ p, p < q * 2 ∧ Mi p c) vQ := GQ.out.done (fun i jj hi hj => qx9_at X i jj hj)
              have HH3 := hik (show H3 ≤ wi.heap.size ∧ u3 ≤ H3 from ⟨GQ.out.hH, GQ.out.xH.2⟩)
              obtain ⟨cQ, pQ, hvQ⟩ : ∃ (c : Option Addr) (p : Nat), vQ = .slice c q p := by
                obtain ⟨_, c, cap, e, _⟩ := OQ0
                exact ⟨c, cap, e⟩
              subst hvQ
              obtain ⟨MQ, OQ1, hmq⟩ : ∃ M : Nat → Prop, (dQsf q X).Own wi (fun c => c = b3 ∨ Iv u3 H3 c) M (.slice cQ q pQ) ∧ ∀ c, M c → Iv u3 H3 c := ⟨_, OQ0, fun c ⟨p, hp, hc⟩ => GQ.out.bd p c hp ((qx9 X p).sub (GQ.out.it p hp) c hc)⟩
              have OQ := hik OQ1
              have HMQ := hik hmq
              clear OQ0 OQ1 hmq GQ
              have ro0 : wi.cell? ⟨go, 0, none⟩ = some (.slice cR v pR) := RO.out.cell (i := 0) (by omega)
              have rx0 : wi.cell? ⟨w.heap.size + 1, 0, none⟩ = some (.slice none 0 0) := RX.out.cell (i := 0) (by omega)
              have rf0_ := RX.out.frozen 0
              have ro1 : wi.cell? ⟨go, 1, none⟩ = some (.slice cT (v - 1) pT) := RO.out.cell (i := 1) (by omega)
              have rx1 : wi.cell? ⟨w.heap.size + 1, 1, none⟩ = some (.slice none 0 0) := RX.out.cell (i := 1) (by omega)
              have rf1_ := RX.out.frozen 1
              have ro2 : wi.cell? ⟨go, 2, none⟩ = some (.int .i64 la) := RO.out.cell (i := 2) (by omega)
              have rx2 : wi.cell? ⟨w.heap.size + 1, 2, none⟩ = some (.int .i64 0) := RX.out.cell (i := 2) (by omega)
              have rf2_ := RX.out.frozen 2
              have ro3 : wi.cell? ⟨go, 3, none⟩ = some (.int .i64 lb) := RO.out.cell (i := 3) (by omega)
              have rx3 : wi.cell? ⟨w.heap.size + 1, 3, none⟩ = some (.int .i64 0) := RX.out.cell (i := 3) (by omega)
              have rf3_ := RX.out.frozen 3
              have ro4 : wi.cell? ⟨go, 4, none⟩ = some (.int .i64 no) := RO.out.cell (i := 4) (by omega)
              have rx4 : wi.cell? ⟨w.heap.size + 1, 4, none⟩ = some (.int .i64 0) := RX.out.cell (i := 4) (by omega)
              have rf4_ := RX.out.frozen 4
              have ro5 : wi.cell? ⟨go, 5, none⟩ = some (.slice cQ q pQ) := RO.out.cell (i := 5) (by omega)
              have rx5 : wi.cell? ⟨w.heap.size + 1, 5, none⟩ = some (.slice none 0 0) := RX.out.cell (i := 5) (by omega)
              have rf5_ := RX.out.frozen 5
              have rl_ := RX.out.lt
              have kE := (((((((Chg.refl (fun b => b = w.heap.size + 1) wi).setCell (p := ⟨w.heap.size + 1, 0, none⟩) (fun _ => rfl) (.slice cR v pR)).setCell (p := ⟨w.heap.size + 1, 1, none⟩) (fun _ => rfl) (.slice cT (v - 1) pT)).setCell (p := ⟨w.heap.size + 1, 2, none⟩) (fun _ => rfl) (.int .i64 la)).setCell (p := ⟨w.heap.size + 1, 3, none⟩) (fun _ => rfl) (.int .i64 lb)).setCell (p := ⟨w.heap.size + 1, 4, none⟩) (fun _ => rfl) (.int .i64 no)).setCell (p := ⟨w.heap.size + 1, 5, none⟩) (fun _ => rfl) (.slice cQ q pQ))
              have RE := hik (((((((RX.out.set 0 (.slice cR v pR)).set 1 (.slice cT (v - 1) pT)).set 2 (.int .i64 la)).set 3 (.int .i64 lb)).set 4 (.int .i64 no)).set 5 (.slice cQ q pQ)).congr (g := (fun i => (#[.slice cR v pR, .slice cT (v - 1) pT, .int .i64 la, .int .i64 lb, .int .i64 no, .slice cQ q pQ] : Array Value).getD i undef)) (fun i hi => by rcases (show i = 0 ∨ i = 1 ∨ i = 2 ∨ i = 3 ∨ i = 4 ∨ i = 5 by omega) with rfl | rfl | rfl | rfl | rfl | rfl <;> rfl))
              replace OR := hik ((dEEf v L f g').chg kE OR.out (fun c hc e => by have e_ : c = w.heap.size + 1 := e; have := HB.out; unfold Iv at hc; omega))
              replace OT := hik ((txF (v - 1) Lt).chg kE OT.out (fun c hc e => by have e_ : c = w.heap.size + 1 := e; have := HB.out; have := HU1.out; unfold Iv at hc; omega))
              replace OQ := hik ((dQsf q X).chg kE OQ.out (fun c hc e => by have e_ : c = w.heap.size + 1 := e; have := HB.out; have := HU3.out; unfold Iv at hc; omega))
              replace HC := hik (HC.out.chg kE (fun e => by have e_ : gx = w.heap.size + 1 := e; have := HB.out; omega))
              replace K0 := hik (K0.out.nearP kE (fun i e => .inr (by have e_ : i = w.heap.size + 1 := e; omega)))
              have hsz : wi.heap.size = (((((((wi.setCell ⟨w.heap.size + 1, 0, none⟩ (.slice cR v pR)).setCell ⟨w.heap.size + 1, 1, none⟩ (.slice cT (v - 1) pT)).setCell ⟨w.heap.size + 1, 2, none⟩ (.int .i64 la)).setCell ⟨w.heap.size + 1, 3, none⟩ (.int .i64 lb)).setCell ⟨w.heap.size + 1, 4, none⟩ (.int .i64 no)).setCell ⟨w.heap.size + 1, 5, none⟩ (.slice cQ q pQ))).heap.size := by simp
              clear kE
              have HANS : Hid (CrA w gx n k v r q z G ok (.returned (.agg #[.slice cR v pR, .slice cT (v - 1) pT, .int .i64 la, .int .i64 lb, .int .i64 no, .slice cQ q pQ])) (((((((wi.setCell ⟨w.heap.size + 1, 0, none⟩ (.slice cR v pR)).setCell ⟨w.heap.size + 1, 1, none⟩ (.slice cT (v - 1) pT)).setCell ⟨w.heap.size + 1, 2, none⟩ (.int .i64 la)).setCell ⟨w.heap.size + 1, 3, none⟩ (.int .i64 lb)).setCell ⟨w.heap.size + 1, 4, none⟩ (.int .i64 no)).setCell ⟨w.heap.size + 1, 5, none⟩ (.slice cQ q pQ)))) := hik (by
                have h1 := HB.out
                have h2 := HU1.out
                have h3 := HU3.out
                have h4 := HH3.out
                refine ⟨{ nr := v, rl := L, rf := f, rg := g', nt := v - 1, ts := Lt, la := la, lb := lb, no := no, nq := q, q := X }, ⟨cR, pR, cT, pT, cQ, pQ⟩, okq, rfl, ⟨_, MR, _, MT, _, MQ, OR.out, OT.out, OQ.out, fun c hc => ?_, fun c hc => ?_, fun c hc => ?_, fun c hc => ?_⟩, by have a := HC.out; rw [show k + osN v r q = k + oL9 v + 12 + q * qsz v r by have := HOS.out; omega]; exact a, K0.out, fun u => ?_, rfl, rfl, rfl⟩
                · unfold Iv at hc ⊢
                  omega
                · have m1 := HMR.out c hc
                  unfold Iv at m1 ⊢
                  omega
                · have m1 := HMT.out c hc
                  unfold Iv at m1 ⊢
                  omega
                · have m1 := HMQ.out c hc
                  unfold Iv at m1 ⊢
                  omega
                · have a1 := HOQ.out u
                  have a2 := HOK4.out a1.1
                  have a3 := HOK3.out a2.1
                  have a4 := HOT.out a3.1
                  have a5 := HOK.out a4.1
                  exact ⟨a5.1, rfl, fun i hi => a5.2 i hi, rfl, fun i hi => a4.2 i hi, a3.2.2.1, a3.2.2.2, HNO.out a1.1, rfl, fun i hi => a1.2 i hi⟩)
              go_wp2
              have d0 := RE.out.cell (i := 0) (by omega)
              have d1 := RE.out.cell (i := 1) (by omega)
              have d2 := RE.out.cell (i := 2) (by omega)
              have d3 := RE.out.cell (i := 3) (by omega)
              have d4 := RE.out.cell (i := 4) (by omega)
              have d5 := RE.out.cell (i := 5) (by omega)
              simp at d0 d1 d2 d3 d4 d5
              exact bodyPost_ret (v := .agg #[.slice cR v pR, .slice cT (v - 1) pT, .int .i64 la, .int .i64 lb, .int .i64 no, .slice cQ q pQ]) (by simp [results, Tryz.results38, go_sem, d0, d1, d2, d3, d4, d5]) rfl HANS.out

end Go.Proofs.YtppiilbcnkphbaaGreat

namespace Go.Proofs.YtppiilbcnkphbaaGreat
open Go.ChangeShapes Go.WideShapes Go.ChangeAt Go.RowKit
set_option linter.unusedVariables false
set_option maxRecDepth 100000
set_option linter.unusedSimpArgs false

/-- ReadProof's code; the proof that is told. -/
def prc (n : Nat) (z : Nat → Int) (s : Sy) (r q g : Int) : Int := if 65536 < n then 2 else if sysb s && stb r q g then (if (n : Int) = psv s r q g ∧ pfb (rdP z s.r.toNat s.q.toNat r.toNat q.toNat 0) s r q g = true then 0 else 3) else 1
def noP : PD := { rt := ⟨#[]⟩, ng := 0, gl := fun _ => 0, gf := fun _ _ => 0, gg := fun _ _ => 0, a0 := 0, a1 := 0, b0 := 0, b1 := 0, c0 := 0, c1 := 0, nw := 0, wl := fun _ => 0, wf := fun _ _ => 0, wg := fun _ _ => 0, v0 := 0, v1 := 0, op := noO }
def noA : PA := ⟨none, 0, none, 0, none, 0, none, 0, none, 0⟩
def prv (n : Nat) (z : Nat → Int) (s : Sy) (r q g : Int) : PD := if prc n z s r q g = 0 then (rdP z s.r.toNat s.q.toNat r.toNat q.toNat 0) else noP
/-- A proof of a call's own and a code. -/
def RpAns (w : World) (p : PD) (code : Int) (e : Ending) (w' : World) : Prop :=
  ∃ a : PA, e = .returned (.tuple #[.agg (rowA 17 (pfv p a)), .int .i64 code]) ∧ PrO w' w.heap.size w'.heap.size p a ∧ Chg nob w w'
theorem PrO.none9 (w : World) (lo hi : Nat) : PrO w lo hi noP noA :=
  ⟨fun _ => False, fun _ => False, fun _ => False, fun _ => False, fun _ => False, ⟨fun _ x => x, _, _, rfl, .inl rfl⟩, ⟨fun _ x => x, _, _, rfl, .inl rfl⟩, OpF.none9 w _, fun c hc => by (rcases hc with x | x | x <;> exact x.elim), fun c hc => absurd hc (fun x => x), fun c hc => absurd hc (fun x => x), fun c hc => absurd hc (fun x => x)⟩
theorem PrO.wide9 {w : World} {lo hi lo' hi' : Nat} {p : PD} {a : PA} (h : PrO w lo hi p a) (h1 : lo' ≤ lo) (h2 : hi ≤ hi') : PrO w lo' hi' p a := by
  obtain ⟨SG, MG, SW, MW, SO, oG, oW, oO, hs, q⟩ := h
  exact ⟨SG, MG, SW, MW, SO, oG, oW, oO, fun c hc => ⟨Nat.le_trans h1 (hs c hc).1, Nat.lt_of_lt_of_le (hs c hc).2 h2⟩, q⟩
theorem RpAns.no {w w' : World} {n : Nat} {z : Nat → Int} {s : Sy} {r q g code : Int} {e : Ending} (hb : prc n z s r q g = code) (hc : code ≠ 0) (h : e = .returned (.tuple #[.agg (rowA 17 (pfv noP noA)), .int .i64 code])) (k : Chg nob w w') : RpAns w (prv n z s r q g) (prc n z s r q g) e w' := by
  have e1 : prv n z s r q g = noP := by unfold prv; rw [if_neg (by rw [hb]; exact hc)]
  rw [e1, hb]
  exact ⟨noA, h, PrO.none9 _ _ _, k⟩

set_option maxHeartbeats 8000000 in
theorem readProof_any (c : Option Addr) (n cap : Nat) (z : Nat → Int) (s : Sy) (y : SyA) (r q g : Int) (w : World) (h : Hid (RowV w c n (bw z))) (hz : Hid (∀ j, 0 ≤ z j ∧ z j < 256)) (hn : n ≤ 1099511627776) (hcap : n ≤ cap) (hc' : (cap : Int) ≤ 9223372036854775807) (hv : Hid (SyV w s y)) (hsy : s.small) :
    Calls Tryz.prog 9 #[.slice c n cap, .agg #[.int .i64 s.r, .int .i64 s.q, .int .i64 s.p, .slice y.cA s.nA y.pA, .slice y.cB s.nB y.pB, .slice y.cC s.nC y.pC], .agg #[.int .i64 r, .int .i64 q, .int .i64 g]] w fun e w' => RpAns w (prv n z s r q g) (prc n z s r q g) e w' := by
  have K0 := hik ((((Chg.refl nob w).alloc (.cells #[.int .i64 s.r, .int .i64 s.q, .int .i64 s.p, .slice y.cA s.nA y.pA, .slice y.cB s.nB y.pB, .slice y.cC s.nC y.pC] 43)).alloc (.cells #[.int .i64 r, .int .i64 q, .int .i64 g] 45)).alloc (.cells #[.string ⟨#[]⟩, .slice none 0 0, .int .i64 0, .int .i64 0, .int .i64 0, .int .i64 0, .int .i64 0, .int .i64 0, .slice none 0 0, .int .i64 0, .int .i64 0, .slice none 0 0, .slice none 0 0, .int .i64 0, .int .i64 0, .int .i64 0, .slice none 0 0] 37))
  have RS := hik (rowIs_keep (rowN_new w 6 #[.int .i64 s.r, .int .i64 s.q, .int .i64 s.p, .slice y.cA s.nA y.pA, .slice y.cB s.nB y.pB, .slice y.cC s.nC y.pC] 43 rfl) (((Chg.refl nob _).alloc (.cells #[.int .i64 r, .int .i64 q, .int .i64 g] 45)).alloc (.cells #[.string ⟨#[]⟩, .slice none 0 0, .int .i64 0, .int .i64 0, .int .i64 0, .int .i64 0, .int .i64 0, .int .i64 0, .slice none 0 0, .int .i64 0, .int .i64 0, .slice none 0 0, .slice none 0 0, .int .i64 0, .int .i64 0, .int .i64 0, .slice none 0 0] 37)))
  have RT := hik (rowIs_keep (rowN_new (w.alloc (.cells #[.int .i64 s.r, .int .i64 s.q, .int .i64 s.p, .slice y.cA s.nA y.pA, .slice y.cB s.nB y.pB, .slice y.cC s.nC y.pC] 43)) 3 #[.int .i64 r, .int .i64 q, .int .i64 g] 45 rfl) ((Chg.refl nob _).alloc (.cells #[.string ⟨#[]⟩, .slice none 0 0, .int .i64 0, .int .i64 0, .int .i64 0, .int .i64 0, .int .i64 0, .int .i64 0, .slice none 0 0, .int .i64 0, .int .i64 0, .slice none 0 0, .slice none 0 0, .int .i64 0, .int .i64 0, .int .i64 0, .slice none 0 0] 37)))
  have RX := hik (rowN_new ((w.alloc (.cells #[.int .i64 s.r, .int .i64 s.q, .int .i64 s.p, .slice y.cA s.nA y.pA, .slice y.cB s.nB y.pB, .slice y.cC s.nC y.pC] 43)).alloc (.cells #[.int .i64 r, .int .i64 q, .int .i64 g] 45)) 17 #[.string ⟨#[]⟩, .slice none 0 0, .int .i64 0, .int .i64 0, .int .i64 0, .int .i64 0, .int .i64 0, .int .i64 0, .slice none 0 0, .int .i64 0, .int .i64 0, .slice none 0 0, .slice none 0 0, .int .i64 0, .int .i64 0, .int .i64 0, .slice none 0 0] 37 rfl)
  rw [asz] at RT
  rw [asz, asz] at RX
  have HCA := hik (And.intro hcap hc')
  have HSL := hik (SyV.low9 hv.out)
  clear hcap hc'
  by_cases hlen : 65536 < n
  · have HB := hik (show prc n z s r q g = 2 by unfold prc; rw [if_pos hlen])
    have hl2 : (65536 : Int) < (n : Int) := by omega
    go_enter Tryz.func9, Tryz.ntmps9
    go_upto_region 1 with fail
    generalize hW : ((w.alloc (.cells #[.int .i64 s.r, .int .i64 s.q, .int .i64 s.p, .slice y.cA s.nA y.pA, .slice y.cB s.nB y.pB, .slice y.cC s.nC y.pC] 43)).alloc (.cells #[.int .i64 r, .int .i64 q, .int .i64 g] 45)).alloc (.cells #[.string ⟨#[]⟩, .slice none 0 0, .int .i64 0, .int .i64 0, .int .i64 0, .int .i64 0, .int .i64 0, .int .i64 0, .slice none 0 0, .int .i64 0, .int .i64 0, .slice none 0 0, .slice none 0 0, .int .i64 0, .int .i64 0, .int .i64 0, .slice none 0 0] 37) = W0 at K0 RS RT RX ⊢
    clear hW
    go_wp2_with ((with_reducible refine wpList_store_all 37 (.tmp 6) (.tmp 16) rfl rfl (w.heap.size + 1 + 1) 17 (pfv noP noA) ?hx ?hy 37 _ RX.out infoPf (pfv_one noP _) ?_); (case hx => rfl); (case hy => rfl); intro WE r9 g9)
    exact bodyPost_ret (results_row_tmp Tryz.results9 _ _ (w.heap.size + 1 + 1) 37 (rowA 17 (pfv noP noA)) (0, 0) _ rfl (rowA_of r9) Tryz.underlying37 rfl (by rw [rowA_size]; exact infoPf)) rfl (RpAns.no HB.out (by decide) rfl (K0.out.near g9 (fun b e => by have e' : b = w.heap.size + 1 + 1 := e; omega)))
  have hl2 : ¬ (65536 : Int) < (n : Int) := by omega
  have HS9 := hik (fun w' (k : Chg nob w w') => proofSize_any s y r q g w' (hik (hv.out.keep k)) hsy)
  cases b1 : (sysb s && stb r q g)
  · have HB := hik (show prc n z s r q g = 1 by unfold prc; rw [if_neg hlen, b1]; rfl)
    have HO1 := hik (show psc s r q g = 1 by unfold psc; rw [b1]; rfl)
    go_enter Tryz.func9, Tryz.ntmps9
    go_upto_region 3 with fail
    generalize hW : ((w.alloc (.cells #[.int .i64 s.r, .int .i64 s.q, .int .i64 s.p, .slice y.cA s.nA y.pA, .slice y.cB s.nB y.pB, .slice y.cC s.nC y.pC] 43)).alloc (.cells #[.int .i64 r, .int .i64 q, .int .i64 g] 45)).alloc (.cells #[.string ⟨#[]⟩, .slice none 0 0, .int .i64 0, .int .i64 0, .int .i64 0, .int .i64 0, .int .i64 0, .int .i64 0, .slice none 0 0, .int .i64 0, .int .i64 0, .slice none 0 0, .slice none 0 0, .int .i64 0, .int .i64 0, .int .i64 0, .slice none 0 0] 37) = W0 at K0 RS RT RX ⊢
    clear hW
    have xs0 : W0.cell? ⟨w.heap.size, 0, none⟩ = some (.int .i64 s.r) := RS.out.cell (i := 0) (by omega)
    have xs1 : W0.cell? ⟨w.heap.size, 1, none⟩ = some (.int .i64 s.q) := RS.out.cell (i := 1) (by omega)
    have xs2 : W0.cell? ⟨w.heap.size, 2, none⟩ = some (.int .i64 s.p) := RS.out.cell (i := 2) (by omega)
    have xs3 : W0.cell? ⟨w.heap.size, 3, none⟩ = some (.slice y.cA s.nA y.pA) := RS.out.cell (i := 3) (by omega)
    have xs4 : W0.cell? ⟨w.heap.size, 4, none⟩ = some (.slice y.cB s.nB y.pB) := RS.out.cell (i := 4) (by omega)
    have xs5 : W0.cell? ⟨w.heap.size, 5, none⟩ = some (.slice y.cC s.nC y.pC) := RS.out.cell (i := 5) (by omega)
    have xt0 : W0.cell? ⟨w.heap.size + 1, 0, none⟩ = some (.int .i64 r) := RT.out.cell (i := 0) (by omega)
    have xt1 : W0.cell? ⟨w.heap.size + 1, 1, none⟩ = some (.int .i64 q) := RT.out.cell (i := 1) (by omega)
    have xt2 : W0.cell? ⟨w.heap.size + 1, 2, none⟩ = some (.int .i64 g) := RT.out.cell (i := 2) (by omega)
    go_wp2_with fail
    clear xs0 xs1 xs2 xs3 xs4 xs5 xt0 xt1 xt2
    refine (HS9.out _ K0.out).mono ?_
    rintro e W1 ⟨rfl, kk⟩
    replace K0 := hik (K0.out.trans kk)
    replace RS := hik (rowIs_keep RS.out kk)
    replace RT := hik (rowIs_keep RT.out kk)
    replace RX := hik (rowIs_keep RX.out kk)
    clear kk
    rw [HO1.out]
    go_wp2_with ((with_reducible refine wpList_store_all 37 (.tmp 6) (.tmp 25) rfl rfl (w.heap.size + 1 + 1) 17 (pfv noP noA) ?hx ?hy 37 _ RX.out infoPf (pfv_one noP _) ?_); (case hx => rfl); (case hy => rfl); intro WE r9 g9)
    exact bodyPost_ret (results_row_tmp Tryz.results9 _ _ (w.heap.size + 1 + 1) 37 (rowA 17 (pfv noP noA)) (0, 0) _ rfl (rowA_of r9) Tryz.underlying37 rfl (by rw [rowA_size]; exact infoPf)) rfl (RpAns.no HB.out (by decide) rfl (K0.out.near g9 (fun b e => by have e' : b = w.heap.size + 1 + 1 := e; omega)))
  have HO1 := hik (show psc s r q g = 0 by unfold psc; rw [b1]; rfl)
  have HRC := hik (show prc n z s r q g = (if (n : Int) = psv s r q g ∧ pfb (rdP z s.r.toNat s.q.toNat r.toNat q.toNat 0) s r q g = true then 0 else 3) by unfold prc; rw [if_neg hlen, b1]; rfl)
  have HSS := hik (show sysb s = true ∧ stb r q g = true by simpa using b1)
  by_cases h3 : (n : Int) = psv s r q g
  rotate_left 1
  · have HB := hik (show prc n z s r q g = 3 by rw [HRC.out, if_neg (fun x => h3 x.1)])
    go_enter Tryz.func9, Tryz.ntmps9
    go_upto_region 3 with fail
    generalize hW : ((w.alloc (.cells #[.int .i64 s.r, .int .i64 s.q, .int .i64 s.p, .slice y.cA s.nA y.pA, .slice y.cB s.nB y.pB, .slice y.cC s.nC y.pC] 43)).alloc (.cells #[.int .i64 r, .int .i64 q, .int .i64 g] 45)).alloc (.cells #[.string ⟨#[]⟩, .slice none 0 0, .int .i64 0, .int .i64 0, .int .i64 0, .int .i64 0, .int .i64 0, .int .i64 0, .slice none 0 0, .int .i64 0, .int .i64 0, .slice none 0 0, .slice none 0 0, .int .i64 0, .int .i64 0, .int .i64 0, .slice none 0 0] 37) = W0 at K0 RS RT RX ⊢
    clear hW
    have xs0 : W0.cell? ⟨w.heap.size, 0, none⟩ = some (.int .i64 s.r) := RS.out.cell (i := 0) (by omega)
    have xs1 : W0.cell? ⟨w.heap.size, 1, none⟩ = some (.int .i64 s.q) := RS.out.cell (i := 1) (by omega)
    have xs2 : W0.cell? ⟨w.heap.size, 2, none⟩ = some (.int .i64 s.p) := RS.out.cell (i := 2) (by omega)
    have xs3 : W0.cell? ⟨w.heap.size, 3, none⟩ = some (.slice y.cA s.nA y.pA) := RS.out.cell (i := 3) (by omega)
    have xs4 : W0.cell? ⟨w.heap.size, 4, none⟩ = some (.slice y.cB s.nB y.pB) := RS.out.cell (i := 4) (by omega)
    have xs5 : W0.cell? ⟨w.heap.size, 5, none⟩ = some (.slice y.cC s.nC y.pC) := RS.out.cell (i := 5) (by omega)
    have xt0 : W0.cell? ⟨w.heap.size + 1, 0, none⟩ = some (.int .i64 r) := RT.out.cell (i := 0) (by omega)
    have xt1 : W0.cell? ⟨w.heap.size + 1, 1, none⟩ = some (.int .i64 q) := RT.out.cell (i := 1) (by omega)
    have xt2 : W0.cell? ⟨w.heap.size + 1, 2, none⟩ = some (.int .i64 g) := RT.out.cell (i := 2) (by omega)
    go_wp2_with fail
    clear xs0 xs1 xs2 xs3 xs4 xs5 xt0 xt1 xt2
    refine (HS9.out _ K0.out).mono ?_
    rintro e W1 ⟨rfl, kk⟩
    replace K0 := hik (K0.out.trans kk)
    replace RS := hik (rowIs_keep RS.out kk)
    replace RT := hik (rowIs_keep RT.out kk)
    replace RX := hik (rowIs_keep RX.out kk)
    clear kk
    rw [HO1.out]
    go_wp2_with ((with_reducible refine wpList_store_all 37 (.tmp 6) (.tmp 31) rfl rfl (w.heap.size + 1 + 1) 17 (pfv noP noA) ?hx ?hy 37 _ RX.out infoPf (pfv_one noP _) ?_); (case hx => rfl); (case hy => rfl); intro WE r9 g9)
    exact bodyPost_ret (results_row_tmp Tryz.results9 _ _ (w.heap.size + 1 + 1) 37 (rowA 17 (pfv noP noA)) (0, 0) _ rfl (rowA_of r9) Tryz.underlying37 rfl (by rw [rowA_size]; exact infoPf)) rfl (RpAns.no HB.out (by decide) rfl (K0.out.near g9 (fun b e => by have e' : b = w.heap.size + 1 + 1 := e; omega)))
  have HRV := hik (show prv n z s r q g = if prc n z s r q g = 0 then (rdP z s.r.toNat s.q.toNat r.toNat q.toNat 0) else noP from rfl)
  have hb9 := sysb_b9 HSS.out.1
  have ht9 := stb_parts HSS.out.2
  have HPV := hik (show psv s r q g = 64 + 32 * s.r + 24 * s.q + osn (s.q - 1) r q by unfold psv; rw [b1]; rfl)
  have H33 := hik h3
  clear h3 hlen b1
  obtain ⟨R, hR⟩ : ∃ R : Nat, R = s.r.toNat := ⟨_, rfl⟩
  obtain ⟨C, hC⟩ : ∃ C : Nat, C = s.q.toNat := ⟨_, rfl⟩
  rw [← hR, ← hC] at HRC HRV
  obtain ⟨r', rfl⟩ : ∃ r' : Nat, r = (r' : Int) := ⟨r.toNat, by omega⟩
  obtain ⟨q', rfl⟩ : ∃ q' : Nat, q = (q' : Int) := ⟨q.toNat, by omega⟩
  rw [Int.toNat_natCast, Int.toNat_natCast] at HRC HRV
  have hR2 : s.r = (R : Int) := by omega
  have hC2 : s.q = (C : Int) := by omega
  have bR : 1 ≤ R ∧ R ≤ 5 ∧ 2 ≤ C ∧ C ≤ 5 ∧ 1 ≤ r' ∧ r' ≤ 3 ∧ 1 ≤ q' ∧ q' ≤ 8 := by omega
  have H3 := hik (show n = prN R C r' q' by
    have a := osN_osn (C - 1) r' q' (by omega) (by omega)
    have b := H33.out
    rw [HPV.out, hR2, hC2, show ((C : Int) - 1) = ((C - 1 : Nat) : Int) by omega, ← a] at b
    unfold prN
    omega)
  have HR2 := hik hR2
  have HC2 := hik hC2
  have BR := hik bR
  clear hR hC hb9 ht9 HPV hR2 hC2 bR
  go_enter Tryz.func9, Tryz.ntmps9
  go_upto_region 3 with fail
  generalize hW : ((w.alloc (.cells #[.int .i64 s.r, .int .i64 s.q, .int .i64 s.p, .slice y.cA s.nA y.pA, .slice y.cB s.nB y.pB, .slice y.cC s.nC y.pC] 43)).alloc (.cells #[.int .i64 (r' : Int), .int .i64 (q' : Int), .int .i64 g] 45)).alloc (.cells #[.string ⟨#[]⟩, .slice none 0 0, .int .i64 0, .int .i64 0, .int .i64 0, .int .i64 0, .int .i64 0, .int .i64 0, .slice none 0 0, .int .i64 0, .int .i64 0, .slice none 0 0, .slice none 0 0, .int .i64 0, .int .i64 0, .int .i64 0, .slice none 0 0] 37) = W0 at K0 RS RT RX ⊢
  clear hW
  have xs0 : W0.cell? ⟨w.heap.size, 0, none⟩ = some (.int .i64 s.r) := RS.out.cell (i := 0) (by omega)
  have xs1 : W0.cell? ⟨w.heap.size, 1, none⟩ = some (.int .i64 s.q) := RS.out.cell (i := 1) (by omega)
  have xs2 : W0.cell? ⟨w.heap.size, 2, none⟩ = some (.int .i64 s.p) := RS.out.cell (i := 2) (by omega)
  have xs3 : W0.cell? ⟨w.heap.size, 3, none⟩ = some (.slice y.cA s.nA y.pA) := RS.out.cell (i := 3) (by omega)
  have xs4 : W0.cell? ⟨w.heap.size, 4, none⟩ = some (.slice y.cB s.nB y.pB) := RS.out.cell (i := 4) (by omega)
  have xs5 : W0.cell? ⟨w.heap.size, 5, none⟩ = some (.slice y.cC s.nC y.pC) := RS.out.cell (i := 5) (by omega)
  have xt0 : W0.cell? ⟨w.heap.size + 1, 0, none⟩ = some (.int .i64 (r' : Int)) := RT.out.cell (i := 0) (by omega)
  have xt1 : W0.cell? ⟨w.heap.size + 1, 1, none⟩ = some (.int .i64 (q' : Int)) := RT.out.cell (i := 1) (by omega)
  have xt2 : W0.cell? ⟨w.heap.size + 1, 2, none⟩ = some (.int .i64 g) := RT.out.cell (i := 2) (by omega)
  go_wp2_with fail
  clear xs0 xs1 xs2 xs3 xs4 xs5 xt0 xt1 xt2
  refine (HS9.out _ K0.out).mono ?_
  rintro e W1 ⟨rfl, kk⟩
  replace K0 := hik (K0.out.trans kk)
  replace RS := hik (rowIs_keep RS.out kk)
  replace RT := hik (rowIs_keep RT.out kk)
  replace RX := hik (rowIs_keep RX.out kk)
  clear kk
  rw [HO1.out, ← H33.out]
  have kk := (Chg.refl nob W1).alloc (.cells #[.slice c n cap] 65)
  have RR := hik (rowN_new W1 1 #[.slice c n cap] 65 rfl)
  have RV := hik (h.out.keep K0.out)
  have hWr : W1.heap.size < (W1.alloc (.cells #[.slice c n cap] 65)).heap.size := by simp
  have hW1 : w.heap.size + 1 + 1 < W1.heap.size := RX.out.lt
  have HRD := hik (show RdS (W1.alloc (.cells #[.slice c n cap] 65)) 65 W1.heap.size n cap 0 z from ⟨c, by rw [Nat.sub_zero, Nat.sub_zero]; exact RR.out.congr (g := fun _ => .slice c n cap) (fun i hi => by have hi' : i < 1 := hi; match i, hi' with | 0, _ => rfl), fun i hi => by
    obtain ⟨xb, xo, e, l, q_⟩ := RV.out i (by omega)
    exact ⟨xb, xo, e, l, by rw [Nat.zero_add]; exact kk.see q_⟩⟩)
  replace K0 := hik (K0.out.trans kk)
  replace RS := hik (rowIs_keep RS.out kk)
  replace RT := hik (rowIs_keep RT.out kk)
  replace RX := hik (rowIs_keep RX.out kk)
  have HVW := hik (fun (W : World) (k9 : Chg (RG W1.heap.size) (W1.alloc (.cells #[.slice c n cap] 65)) W) => SyV.far9 (B := w.heap.size) (hv.out.keep K0.out) k9 (fun b e => by have e' : b = W1.heap.size := e; omega) HSL.out)
  clear kk RR RV
  have xs0 : (W1.alloc (.cells #[.slice c n cap] 65)).cell? ⟨w.heap.size, 0, none⟩ = some (.int .i64 s.r) := RS.out.cell (i := 0) (by omega)
  have xs1 : (W1.alloc (.cells #[.slice c n cap] 65)).cell? ⟨w.heap.size, 1, none⟩ = some (.int .i64 s.q) := RS.out.cell (i := 1) (by omega)
  have xs2 : (W1.alloc (.cells #[.slice c n cap] 65)).cell? ⟨w.heap.size, 2, none⟩ = some (.int .i64 s.p) := RS.out.cell (i := 2) (by omega)
  have xs3 : (W1.alloc (.cells #[.slice c n cap] 65)).cell? ⟨w.heap.size, 3, none⟩ = some (.slice y.cA s.nA y.pA) := RS.out.cell (i := 3) (by omega)
  have xs4 : (W1.alloc (.cells #[.slice c n cap] 65)).cell? ⟨w.heap.size, 4, none⟩ = some (.slice y.cB s.nB y.pB) := RS.out.cell (i := 4) (by omega)
  have xs5 : (W1.alloc (.cells #[.slice c n cap] 65)).cell? ⟨w.heap.size, 5, none⟩ = some (.slice y.cC s.nC y.pC) := RS.out.cell (i := 5) (by omega)
  have xt0 : (W1.alloc (.cells #[.slice c n cap] 65)).cell? ⟨w.heap.size + 1, 0, none⟩ = some (.int .i64 (r' : Int)) := RT.out.cell (i := 0) (by omega)
  have xt1 : (W1.alloc (.cells #[.slice c n cap] 65)).cell? ⟨w.heap.size + 1, 1, none⟩ = some (.int .i64 (q' : Int)) := RT.out.cell (i := 1) (by omega)
  have xt2 : (W1.alloc (.cells #[.slice c n cap] 65)).cell? ⟨w.heap.size + 1, 2, none⟩ = some (.int .i64 g) := RT.out.cell (i := 2) (by omega)
  go_wp2_with fail
  generalize hgr : W1.heap.size = gr at HRD hWr hW1 HVW ⊢
  generalize hW : W1.alloc (.cells #[.slice c n cap] 65) = W2 at HRD K0 RS RT RX hWr HVW xs0 xs1 xs2 xs3 xs4 xs5 xt0 xt1 xt2 ⊢
  clear hW hgr xs0 xs1 xs2 xs3 xs4 xs5 xt0 xt1 xt2
  refine (rdProof_any gr n cap 0 R C r' q' g z s y _ HRD hz HVW hsy HR2.out HC2.out BR.out.1 BR.out.2.1 BR.out.2.2.1 BR.out.2.2.2.1 BR.out.2.2.2.2.1 BR.out.2.2.2.2.2.1 BR.out.2.2.2.2.2.2.1 BR.out.2.2.2.2.2.2.2 (by have := H3.out; omega) HCA.out.1 HCA.out.2).mono ?_
  rintro e W3 ⟨a, rfl, oo, kk⟩
  have OO := hik oo
  replace K0 := hik (K0.out.near kk (fun b e => by have e' : b = gr := e; omega))
  replace RX := hik (rowIs_chg RX.out kk (fun e => by have e' : w.heap.size + 1 + 1 = gr := e; omega))
  have hW3 := kk.size
  clear kk oo HRD RS RT HVW
  generalize hP : rdP z R C r' q' 0 = p at OO HRC HRV ⊢
  clear hP
  have RB := hik (rowN_new W3 17 #[.string ⟨#[]⟩, .slice none 0 0, .int .i64 0, .int .i64 0, .int .i64 0, .int .i64 0, .int .i64 0, .int .i64 0, .slice none 0 0, .int .i64 0, .int .i64 0, .slice none 0 0, .slice none 0 0, .int .i64 0, .int .i64 0, .int .i64 0, .slice none 0 0] 37 rfl)
  have ka := (Chg.refl nob W3).alloc (.cells #[.string ⟨#[]⟩, .slice none 0 0, .int .i64 0, .int .i64 0, .int .i64 0, .int .i64 0, .int .i64 0, .int .i64 0, .slice none 0 0, .int .i64 0, .int .i64 0, .slice none 0 0, .slice none 0 0, .int .i64 0, .int .i64 0, .int .i64 0, .slice none 0 0] 37)
  have K1 := hik (K0.out.trans ka)
  have RX1 := hik (rowIs_keep RX.out ka)
  have OO1 := hik (OO.out.keep ka)
  clear ka
  have hx3 : w.heap.size + 1 + 1 < W3.heap.size := RX.out.lt
  have hA3 : (W3.alloc (.cells #[.string ⟨#[]⟩, .slice none 0 0, .int .i64 0, .int .i64 0, .int .i64 0, .int .i64 0, .int .i64 0, .int .i64 0, .slice none 0 0, .int .i64 0, .int .i64 0, .slice none 0 0, .slice none 0 0, .int .i64 0, .int .i64 0, .int .i64 0, .slice none 0 0] 37)).heap.size = W3.heap.size + 1 := by simp
  have HZ0 := hik (show w.heap.size + 1 + 1 < gr ∧ gr < W2.heap.size ∧ W2.heap.size ≤ W3.heap.size by omega)
  clear OO K0
  cases b3 : pfb p s (r' : Int) (q' : Int) g
  · have HB := hik (show prc n z s (r' : Int) (q' : Int) g = 3 by rw [HRC.out, if_neg (fun x => by rw [b3] at x; exact absurd x.2 (by decide))])
    go_wp2_with (first | ((with_reducible refine wpList_store_all 37 (.tmp 11) (.tmp 39) rfl rfl (W3.heap.size) 17 (pfv p a) ?hx ?hy 37 _ RB.out infoPf (pfv_one p _) ?_); (case hx => rfl); (case hy => rfl); intro WB rB gB; have RX2 := hik (rowIs_chg RX1.out gB (fun e => by have e' : w.heap.size + 1 + 1 = W3.heap.size := e; omega)); have K2 := hik (K1.out.near gB (fun b e => by have e' : b = W3.heap.size := e; omega)); have OO2 := hik (OO1.out.chg gB (fun b h1 h2 e => by have e' : b = W3.heap.size := e; omega)); have RB1 := hik rB; have HZ := hik (show w.heap.size + 1 + 1 < gr ∧ gr < W2.heap.size ∧ W2.heap.size ≤ W3.heap.size ∧ W3.heap.size < WB.heap.size by have h1 := HZ0.out; have h2 := gB.size; omega); clear gB rB RX1 K1 OO1 RB) | ((with_reducible refine wpList_store_all 37 (.tmp 6) (.tmp 43) rfl rfl (w.heap.size + 1 + 1) 17 (pfv noP noA) ?hx ?hy 37 _ RX2.out infoPf (pfv_one noP _) ?_); (case hx => rfl); (case hy => rfl); intro WE r9 g9))
    exact bodyPost_ret (results_row_tmp Tryz.results9 _ _ (w.heap.size + 1 + 1) 37 (rowA 17 (pfv noP noA)) (0, 0) _ rfl (rowA_of r9) Tryz.underlying37 rfl (by rw [rowA_size]; exact infoPf)) rfl (RpAns.no HB.out (by decide) rfl (K2.out.near g9 (fun b e => by have e' : b = w.heap.size + 1 + 1 := e; omega)))
  · have HB := hik (show prc n z s (r' : Int) (q' : Int) g = 0 by rw [HRC.out, if_pos ⟨H33.out, b3⟩])
    go_wp2_with (first | ((with_reducible refine wpList_store_all 37 (.tmp 11) (.tmp 39) rfl rfl (W3.heap.size) 17 (pfv p a) ?hx ?hy 37 _ RB.out infoPf (pfv_one p _) ?_); (case hx => rfl); (case hy => rfl); intro WB rB gB; have RX2 := hik (rowIs_chg RX1.out gB (fun e => by have e' : w.heap.size + 1 + 1 = W3.heap.size := e; omega)); have K2 := hik (K1.out.near gB (fun b e => by have e' : b = W3.heap.size := e; omega)); have OO2 := hik (OO1.out.chg gB (fun b h1 h2 e => by have e' : b = W3.heap.size := e; omega)); have RB1 := hik rB; have HZ := hik (show w.heap.size + 1 + 1 < gr ∧ gr < W2.heap.size ∧ W2.heap.size ≤ W3.heap.size ∧ W3.heap.size < WB.heap.size by have h1 := HZ0.out; have h2 := gB.size; omega); clear gB rB RX1 K1 OO1 RB) | ((with_reducible refine wpList_load_row rfl 37 (.tmp 11) rfl (W3.heap.size) ?hx 37 (rowA 17 (pfv p a)) (0, 0) _ (rowA_of RB1.out) Tryz.underlying37 rfl (by rw [rowA_size]; exact infoPf) ?_); (case hx => rfl)) | ((with_reducible refine wpList_store_all 37 (.tmp 6) (.tmp 44) rfl rfl (w.heap.size + 1 + 1) 17 (pfv p a) ?hx ?hy 37 _ RX2.out infoPf (pfv_one p _) ?_); (case hx => rfl); (case hy => rfl); intro WE r9 g9))
    have KE := K2.out.near g9 (fun b e => by have e' : b = w.heap.size + 1 + 1 := e; omega)
    have HSE := g9.size
    have OE := (OO2.out.chg g9 (fun b h1 h2 e => by have e' : b = w.heap.size + 1 + 1 := e; have := HZ.out; omega)).wide9 (lo' := w.heap.size) (hi' := WE.heap.size) (by have := HZ.out; omega) (by have := HZ.out; omega)
    refine bodyPost_ret (results_row_tmp Tryz.results9 _ _ (w.heap.size + 1 + 1) 37 (rowA 17 (pfv p a)) (0, 0) _ rfl (rowA_of r9) Tryz.underlying37 rfl (by rw [rowA_size]; exact infoPf)) rfl ?_
    rw [HRV.out, HB.out, if_pos rfl]
    exact ⟨a, rfl, OE, KE⟩

end Go.Proofs.YtppiilbcnkphbaaGreat
