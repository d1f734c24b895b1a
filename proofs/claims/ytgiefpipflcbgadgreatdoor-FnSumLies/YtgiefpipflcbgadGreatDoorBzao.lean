/- Several texts in one: What the model draws, whatever draws: contracts. Conditions: rows that can be read; a right source with draws left. · Plain facts: how a proof of a sum goes on round by round: its tables, the source's state and its two numbers. No condition but those that each theorem states. · What the model's proof of a sum answers: a contract. Conditions: right tables of one length that can be read, a right source with draws left. · Plain facts: how a check of a sum goes on round by round, and that it goes along with the proof of a right sum. No condition but those that each theorem states. -/
import Derived.Test.YtgiefpipflcbgadGreatDoorSpsD
import Derived.Test.YtgiefpipflcbgadGreatDoorBzav
import Derived.Test.YtgiefpipflcbgadGreatDoorBzan
import Derived.Test.YtgiefpipflcbgadGreatDoorBzah
import Derived.Test.YtgiefpipflcbgadGreatDoorBzap
import Derived.Test.YtgiefpipflcbgadGreatDoorBzaf
namespace Go.Proofs.YtgiefpipflcbgadGreatDoor
open Go.ChangeShapes Go.WideShapes Go.ChangeAt Go.RowKit
set_option linter.unusedVariables false
set_option maxRecDepth 100000
set_option linter.unusedSimpArgs false

/-- The two numbers of a source behind k draws. -/
def dnA (len : Nat) (a : Int) (k : Nat) : Int := if 0 < len then a + k else a
def dnC (len : Nat) (c : Int) (k : Nat) : Int := if 0 < len then c else c + k
/-- Its k-th draw from here. -/
def drE (f : Nat → Int) (len : Nat) (a : Int) (st : ByteArray) (ct : Int) (k : Nat) : Int := if 0 < len then f ((a + k).toNat % len) else drA st (ct + k)
def drF (g : Nat → Int) (len : Nat) (a : Int) (st : ByteArray) (ct : Int) (k : Nat) : Int := if 0 < len then g ((a + k).toNat % len) else drB st (ct + k)
theorem dnA_zero (len : Nat) (a : Int) : dnA len a 0 = a := by unfold dnA; split <;> omega
theorem dnC_zero (len : Nat) (c : Int) : dnC len c 0 = c := by unfold dnC; split <;> omega
theorem dnA_le (len : Nat) (a : Int) (k : Nat) : a ≤ dnA len a k ∧ dnA len a k ≤ a + k := by unfold dnA; split <;> omega
theorem dnC_le (len : Nat) (c : Int) (k : Nat) : c ≤ dnC len c k ∧ dnC len c k ≤ c + k := by unfold dnC; split <;> omega
theorem tmod_nat (a : Int) (len : Nat) (a0 : 0 ≤ a) (h : 0 < len) : a.tmod (len : Int) = ((a.toNat % len : Nat) : Int) := by
  rw [Int.tmod_eq_emod_of_nonneg a0, Int.natCast_emod, Int.toNat_of_nonneg a0]

set_option maxHeartbeats 1000000 in
theorem sDraw_any (c : Option Addr) (len cap : Nat) (at' : Int) (st : ByteArray) (ct : Int) (f g : Nat → Int) (w : World) (h : Hid (PairV w c len f g)) (hl : len ≤ 64) (hst : st.size = 32) (a0 : 0 ≤ at') (a1 : at' ≤ 1000000) (c0 : 0 ≤ ct) (c1 : ct ≤ 1000000) :
    Calls Tryz.prog 61 #[.agg #[.slice c len cap, .int .i64 at', .string st, .int .i64 ct]] w fun e w' => e = .returned (.tuple #[.agg #[.slice c len cap, .int .i64 (dnA len at' 1), .string st, .int .i64 (dnC len ct 1)], .agg #[.int .i64 (drE f len at' st ct 0), .int .i64 (drF g len at' st ct 0)]]) ∧ Chg nob w w' := by
  by_cases h0 : 0 < len
  · refine (sDrawS_any c len cap (at'.toNat % len) at' st ct f g w h (Nat.mod_lt _ h0) hl a0 a1 (tmod_nat at' len a0 h0)).mono ?_
    rintro e w' ⟨rfl, k⟩
    refine ⟨?_, k⟩
    have e1 : dnA len at' 1 = at' + 1 := by unfold dnA; rw [if_pos h0]; omega
    have e2 : dnC len ct 1 = ct := by unfold dnC; rw [if_pos h0]
    have e3 : drE f len at' st ct 0 = f (at'.toNat % len) := by unfold drE; rw [if_pos h0]; simp
    have e4 : drF g len at' st ct 0 = g (at'.toNat % len) := by unfold drF; rw [if_pos h0]; simp
    rw [e1, e2, e3, e4]
  · obtain rfl : len = 0 := by omega
    refine (sDrawH_any c cap at' st ct w hst c0 c1).mono ?_
    rintro e w' ⟨rfl, k⟩
    refine ⟨?_, k⟩
    have e1 : dnA 0 at' 1 = at' := rfl
    have e2 : dnC 0 ct 1 = ct + 1 := rfl
    have e3 : drE f 0 at' st ct 0 = drA st ct := by unfold drE; rw [if_neg (by omega)]; simp
    have e4 : drF g 0 at' st ct 0 = drB st ct := by unfold drF; rw [if_neg (by omega)]; simp
    rw [e1, e2, e3, e4]

end Go.Proofs.YtgiefpipflcbgadGreatDoor

namespace Go.Proofs.YtgiefpipflcbgadGreatDoor
open Go.ChangeShapes Go.WideShapes Go.ChangeAt Go.RowKit
set_option linter.unusedVariables false
set_option linter.unusedSimpArgs false

/-- Tables, and of a source what changes: its place in the script, its state, its count. -/
structure PSt where
  t : Nat → Nat → El
  a : Int
  s : ByteArray
  c : Int

/-- A source's state behind a round. -/
def pss (k H : Nat) (p : PSt) : ByteArray := abS p.s (etx (cA (rdE k p.t H)) (cB (rdE k p.t H)) (k + 2))
/-- What is drawn then. -/
def psr (k : Nat) (f g : Nat → Int) (len H : Nat) (p : PSt) : El := elP (drE f len p.a (pss k H p) 0 0) (drF g len p.a (pss k H p) 0 0)
/-- All behind a round. -/
def psn (k : Nat) (f g : Nat → Int) (len H : Nat) (p : PSt) : PSt := ⟨bdT p.t (psr k f g len H p), dnA len p.a 1, pss k H p, dnC len 0 1⟩
/-- All behind i rounds of v. -/
def pst (k : Nat) (f g : Nat → Int) (len v : Nat) (p : PSt) : Nat → PSt
  | 0 => p
  | i + 1 => psn k f g len (2 ^ (v - 1 - i)) (pst k f g len v p i)

theorem pss_size (k H : Nat) (p : PSt) : (pss k H p).size = 32 := hsh_size _
theorem dr_fit {f g : Nat → Int} {len : Nat} (h : okP f g len = true) (at' : Int) (st : ByteArray) (ct : Int) (k : Nat) : eok (drE f len at' st ct k) (drF g len at' st ct k) = true := by
  unfold drE drF
  by_cases h0 : 0 < len
  · rw [if_pos h0, if_pos h0]
    exact okP_all f g len h _ (Nat.mod_lt (at' + k).toNat h0)
  · rw [if_neg h0, if_neg h0]
    exact eok_mk (fok_mk (fl8_in _ 8).1 (fl8_in _ 8).2) (fok_mk (fl8_in _ 8).1 (fl8_in _ 8).2)
theorem psr_v {f g : Nat → Int} {len : Nat} (h : okP f g len = true) (k H : Nat) (p : PSt) : drE f len p.a (pss k H p) 0 0 = (psr k f g len H p).v.1 ∧ drF g len p.a (pss k H p) 0 0 = (psr k f g len H p).v.2 := by
  have e := elP_v (dr_fit h p.a (pss k H p) 0 0)
  unfold psr
  rw [e]
  exact ⟨rfl, rfl⟩
theorem pst_size {k : Nat} {f g : Nat → Int} {len v : Nat} {p : PSt} (h : p.s.size = 32) (i : Nat) : (pst k f g len v p i).s.size = 32 := by
  cases i with
  | zero => exact h
  | succ i => exact pss_size _ _ _
theorem pst_a {k : Nat} {f g : Nat → Int} {len v : Nat} {p : PSt} (i : Nat) : p.a ≤ (pst k f g len v p i).a ∧ (pst k f g len v p i).a ≤ p.a + i := by
  induction i with
  | zero => simp [pst]
  | succ i ih =>
    have q := dnA_le len (pst k f g len v p i).a 1
    show p.a ≤ dnA len (pst k f g len v p i).a 1 ∧ dnA len (pst k f g len v p i).a 1 ≤ p.a + ((i + 1 : Nat) : Int)
    omega
theorem pst_c {k : Nat} {f g : Nat → Int} {len v : Nat} {p : PSt} (h : 0 ≤ p.c) (i : Nat) : 0 ≤ (pst k f g len v p i).c ∧ (pst k f g len v p i).c ≤ p.c + i := by
  cases i with
  | zero => simp [pst]; exact h
  | succ i =>
    have q := dnC_le len 0 1
    show 0 ≤ dnC len 0 1 ∧ dnC len 0 1 ≤ p.c + ((i + 1 : Nat) : Int)
    omega

/-- Round i of v: its values. -/
def prd (k : Nat) (f g : Nat → Int) (len v : Nat) (p : PSt) (i : Nat) : Nat → El := rdE k (pst k f g len v p i).t (2 ^ (v - 1 - i))
/-- The point's element i. -/
def ppt (k : Nat) (f g : Nat → Int) (len v : Nat) (p : PSt) (i : Nat) : El := psr k f g len (2 ^ (v - 1 - i)) (pst k f g len v p i)
/-- The tables' values at the point. -/
def pvl (k : Nat) (f g : Nat → Int) (len v : Nat) (p : PSt) (j : Nat) : El := (pst k f g len v p v).t j 0
theorem pst_t (k : Nat) (f g : Nat → Int) (len v : Nat) (p : PSt) (i : Nat) : (pst k f g len v p (i + 1)).t = bdT (pst k f g len v p i).t (ppt k f g len v p i) := rfl
theorem pst_s (k : Nat) (f g : Nat → Int) (len v : Nat) (p : PSt) (i : Nat) : (pst k f g len v p (i + 1)).s = abS (pst k f g len v p i).s (etx (cA (prd k f g len v p i)) (cB (prd k f g len v p i)) (k + 2)) := rfl
theorem pst_aS (k : Nat) (f g : Nat → Int) (len v : Nat) (p : PSt) (i : Nat) : (pst k f g len v p (i + 1)).a = dnA len (pst k f g len v p i).a 1 := rfl
theorem pst_cS (k : Nat) (f g : Nat → Int) (len v : Nat) (p : PSt) (i : Nat) : (pst k f g len v p (i + 1)).c = dnC len 0 1 := rfl
theorem ppt_v {f g : Nat → Int} {len : Nat} (h : okP f g len = true) (k v : Nat) (p : PSt) (i : Nat) : drE f len (pst k f g len v p i).a (pst k f g len v p (i + 1)).s 0 0 = (ppt k f g len v p i).v.1 ∧ drF g len (pst k f g len v p i).a (pst k f g len v p (i + 1)).s 0 0 = (ppt k f g len v p i).v.2 := psr_v h k _ _

end Go.Proofs.YtgiefpipflcbgadGreatDoor

namespace Go.Proofs.YtgiefpipflcbgadGreatDoor
open Go.ChangeShapes Go.WideShapes Go.ChangeAt Go.RowKit
set_option linter.unusedVariables false
set_option maxRecDepth 100000
set_option linter.unusedSimpArgs false

theorem Chg.seeP {P : Nat → Prop} {w w' : World} (h : Chg P w w') {b o : Nat} {v : Value} (c : w.cell? ⟨b, o, none⟩ = some v) (hp : ¬ P b) : w'.cell? ⟨b, o, none⟩ = some v :=
  (h.cell (p := ⟨b, o, none⟩) (World.block_lt_of_cell? w _ c) hp).trans c
/-- A slice's length. -/
def lnOf : Value → Nat
  | .slice _ n _ => n
  | _ => 0
theorem owns_far {P : Nat → Prop} {w w' : World} {B : Nat} {t : TypeId} {z : Nat} {v : Value} {n : Nat} {xs : List Value} (h : w.ownsRow B t z v n xs) (k : Chg P w w') (hp : ∀ i, B ≤ i → ¬ P i) : w'.ownsRow B t z v n xs := by
  obtain ⟨hl, h⟩ := h
  refine ⟨hl, ?_⟩
  rcases h with h | ⟨g, cap, cur, e, hb, hc, r⟩
  · exact .inl h
  · exact .inr ⟨g, cap, cur, e, hb, (k.block g (Array.getElem?_eq_some_iff.1 hc).1 (hp g hb)).trans hc, r⟩
theorem owns_at {P : Nat → Prop} {w w' : World} {B : Nat} {t : TypeId} {z g m cap : Nat} {n : Nat} {xs : List Value} (h : w.ownsRow B t z (.slice (some ⟨g, 0, none⟩) m cap) n xs) (k : Chg P w w') (hp : ¬ P g) : w'.ownsRow B t z (.slice (some ⟨g, 0, none⟩) m cap) n xs := by
  obtain ⟨hl, h⟩ := h
  refine ⟨hl, ?_⟩
  rcases h with h | ⟨g', cap', cur, e, hb, hc, r⟩
  · exact .inl h
  · have eg : g = g' := by simp at e; exact e.1
    subst eg
    exact .inr ⟨g, cap', cur, e, hb, (k.block g (Array.getElem?_eq_some_iff.1 hc).1 hp).trans hc, r⟩
/-- Rounds and a point that are being told, rounds iR, point iP: their blocks gR and gP. -/
structure PvI (B : Nat) (W : World) (m iR iP gR cR gP cP : Nat) (A : Nat → Option Addr) (C : Nat → Nat) (G : Nat → Nat → El) (R : Nat → El) : Prop where
  oR : W.ownsRow B 26 1 (.slice (some ⟨gR, 0, none⟩) iR cR) iR ((List.range iR).map (fun j => Value.slice (A j) m (C j)))
  oP : W.ownsRow B 31 2 (.slice (some ⟨gP, 0, none⟩) iP cP) iP ((List.range (iP * 2)).map (pf (cA R) (cB R)))
  tR : TbsO W B gR iR m A G
  tP : TbsO W B gP iR m A G
  ne : gR ≠ gP
namespace PvI
variable {B : Nat} {W W' : World} {m iR iP gR cR gP cP : Nat} {A : Nat → Option Addr} {C : Nat → Nat} {G : Nat → Nat → El} {R : Nat → El}
theorem chg {P : Nat → Prop} (h : PvI B W m iR iP gR cR gP cP A C G R) (k : Chg P W W') (hp : ∀ b, B ≤ b → ¬ P b) : PvI B W' m iR iP gR cR gP cP A C G R :=
  ⟨owns_at h.oR k (hp _ (h.oR.lt gR rfl).1), owns_at h.oP k (hp _ (h.oP.lt gP rfl).1), h.tR.chg k (fun i b hi e => by
    obtain ⟨b', e', hb, _⟩ := h.tR i hi
    rw [e] at e'
    cases e'
    exact hp b hb), h.tP.chg k (fun i b hi e => by
    obtain ⟨b', e', hb, _⟩ := h.tP i hi
    rw [e] at e'
    cases e'
    exact hp b hb), h.ne⟩
theorem keep (h : PvI B W m iR iP gR cR gP cP A C G R) (k : Chg nob W W') : PvI B W' m iR iP gR cR gP cP A C G R := h.chg k (fun _ _ x => x)
theorem ltR (h : PvI B W m iR iP gR cR gP cP A C G R) : B ≤ gR ∧ gR < W.heap.size := h.oR.lt gR rfl
theorem ltP (h : PvI B W m iR iP gR cR gP cP A C G R) : B ≤ gP ∧ gP < W.heap.size := h.oP.lt gP rfl
/-- A round more. -/
theorem round {gR' cR' b Cb : Nat} (h : PvI B W m iR iP gR cR gP cP A C G R) (hb : B ≤ b) (hl : b < W.heap.size) (hR : b ≠ gR) (hP : b ≠ gP) (hp : PairE W (some ⟨b, 0, none⟩) m (G iR)) (hg : W.grownBy W' (some gR)) (hat : gR = gR' ∨ gR' = W.heap.size)
    (ho : W'.ownsRow B 26 1 (.slice (some ⟨gR', 0, none⟩) (iR + 1) cR') (iR + 1) ((List.range iR).map (fun j => Value.slice (A j) m (C j)) ++ [.slice (some ⟨b, 0, none⟩) m Cb])) :
    PvI B W' m (iR + 1) iP gR' cR' gP cP (fun i => if i = iR then some ⟨b, 0, none⟩ else A i) (fun i => if i = iR then Cb else C i) G R := by
  have k : Chg (fun x => x = gR) W W' := (Chg.refl _ W).grown hg (fun k e _ => by cases e; rfl)
  have e1 := h.tR.ext hb hR hl hp
  refine ⟨by rw [← rwExt]; exact ho, owns_at h.oP k (fun e => h.ne e.symm), e1.grown hg hat, (h.tP.ext hb hP hl hp).chg k (fun i x hi e ex => ?_), ?_⟩
  · obtain ⟨b', e', _, hne, _⟩ := e1 i hi
    have q := e.symm.trans e'
    cases q
    exact hne ex
  · rcases hat with rfl | rfl
    · exact h.ne
    · have := h.ltP; omega
/-- An element of the point more. -/
theorem point {gP' cP' : Nat} (h : PvI B W m iR iP gR cR gP cP A C G R) (hg : W.grownBy W' (some gP)) (hat : gP = gP' ∨ gP' = W.heap.size)
    (ho : W'.ownsRow B 31 2 (.slice (some ⟨gP', 0, none⟩) (iP + 1) cP') (iP + 1) ((List.range (iP * 2)).map (pf (cA R) (cB R)) ++ [.int .i64 (R iP).v.1, .int .i64 (R iP).v.2])) :
    PvI B W' m iR (iP + 1) gR cR gP' cP' A C G R := by
  have k : Chg (fun x => x = gP) W W' := (Chg.refl _ W).grown hg (fun k e _ => by cases e; rfl)
  refine ⟨owns_at h.oR k h.ne, by rw [← flPair]; exact ho, h.tR.chg k (fun i x hi e ex => ?_), h.tP.grown hg hat, ?_⟩
  · obtain ⟨b', e', _, hne, _⟩ := h.tP i hi
    rw [e] at e'
    cases e'
    exact hne ex
  · rcases hat with rfl | rfl
    · exact h.ne
    · have := h.ltR; omega
end PvI

end Go.Proofs.YtgiefpipflcbgadGreatDoor

namespace Go.Proofs.YtgiefpipflcbgadGreatDoor
open Go.ChangeShapes Go.WideShapes Go.ChangeAt Go.RowKit
set_option linter.unusedVariables false
set_option linter.unusedSimpArgs false

/-- What must be the sum now, and of a source what changes. -/
structure VSt where
  x : El
  a : Int
  s : ByteArray
  c : Int
/-- A source's state behind a round of D values. -/
def vss (D : Nat) (u : Nat → El) (q : VSt) : ByteArray := abS q.s (etx (cA u) (cB u) D)
/-- What is drawn then. -/
def vsr (f g : Nat → Int) (len D : Nat) (u : Nat → El) (q : VSt) : El := elP (drE f len q.a (vss D u q) 0 0) (drF g len q.a (vss D u q) 0 0)
/-- All behind a round. -/
def vsn (f g : Nat → Int) (len D : Nat) (u : Nat → El) (q : VSt) : VSt := ⟨El.lag u (vsr f g len D u q) D, dnA len q.a 1, vss D u q, dnC len 0 1⟩
/-- All behind i rounds. -/
def vst (f g : Nat → Int) (len D : Nat) (U : Nat → Nat → El) (q : VSt) : Nat → VSt
  | 0 => q
  | i + 1 => vsn f g len D (U i) (vst f g len D U q i)
/-- The point's element i. -/
def vpt (f g : Nat → Int) (len D : Nat) (U : Nat → Nat → El) (q : VSt) (i : Nat) : El := vsr f g len D (U i) (vst f g len D U q i)
/-- The code: rounds from i on, m of them. -/
def vcd (f g : Nat → Int) (len D : Nat) (L : Nat → Nat) (U : Nat → Nat → El) (q : VSt) : Nat → Nat → Int
  | _, 0 => 0
  | i, m + 1 => if L i = D then (if (El.ad (U i 0) (U i 1)).v = (vst f g len D U q i).x.v then vcd f g len D L U q (i + 1) m else 10) else 18

theorem vss_size (D : Nat) (u : Nat → El) (q : VSt) : (vss D u q).size = 32 := hsh_size _
theorem vst_size {f g : Nat → Int} {len D : Nat} {U : Nat → Nat → El} {q : VSt} (h : q.s.size = 32) (i : Nat) : (vst f g len D U q i).s.size = 32 := by
  cases i with
  | zero => exact h
  | succ i => exact vss_size _ _ _
theorem vst_a {f g : Nat → Int} {len D : Nat} {U : Nat → Nat → El} {q : VSt} (i : Nat) : q.a ≤ (vst f g len D U q i).a ∧ (vst f g len D U q i).a ≤ q.a + i := by
  induction i with
  | zero => simp [vst]
  | succ i ih =>
    have e := dnA_le len (vst f g len D U q i).a 1
    show q.a ≤ dnA len (vst f g len D U q i).a 1 ∧ dnA len (vst f g len D U q i).a 1 ≤ q.a + ((i + 1 : Nat) : Int)
    omega
theorem vsr_v {f g : Nat → Int} {len : Nat} (h : okP f g len = true) (D : Nat) (u : Nat → El) (q : VSt) : drE f len q.a (vss D u q) 0 0 = (vsr f g len D u q).v.1 ∧ drF g len q.a (vss D u q) 0 0 = (vsr f g len D u q).v.2 := by
  have e := elP_v (dr_fit h q.a (vss D u q) 0 0)
  unfold vsr
  rw [e]
  exact ⟨rfl, rfl⟩

/-- The check of a wrong sum stops at the first round. -/
theorem vcd_lie {k : Nat} (hk : k = 1 ∨ k = 2) {f g : Nat → Int} {len v : Nat} {p : PSt} {q : VSt} {L : Nat → Nat} (hv : 1 ≤ v) (hx : q.x ≠ sms k p.t (2 ^ v)) (hL : L 0 = k + 2) : vcd f g len (k + 2) L (prd k f g len v p) q 0 v = 10 := by
  obtain ⟨m, rfl⟩ : ∃ m, v = m + 1 := ⟨v - 1, by omega⟩
  have e : El.ad (prd k f g len (m + 1) p 0 0) (prd k f g len (m + 1) p 0 1) = sms k p.t (2 ^ (m + 1)) := by
    unfold prd
    rw [rd_sum hk, show m + 1 - 1 - 0 = m by omega, show 2 * 2 ^ m = 2 ^ (m + 1) by rw [Nat.pow_succ]; omega]
    rfl
  rw [vcd, if_pos hL, if_neg]
  intro h
  exact hx ((El.eq h).symm.trans e)
/-- A sum and a number that is not 0 make another one. -/
theorem ad_lie (x : El) {d : Nat} (h0 : 1 ≤ d) (h : d < 100) : El.ad x (El.nb d) ≠ x := fun e => El.nb_pos (by omega) h (El.ad_inj (z := x) (by rw [El.zr_ad, El.ad_comm, e]))

end Go.Proofs.YtgiefpipflcbgadGreatDoor
