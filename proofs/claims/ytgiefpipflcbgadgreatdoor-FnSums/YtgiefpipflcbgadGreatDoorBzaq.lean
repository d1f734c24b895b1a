/- Several texts in one: What the model's look at rounds answers, and whether a source has draws left: contracts. Conditions: lists that can be read, of at most 2 to the 40. · What the model's SumProve answers: a contract. Conditions: lists that can be read, of at most 2 to the 40. · What the program's Source.answering and drawsLeft answer: contracts. Conditions: a right source with a draw left, a right list that can be read. -/
import Derived.Test.YtgiefpipflcbgadGreatDoorBzap
import Derived.Test.YtgiefpipflcbgadGreatDoorBzab
import Derived.Test.YtgiefpipflcbgadGreatDoorBzac
import Derived.Test.YtgiefpipflcbgadGreatDoorSumT
import Derived.Test.YtgiefpipflcbgadGreatDoorSumA
import Derived.Test.YtgiefpipflcbgadGreatDoorBzak
import Derived.Test.YtgiefpipflcbgadGreatDoorBzau
import Derived.Test.YtgiefpipflcbgadGreatDoorBzav
import Derived.Test.YtgiefpipflcbgadGreatDoorBzao
import Derived.Test.YtgiefpipflcbgadGreatDoorBzan
namespace Go.Proofs.YtgiefpipflcbgadGreatDoor
open Go.ChangeShapes Go.WideShapes Go.ChangeAt Go.RowKit
set_option linter.unusedVariables false
set_option maxRecDepth 100000
set_option linter.unusedSimpArgs false

/-- Rounds from i on, m of them: at most 8 elements each, numbers of the field. -/
def rkb (L : Nat → Nat) (f g : Nat → Nat → Int) : Nat → Nat → Bool
  | _, 0 => true
  | i, m + 1 => (decide (L i ≤ 8) && okP (f i) (g i) (L i)) && rkb L f g (i + 1) m
theorem rkb_all {L : Nat → Nat} {f g : Nat → Nat → Int} : ∀ (m i : Nat), rkb L f g i m = true → ∀ j, j < m → L (i + j) ≤ 8 ∧ okP (f (i + j)) (g (i + j)) (L (i + j)) = true
  | 0, i, _, j, hj => absurd hj (by omega)
  | m + 1, i, h, j, hj => by
    rw [rkb] at h
    simp only [Bool.and_eq_true, decide_eq_true_eq] at h
    cases j with
    | zero => exact h.1
    | succ j =>
      have q := rkb_all m (i + 1) h.2 j (by omega)
      rw [show i + 1 + j = i + (j + 1) by omega] at q
      exact q
/-- The code of rounds. -/
def rkc (n : Nat) (L : Nat → Nat) (f g : Nat → Nat → Int) : Int := if 4096 < n then 2 else if rkb L f g 0 n = true then 0 else 1

/-- A source has not n draws left. -/
def spb (at' ct : Int) (n : Nat) : Bool := decide (1000000 - (n : Int) < at') || decide (1000000 - (n : Int) < ct)
theorem spb_no {at' ct : Int} {n : Nat} (h : spb at' ct n = false) : at' + n ≤ 1000000 ∧ ct + n ≤ 1000000 := by
  unfold spb at h
  simp only [Bool.or_eq_false_iff, decide_eq_false_iff_not] at h
  omega

set_option maxHeartbeats 1000000 in
theorem sSpent_any (c : Option Addr) (len cap : Nat) (at' : Int) (st : ByteArray) (ct : Int) (n : Nat) (w : World) (hn : n ≤ 100) :
    Calls Tryz.prog 36 #[.agg #[.slice c len cap, .int .i64 at', .string st, .int .i64 ct], .int .i64 n] w fun e w' => e = .returned (.bool (spb at' ct n)) ∧ Chg nob w w' := by
  cases b1 : decide (1000000 - (n : Int) < at')
  · have HV := hik (show spb at' ct n = decide (1000000 - (n : Int) < ct) by unfold spb; rw [b1, Bool.false_or])
    rw [HV.out]
    cases b2 : decide (1000000 - (n : Int) < ct)
    · go_enter Tryz.func36, Tryz.ntmps36
      go_wp2
      go_ret
      exact ⟨by simp [b2], (Chg.refl _ _).alloc _⟩
    · go_enter Tryz.func36, Tryz.ntmps36
      go_wp2
      go_ret
      exact ⟨by simp [b2], (Chg.refl _ _).alloc _⟩
  · have HV := hik (show spb at' ct n = true by unfold spb; rw [b1, Bool.true_or])
    rw [HV.out]
    go_enter Tryz.func36, Tryz.ntmps36
    go_wp2
    go_ret
    exact ⟨by simp, (Chg.refl _ _).alloc _⟩

end Go.Proofs.YtgiefpipflcbgadGreatDoor

namespace Go.Proofs.YtgiefpipflcbgadGreatDoor
open Go.ChangeShapes Go.WideShapes Go.ChangeAt Go.RowKit
set_option linter.unusedVariables false
set_option maxRecDepth 100000
set_option linter.unusedSimpArgs false

/-- SumProve's code. -/
def spc8 (K : Int) (n : Nat) (L : Nat → Nat) (f g : Nat → Nat → Int) (fs gs : Nat → Int) (len : Nat) (at' : Int) (st : ByteArray) (ct : Int) : Int :=
  if ac8 K n L f g = 0 then (if sokb fs gs len at' st ct = true then (if spb at' ct 6 = true then 6 else 0) else 1) else ac8 K n L f g
/-- Rounds, a point, values, a source and a code, to be read. -/
def PxAns (w : World) (q : Int) (nR m nV nS : Nat) (G : Nat → Nat → El) (R V : Nat → El) (fs gs : Nat → Int) (a : Int) (s : ByteArray) (c : Int) (e : Ending) (w' : World) : Prop :=
  ∃ (cR : Option Addr) (capR : Nat) (cP : Option Addr) (capP : Nat) (cV : Option Addr) (capV : Nat) (cS : Option Addr) (capS : Nat), e = .returned (.tuple #[.slice cR nR capR, .slice cP nR capP, .slice cV nV capV, .agg #[.slice cS nS capS, .int .i64 a, .string s, .int .i64 c], .int .i64 q]) ∧ RowsQ (fun b => w.heap.size ≤ b) w' cR nR m G ∧ OwnE w' w.heap.size cP nR (cA R) (cB R) ∧ OwnE w' w.heap.size cV nV (cA V) (cB V) ∧ OwnE w' w.heap.size cS nS fs gs ∧ Chg nob w w'
theorem PxAns.zero {w w' : World} {q q' : Int} {nR m nV nS : Nat} {G : Nat → Nat → El} {R V : Nat → El} {fs gs : Nat → Int} {a : Int} {s : ByteArray} {c : Int} {e : Ending} {c1 c2 c3 : Option Addr} {p1 p2 p3 : Nat} (hq : q = q') (h0 : ¬ q' = 0) (he : e = .returned (.tuple #[.slice c1 0 p1, .slice c2 0 p2, .slice c3 0 p3, .agg #[.slice none 0 0, .int .i64 0, .string ⟨#[]⟩, .int .i64 0], .int .i64 q'])) (k : Chg nob w w') :
    PxAns w q (scn q nR) (scn q m) (scn q nV) (scn q nS) G R V fs gs (scI q a) (scS q s) (scI q c) e w' := by
  subst hq
  have e1 : ∀ n, scn q n = 0 := fun n => if_neg h0
  have e2 : ∀ a, scI q a = 0 := fun a => if_neg h0
  have e3 : ∀ s, scS q s = ⟨#[]⟩ := fun s => if_neg h0
  rw [e1, e1, e1, e1, e2, e2, e3]
  exact ⟨c1, p1, c2, p2, c3, p3, none, 0, he, fun i hi => absurd hi (by omega), .inl rfl, .inl rfl, .inl rfl, k⟩
theorem PxAns.full {w w' : World} {q : Int} {nR m nV nS : Nat} {G : Nat → Nat → El} {R V : Nat → El} {fs gs : Nat → Int} {a : Int} {s : ByteArray} {c : Int} {e : Ending} {c1 c2 c3 c4 : Option Addr} {p1 p2 p3 p4 : Nat} (hq : q = 0) (he : e = .returned (.tuple #[.slice c1 nR p1, .slice c2 nR p2, .slice c3 nV p3, .agg #[.slice c4 nS p4, .int .i64 a, .string s, .int .i64 c], .int .i64 0])) (h1 : RowsQ (fun b => w.heap.size ≤ b) w' c1 nR m G) (h2 : OwnE w' w.heap.size c2 nR (cA R) (cB R)) (h3 : OwnE w' w.heap.size c3 nV (cA V) (cB V)) (h4 : OwnE w' w.heap.size c4 nS fs gs) (k : Chg nob w w') :
    PxAns w q (scn q nR) (scn q m) (scn q nV) (scn q nS) G R V fs gs (scI q a) (scS q s) (scI q c) e w' := by
  subst hq
  exact ⟨c1, p1, c2, p2, c3, p3, c4, p4, he, h1, h2, h3, h4, k⟩
theorem log2_p6 {i : Nat} : Nat.log2 (2 ^ i) = i := by
  rw [Nat.log2_eq_iff (by have := Nat.one_le_two_pow (n := i); omega)]
  exact ⟨Nat.le_refl _, by rw [Nat.pow_succ]; have := Nat.one_le_two_pow (n := i); omega⟩

theorem spc8_ok {K : Int} {n : Nat} {L : Nat → Nat} {f g : Nat → Nat → Int} {fs gs : Nat → Int} {len : Nat} {at' : Int} {st : ByteArray} {ct : Int} (h : spc8 K n L f g fs gs len at' st ct = 0) : ac8 K n L f g = 0 ∧ sokb fs gs len at' st ct = true ∧ spb at' ct 6 = false := by
  unfold spc8 at h
  by_cases h1 : ac8 K n L f g = 0
  · rw [if_pos h1] at h
    by_cases h2 : sokb fs gs len at' st ct = true
    · rw [if_pos h2] at h
      by_cases h3 : spb at' ct 6 = true
      · rw [if_pos h3] at h; omega
      · exact ⟨h1, h2, by simpa using h3⟩
    · rw [if_neg h2] at h; omega
  · rw [if_neg h1] at h; exact absurd h h1

set_option maxHeartbeats 4000000 in
theorem sProveX_any (K : Int) (c : Option Addr) (n cap : Nat) (A : Nat → Option Addr) (L C : Nat → Nat) (f g : Nat → Nat → Int) (cs : Option Addr) (len caps : Nat) (fs gs : Nat → Int) (at' : Int) (st : ByteArray) (ct : Int) (w : World) (h : Hid (RowsV w c n A L C f g)) (hL : Hid (∀ i, i < n → L i ≤ 1099511627776)) (hn : n ≤ 1099511627776) (hs : Hid (PairV w cs len fs gs)) (hl : (len : Int) ≤ 9223372036854775807) (hst : (st.size : Int) ≤ 9223372036854775807) :
    Calls Tryz.prog 11 #[.int .i64 K, .slice c n cap, .agg #[.slice cs len caps, .int .i64 at', .string st, .int .i64 ct]] w fun e w' => PxAns w (spc8 K n L f g fs gs len at' st ct) (scn (spc8 K n L f g fs gs len at' st ct) (Nat.log2 (L 0))) (scn (spc8 K n L f g fs gs len at' st ct) (K.toNat + 2)) (scn (spc8 K n L f g fs gs len at' st ct) n) (scn (spc8 K n L f g fs gs len at' st ct) len) (prd K.toNat fs gs len (Nat.log2 (L 0)) ⟨fun i => elF (f i) (g i), at', st, ct⟩) (ppt K.toNat fs gs len (Nat.log2 (L 0)) ⟨fun i => elF (f i) (g i), at', st, ct⟩) (pvl K.toNat fs gs len (Nat.log2 (L 0)) ⟨fun i => elF (f i) (g i), at', st, ct⟩) fs gs (scI (spc8 K n L f g fs gs len at' st ct) (pst K.toNat fs gs len (Nat.log2 (L 0)) ⟨fun i => elF (f i) (g i), at', st, ct⟩ (Nat.log2 (L 0))).a) (scS (spc8 K n L f g fs gs len at' st ct) (pst K.toNat fs gs len (Nat.log2 (L 0)) ⟨fun i => elF (f i) (g i), at', st, ct⟩ (Nat.log2 (L 0))).s) (scI (spc8 K n L f g fs gs len at' st ct) (pst K.toNat fs gs len (Nat.log2 (L 0)) ⟨fun i => elF (f i) (g i), at', st, ct⟩ (Nat.log2 (L 0))).c) e w' := by
  have S0 : Hid (((w.alloc (.cells #[.slice cs len caps, .int .i64 at', .string st, .int .i64 ct] 28)).alloc (.cells #[.slice none 0 0, .int .i64 0, .string ⟨#[]⟩, .int .i64 0] 28)).rowIs w.heap.size 28 4 (pv4 (.slice cs len caps) (.int .i64 at') (.string st) (.int .i64 ct))) := hik (World.rowIs.alloc (row4_new w _ _ _ _ _) _)
  have Z0 : Hid (((w.alloc (.cells #[.slice cs len caps, .int .i64 at', .string st, .int .i64 ct] 28)).alloc (.cells #[.slice none 0 0, .int .i64 0, .string ⟨#[]⟩, .int .i64 0] 28)).rowIs (w.heap.size + 1) 28 4 (pv4 (.slice none 0 0) (.int .i64 0) (.string ⟨#[]⟩) (.int .i64 0))) := hik (by simpa using row4_new (w.alloc (.cells #[.slice cs len caps, .int .i64 at', .string st, .int .i64 ct] 28)) (.slice none 0 0) (.int .i64 0) (.string ⟨#[]⟩) (.int .i64 0) 28)
  have G0 : Hid (Chg nob w ((w.alloc (.cells #[.slice cs len caps, .int .i64 at', .string st, .int .i64 ct] 28)).alloc (.cells #[.slice none 0 0, .int .i64 0, .string ⟨#[]⟩, .int .i64 0] 28))) := hik (((Chg.refl nob w).alloc _).alloc _)
  obtain ⟨q, hq⟩ : ∃ q, q = (spc8 K n L f g fs gs len at' st ct) := ⟨_, rfl⟩
  have HQ := hik hq
  clear hq
  rw [← HQ.out]
  go_enter Tryz.func11, Tryz.ntmps11
  go_upto_region 1 with fail
  generalize hE : ((w.alloc (.cells #[.slice cs len caps, .int .i64 at', .string st, .int .i64 ct] 28)).alloc (.cells #[.slice none 0 0, .int .i64 0, .string ⟨#[]⟩, .int .i64 0] 28)) = W0 at S0 Z0 G0 ⊢
  clear hE
  by_cases h4 : 4096 < n
  · have h4' : 4096 < (n : Int) := by omega
    have HA := hik (show ac8 K n L f g = 2 by unfold ac8; rw [if_pos h4])
    have HC := hik (show q = 2 by rw [HQ.out]; unfold spc8; rw [HA.out]; rfl)
    have y0 : (W0).cell? ⟨w.heap.size + 1, 0, none⟩ = some (.slice none 0 0) := Z0.out.cell (by omega)
    have y1 : (W0).cell? ⟨w.heap.size + 1, 1, none⟩ = some (.int .i64 0) := Z0.out.cell (by omega)
    have y2 : (W0).cell? ⟨w.heap.size + 1, 2, none⟩ = some (.string ⟨#[]⟩) := Z0.out.cell (by omega)
    have y3 : (W0).cell? ⟨w.heap.size + 1, 3, none⟩ = some (.int .i64 0) := Z0.out.cell (by omega)
    have v0 := Z0.out.frozen 0
    have v1 := Z0.out.frozen 1
    have v2 := Z0.out.frozen 2
    have v3 := Z0.out.frozen 3
    have zz : w.heap.size + 1 < W0.heap.size := Z0.out.lt
    have zz2 : w.heap.size < W0.heap.size := by omega
    go_wp2
    have CE := hik ((((chg4_set G0.out (w.heap.size + 1) (fun l => absurd l (by omega)) (.slice none 0 0) (.int .i64 0) (.string ⟨#[]⟩) (.int .i64 0)).alloc (.cells #[] 26)).alloc (.cells #[] 31)).alloc (.cells #[] 31))
    have ZE := hik (World.rowIs.alloc (World.rowIs.alloc (World.rowIs.alloc (row4_set Z0.out (.slice none 0 0) (.int .i64 0) (.string ⟨#[]⟩) (.int .i64 0)) (.cells #[] 26)) (.cells #[] 31)) (.cells #[] 31))
    clear y0 y1 y2 y3 v0 v1 v2 v3
    generalize hE : (((((((W0.setCell ⟨w.heap.size + 1, 0, none⟩ (.slice none 0 0)).setCell ⟨w.heap.size + 1, 1, none⟩ (.int .i64 0)).setCell ⟨w.heap.size + 1, 2, none⟩ (.string ⟨#[]⟩)).setCell ⟨w.heap.size + 1, 3, none⟩ (.int .i64 0)).alloc (.cells #[] 26)).alloc (.cells #[] 31)).alloc (.cells #[] 31)) = W9 at CE ZE ⊢
    clear hE
    have u0 : (W9).cell? ⟨w.heap.size + 1, 0, none⟩ = some (.slice none 0 0) := ZE.out.cell (by omega)
    have u1 : (W9).cell? ⟨w.heap.size + 1, 1, none⟩ = some (.int .i64 0) := ZE.out.cell (by omega)
    have u2 : (W9).cell? ⟨w.heap.size + 1, 2, none⟩ = some (.string ⟨#[]⟩) := ZE.out.cell (by omega)
    have u3 : (W9).cell? ⟨w.heap.size + 1, 3, none⟩ = some (.int .i64 0) := ZE.out.cell (by omega)
    exact bodyPost_ret (v := .tuple #[.slice (some ⟨W0.heap.size, 0, none⟩) 0 0, .slice (some ⟨W0.heap.size + 1, 0, none⟩) 0 0, .slice (some ⟨W0.heap.size + 1 + 1, 0, none⟩) 0 0, .agg #[.slice none 0 0, .int .i64 0, .string ⟨#[]⟩, .int .i64 0], .int .i64 2]) (by simp [results, Tryz.results11, go_sem, u0, u1, u2, u3]) rfl (PxAns.zero HC.out (by decide) rfl CE.out)
  have h4' : ¬ 4096 < (n : Int) := by omega
  go_wp2_with fail
  refine (sAsk8_any K c n cap A L C f g _ (hik (RowsV.keep h.out G0.out)) hL hn).mono ?_
  rintro e W1 ⟨he, k1⟩
  have S1 := hik (rowIs_keep S0.out k1)
  have Z1 := hik (rowIs_keep Z0.out k1)
  have G1 := hik (G0.out.trans k1)
  clear k1 S0 Z0 G0
  by_cases ha : ¬ ac8 K n L f g = 0
  · obtain ⟨qa, hqa⟩ : ∃ qa, qa = ac8 K n L f g := ⟨_, rfl⟩
    have HC := hik (show q = qa by rw [HQ.out]; unfold spc8; rw [if_neg ha, hqa])
    rw [← hqa] at he ha
    subst he
    have hb : (qa == 0) = false := by simpa using ha
    clear hqa
    have y0 : (W1).cell? ⟨w.heap.size + 1, 0, none⟩ = some (.slice none 0 0) := Z1.out.cell (by omega)
    have y1 : (W1).cell? ⟨w.heap.size + 1, 1, none⟩ = some (.int .i64 0) := Z1.out.cell (by omega)
    have y2 : (W1).cell? ⟨w.heap.size + 1, 2, none⟩ = some (.string ⟨#[]⟩) := Z1.out.cell (by omega)
    have y3 : (W1).cell? ⟨w.heap.size + 1, 3, none⟩ = some (.int .i64 0) := Z1.out.cell (by omega)
    have v0 := Z1.out.frozen 0
    have v1 := Z1.out.frozen 1
    have v2 := Z1.out.frozen 2
    have v3 := Z1.out.frozen 3
    have zz : w.heap.size + 1 < W1.heap.size := Z1.out.lt
    have zz2 : w.heap.size < W1.heap.size := by omega
    go_wp2
    have CE := hik ((((chg4_set G1.out (w.heap.size + 1) (fun l => absurd l (by omega)) (.slice none 0 0) (.int .i64 0) (.string ⟨#[]⟩) (.int .i64 0)).alloc (.cells #[] 26)).alloc (.cells #[] 31)).alloc (.cells #[] 31))
    have ZE := hik (World.rowIs.alloc (World.rowIs.alloc (World.rowIs.alloc (row4_set Z1.out (.slice none 0 0) (.int .i64 0) (.string ⟨#[]⟩) (.int .i64 0)) (.cells #[] 26)) (.cells #[] 31)) (.cells #[] 31))
    clear y0 y1 y2 y3 v0 v1 v2 v3
    generalize hE : (((((((W1.setCell ⟨w.heap.size + 1, 0, none⟩ (.slice none 0 0)).setCell ⟨w.heap.size + 1, 1, none⟩ (.int .i64 0)).setCell ⟨w.heap.size + 1, 2, none⟩ (.string ⟨#[]⟩)).setCell ⟨w.heap.size + 1, 3, none⟩ (.int .i64 0)).alloc (.cells #[] 26)).alloc (.cells #[] 31)).alloc (.cells #[] 31)) = W9 at CE ZE ⊢
    clear hE
    have u0 : (W9).cell? ⟨w.heap.size + 1, 0, none⟩ = some (.slice none 0 0) := ZE.out.cell (by omega)
    have u1 : (W9).cell? ⟨w.heap.size + 1, 1, none⟩ = some (.int .i64 0) := ZE.out.cell (by omega)
    have u2 : (W9).cell? ⟨w.heap.size + 1, 2, none⟩ = some (.string ⟨#[]⟩) := ZE.out.cell (by omega)
    have u3 : (W9).cell? ⟨w.heap.size + 1, 3, none⟩ = some (.int .i64 0) := ZE.out.cell (by omega)
    exact bodyPost_ret (v := .tuple #[.slice (some ⟨W1.heap.size, 0, none⟩) 0 0, .slice (some ⟨W1.heap.size + 1, 0, none⟩) 0 0, .slice (some ⟨W1.heap.size + 1 + 1, 0, none⟩) 0 0, .agg #[.slice none 0 0, .int .i64 0, .string ⟨#[]⟩, .int .i64 0], .int .i64 qa]) (by simp [results, Tryz.results11, go_sem, u0, u1, u2, u3]) rfl (PxAns.zero HC.out (ha) rfl CE.out)
  replace ha : ac8 K n L f g = 0 := Classical.byContradiction ha
  rw [ha] at he
  subst he
  have x0 : (W1).cell? ⟨w.heap.size, 0, none⟩ = some (.slice cs len caps) := S1.out.cell (by omega)
  have x1 : (W1).cell? ⟨w.heap.size, 1, none⟩ = some (.int .i64 at') := S1.out.cell (by omega)
  have x2 : (W1).cell? ⟨w.heap.size, 2, none⟩ = some (.string st) := S1.out.cell (by omega)
  have x3 : (W1).cell? ⟨w.heap.size, 3, none⟩ = some (.int .i64 ct) := S1.out.cell (by omega)
  have zS : w.heap.size < W1.heap.size := S1.out.lt
  go_wp2_with fail
  refine (sSourceOK_any cs len caps at' st ct fs gs _ (hik (hs.out.keep G1.out)) hl hst).mono ?_
  rintro e W2 ⟨he, k2⟩
  have S2 := hik (rowIs_keep S1.out k2)
  have Z2 := hik (rowIs_keep Z1.out k2)
  have G2 := hik (G1.out.trans k2)
  clear k2 S1 Z1 G1 x0 x1 x2 x3 zS
  cases hb : sokb fs gs len at' st ct
  · have HC := hik (show q = 1 by rw [HQ.out]; unfold spc8; rw [if_pos ha, hb]; rfl)
    rw [hb] at he
    subst he
    have y0 : (W2).cell? ⟨w.heap.size + 1, 0, none⟩ = some (.slice none 0 0) := Z2.out.cell (by omega)
    have y1 : (W2).cell? ⟨w.heap.size + 1, 1, none⟩ = some (.int .i64 0) := Z2.out.cell (by omega)
    have y2 : (W2).cell? ⟨w.heap.size + 1, 2, none⟩ = some (.string ⟨#[]⟩) := Z2.out.cell (by omega)
    have y3 : (W2).cell? ⟨w.heap.size + 1, 3, none⟩ = some (.int .i64 0) := Z2.out.cell (by omega)
    have v0 := Z2.out.frozen 0
    have v1 := Z2.out.frozen 1
    have v2 := Z2.out.frozen 2
    have v3 := Z2.out.frozen 3
    have zz : w.heap.size + 1 < W2.heap.size := Z2.out.lt
    have zz2 : w.heap.size < W2.heap.size := by omega
    go_wp2
    have CE := hik ((((chg4_set G2.out (w.heap.size + 1) (fun l => absurd l (by omega)) (.slice none 0 0) (.int .i64 0) (.string ⟨#[]⟩) (.int .i64 0)).alloc (.cells #[] 26)).alloc (.cells #[] 31)).alloc (.cells #[] 31))
    have ZE := hik (World.rowIs.alloc (World.rowIs.alloc (World.rowIs.alloc (row4_set Z2.out (.slice none 0 0) (.int .i64 0) (.string ⟨#[]⟩) (.int .i64 0)) (.cells #[] 26)) (.cells #[] 31)) (.cells #[] 31))
    clear y0 y1 y2 y3 v0 v1 v2 v3
    generalize hE : (((((((W2.setCell ⟨w.heap.size + 1, 0, none⟩ (.slice none 0 0)).setCell ⟨w.heap.size + 1, 1, none⟩ (.int .i64 0)).setCell ⟨w.heap.size + 1, 2, none⟩ (.string ⟨#[]⟩)).setCell ⟨w.heap.size + 1, 3, none⟩ (.int .i64 0)).alloc (.cells #[] 26)).alloc (.cells #[] 31)).alloc (.cells #[] 31)) = W9 at CE ZE ⊢
    clear hE
    have u0 : (W9).cell? ⟨w.heap.size + 1, 0, none⟩ = some (.slice none 0 0) := ZE.out.cell (by omega)
    have u1 : (W9).cell? ⟨w.heap.size + 1, 1, none⟩ = some (.int .i64 0) := ZE.out.cell (by omega)
    have u2 : (W9).cell? ⟨w.heap.size + 1, 2, none⟩ = some (.string ⟨#[]⟩) := ZE.out.cell (by omega)
    have u3 : (W9).cell? ⟨w.heap.size + 1, 3, none⟩ = some (.int .i64 0) := ZE.out.cell (by omega)
    exact bodyPost_ret (v := .tuple #[.slice (some ⟨W2.heap.size, 0, none⟩) 0 0, .slice (some ⟨W2.heap.size + 1, 0, none⟩) 0 0, .slice (some ⟨W2.heap.size + 1 + 1, 0, none⟩) 0 0, .agg #[.slice none 0 0, .int .i64 0, .string ⟨#[]⟩, .int .i64 0], .int .i64 1]) (by simp [results, Tryz.results11, go_sem, u0, u1, u2, u3]) rfl (PxAns.zero HC.out (by decide) rfl CE.out)
  rw [hb] at he
  subst he
  have x0 : (W2).cell? ⟨w.heap.size, 0, none⟩ = some (.slice cs len caps) := S2.out.cell (by omega)
  have x1 : (W2).cell? ⟨w.heap.size, 1, none⟩ = some (.int .i64 at') := S2.out.cell (by omega)
  have x2 : (W2).cell? ⟨w.heap.size, 2, none⟩ = some (.string st) := S2.out.cell (by omega)
  have x3 : (W2).cell? ⟨w.heap.size, 3, none⟩ = some (.int .i64 ct) := S2.out.cell (by omega)
  have zS : w.heap.size < W2.heap.size := S2.out.lt
  go_wp2_with fail
  refine (sSpent_any cs len caps at' st ct 6 _ (by omega)).mono ?_
  rintro e W3 ⟨he, k3⟩
  have S3 := hik (rowIs_keep S2.out k3)
  have Z3 := hik (rowIs_keep Z2.out k3)
  have G3 := hik (G2.out.trans k3)
  clear k3 S2 Z2 G2 x0 x1 x2 x3 zS
  by_cases hd : spb at' ct 6 = true
  · have HC := hik (show q = 6 by rw [HQ.out]; unfold spc8; rw [if_pos ha, hb, if_pos rfl, hd]; rfl)
    rw [hd] at he
    subst he
    have y0 : (W3).cell? ⟨w.heap.size + 1, 0, none⟩ = some (.slice none 0 0) := Z3.out.cell (by omega)
    have y1 : (W3).cell? ⟨w.heap.size + 1, 1, none⟩ = some (.int .i64 0) := Z3.out.cell (by omega)
    have y2 : (W3).cell? ⟨w.heap.size + 1, 2, none⟩ = some (.string ⟨#[]⟩) := Z3.out.cell (by omega)
    have y3 : (W3).cell? ⟨w.heap.size + 1, 3, none⟩ = some (.int .i64 0) := Z3.out.cell (by omega)
    have v0 := Z3.out.frozen 0
    have v1 := Z3.out.frozen 1
    have v2 := Z3.out.frozen 2
    have v3 := Z3.out.frozen 3
    have zz : w.heap.size + 1 < W3.heap.size := Z3.out.lt
    have zz2 : w.heap.size < W3.heap.size := by omega
    go_wp2
    have CE := hik ((((chg4_set G3.out (w.heap.size + 1) (fun l => absurd l (by omega)) (.slice none 0 0) (.int .i64 0) (.string ⟨#[]⟩) (.int .i64 0)).alloc (.cells #[] 26)).alloc (.cells #[] 31)).alloc (.cells #[] 31))
    have ZE := hik (World.rowIs.alloc (World.rowIs.alloc (World.rowIs.alloc (row4_set Z3.out (.slice none 0 0) (.int .i64 0) (.string ⟨#[]⟩) (.int .i64 0)) (.cells #[] 26)) (.cells #[] 31)) (.cells #[] 31))
    clear y0 y1 y2 y3 v0 v1 v2 v3
    generalize hE : (((((((W3.setCell ⟨w.heap.size + 1, 0, none⟩ (.slice none 0 0)).setCell ⟨w.heap.size + 1, 1, none⟩ (.int .i64 0)).setCell ⟨w.heap.size + 1, 2, none⟩ (.string ⟨#[]⟩)).setCell ⟨w.heap.size + 1, 3, none⟩ (.int .i64 0)).alloc (.cells #[] 26)).alloc (.cells #[] 31)).alloc (.cells #[] 31)) = W9 at CE ZE ⊢
    clear hE
    have u0 : (W9).cell? ⟨w.heap.size + 1, 0, none⟩ = some (.slice none 0 0) := ZE.out.cell (by omega)
    have u1 : (W9).cell? ⟨w.heap.size + 1, 1, none⟩ = some (.int .i64 0) := ZE.out.cell (by omega)
    have u2 : (W9).cell? ⟨w.heap.size + 1, 2, none⟩ = some (.string ⟨#[]⟩) := ZE.out.cell (by omega)
    have u3 : (W9).cell? ⟨w.heap.size + 1, 3, none⟩ = some (.int .i64 0) := ZE.out.cell (by omega)
    exact bodyPost_ret (v := .tuple #[.slice (some ⟨W3.heap.size, 0, none⟩) 0 0, .slice (some ⟨W3.heap.size + 1, 0, none⟩) 0 0, .slice (some ⟨W3.heap.size + 1 + 1, 0, none⟩) 0 0, .agg #[.slice none 0 0, .int .i64 0, .string ⟨#[]⟩, .int .i64 0], .int .i64 6]) (by simp [results, Tryz.results11, go_sem, u0, u1, u2, u3]) rfl (PxAns.zero HC.out (by decide) rfl CE.out)
  replace hd : spb at' ct 6 = false := by simpa using hd
  rw [hd] at he
  subst he
  have HC := hik (show q = 0 by rw [HQ.out]; unfold spc8; rw [if_pos ha, hb, if_pos rfl, hd]; rfl)
  obtain ⟨k, hKk, hk12, hnk, htk⟩ := ac8_ok ha
  subst hKk
  have hn0 : 0 < n := by rcases hk12 with rfl | rfl <;> omega
  obtain ⟨i6, hi6, e6⟩ := p6_ex (tok_p6 (htk 0 hn0).1).1
  have HV := hik (show Nat.log2 (L 0) = i6 by rw [e6, log2_p6])
  have HR := hik (show RowsE w c n (2 ^ i6) (fun i => elF (f i) (g i)) by rw [← e6]; exact rows_ok h.out htk)
  obtain ⟨b1, b2, ⟨b3, b4⟩, b5, b6, b7⟩ := sokb_parts hb
  have b8 := (spb_no hd).1
  have QP := hik (fun (w : World) (h : Hid (RowsE w c n (2 ^ i6) (fun i => elF (f i) (g i)))) (hs : Hid (PairV w cs len fs gs)) => sProve_any hk12 c n i6 cap hnk hi6 (fun i => elF (f i) (g i)) cs len caps fs gs at' st ct w h hs b1 b2 b5 b3 b8)
  obtain ⟨Gg, hGg⟩ : ∃ x, x = prd k fs gs len i6 ⟨fun i => elF (f i) (g i), at', st, ct⟩ := ⟨_, rfl⟩
  obtain ⟨Rr, hRr⟩ : ∃ x, x = ppt k fs gs len i6 ⟨fun i => elF (f i) (g i), at', st, ct⟩ := ⟨_, rfl⟩
  obtain ⟨Vv, hVv⟩ : ∃ x, x = pvl k fs gs len i6 ⟨fun i => elF (f i) (g i), at', st, ct⟩ := ⟨_, rfl⟩
  obtain ⟨Ps, hPs⟩ : ∃ x, x = pst k fs gs len i6 ⟨fun i => elF (f i) (g i), at', st, ct⟩ i6 := ⟨_, rfl⟩
  have EQ := hik (show Gg = prd k fs gs len i6 ⟨fun i => elF (f i) (g i), at', st, ct⟩ ∧ Rr = ppt k fs gs len i6 ⟨fun i => elF (f i) (g i), at', st, ct⟩ ∧ Vv = pvl k fs gs len i6 ⟨fun i => elF (f i) (g i), at', st, ct⟩ ∧ Ps = pst k fs gs len i6 ⟨fun i => elF (f i) (g i), at', st, ct⟩ i6 from ⟨hGg, hRr, hVv, hPs⟩)
  rw [← hGg, ← hRr, ← hVv, ← hPs] at QP
  have HLEN := hik b1
  clear hGg hRr hVv hPs e6 htk ha hb hd HQ hnk hk12 b1 b2 b3 b4 b5 b6 b7 b8 hn0 hi6
  have x0 : (W3).cell? ⟨w.heap.size, 0, none⟩ = some (.slice cs len caps) := S3.out.cell (by omega)
  have x1 : (W3).cell? ⟨w.heap.size, 1, none⟩ = some (.int .i64 at') := S3.out.cell (by omega)
  have x2 : (W3).cell? ⟨w.heap.size, 2, none⟩ = some (.string st) := S3.out.cell (by omega)
  have x3 : (W3).cell? ⟨w.heap.size, 3, none⟩ = some (.int .i64 ct) := S3.out.cell (by omega)
  have zS : w.heap.size < W3.heap.size := S3.out.lt
  go_wp2_with fail
  refine (QP.out _ (hik (RowsE.keep HR.out G3.out)) (hik (hs.out.keep G3.out))).mono ?_
  rintro e W4 ⟨cR, capR, cP, capP, cV, capV, rfl, rR, rP, rV, k4⟩
  have RR := hik rR
  have RP := hik rP
  have RV := hik rV
  have hz3 := hik (show w.heap.size + 1 < W3.heap.size from Z3.out.lt)
  have Z4 := hik (rowIs_keep Z3.out k4)
  have G4 := hik (G3.out.trans k4)
  clear rR rP rV k4 Z3 G3 S3 x0 x1 x2 x3 zS
  go_wp2_with fail
  refine (sOwn_any cs len caps fs gs Ps.a Ps.s Ps.c _ (hik (hs.out.keep (G4.out.alloc _))) (by have := HLEN.out; omega)).mono ?_
  rintro e W6 ⟨cS, capS, rfl, oS, k6⟩
  have OS := hik oS
  have hsz4 := hik (show w.heap.size + 1 < W4.heap.size from Z4.out.lt)
  have k5 := ((Chg.refl nob W4).alloc _).trans k6
  have R6 := hik (RR.out.keep k5)
  have P6 := hik (RP.out.keep k5)
  have V6 := hik (RV.out.keep k5)
  have Z6 := hik (rowIs_keep Z4.out k5)
  have G6 := hik (G4.out.trans k5)
  clear oS k6 k5 RR RP RV Z4 G4
  have y0 : (W6).cell? ⟨w.heap.size + 1, 0, none⟩ = some (.slice none 0 0) := Z6.out.cell (by omega)
  have y1 : (W6).cell? ⟨w.heap.size + 1, 1, none⟩ = some (.int .i64 0) := Z6.out.cell (by omega)
  have y2 : (W6).cell? ⟨w.heap.size + 1, 2, none⟩ = some (.string ⟨#[]⟩) := Z6.out.cell (by omega)
  have y3 : (W6).cell? ⟨w.heap.size + 1, 3, none⟩ = some (.int .i64 0) := Z6.out.cell (by omega)
  have v0 := Z6.out.frozen 0
  have v1 := Z6.out.frozen 1
  have v2 := Z6.out.frozen 2
  have v3 := Z6.out.frozen 3
  have zz : w.heap.size + 1 < W6.heap.size := Z6.out.lt
  have C7 := hik (chg4_set (Chg.refl (fun b => b = w.heap.size + 1) W6) (w.heap.size + 1) (fun _ => rfl) (.slice cS len capS) (.int .i64 Ps.a) (.string Ps.s) (.int .i64 Ps.c))
  have G7 := hik (chg4_set G6.out (w.heap.size + 1) (fun l => absurd l (by omega)) (.slice cS len capS) (.int .i64 Ps.a) (.string Ps.s) (.int .i64 Ps.c))
  have R7 := hik ((R6.out.chg C7.out (fun b hb e => by have := hz3.out; omega)).mono (R := fun b => w.heap.size ≤ b) (fun b hb => by have := hz3.out; omega))
  have P7 := hik ((P6.out.chg C7.out (fun b hb _ e => by have := hz3.out; omega)).low (B' := w.heap.size) (by have := hz3.out; omega))
  have V7 := hik ((V6.out.chg C7.out (fun b hb _ e => by have := hz3.out; omega)).low (B' := w.heap.size) (by have := hz3.out; omega))
  have O7 := hik ((OS.out.chg C7.out (fun b hb _ e => by have := hsz4.out; simp at hb; omega)).low (B' := w.heap.size) (by have := hsz4.out; simp; omega))
  have S7 := hik (row4_set Z6.out (.slice cS len capS) (.int .i64 Ps.a) (.string Ps.s) (.int .i64 Ps.c))
  go_wp2
  clear y0 y1 y2 y3 v0 v1 v2 v3
  generalize hE : (((W6.setCell ⟨w.heap.size + 1, 0, none⟩ (.slice cS len capS)).setCell ⟨w.heap.size + 1, 1, none⟩ (.int .i64 Ps.a)).setCell ⟨w.heap.size + 1, 2, none⟩ (.string Ps.s)).setCell ⟨w.heap.size + 1, 3, none⟩ (.int .i64 Ps.c) = W9 at R7 P7 V7 O7 S7 G7 ⊢
  clear hE
  have u0 : (W9).cell? ⟨w.heap.size + 1, 0, none⟩ = some (.slice cS len capS) := S7.out.cell (by omega)
  have u1 : (W9).cell? ⟨w.heap.size + 1, 1, none⟩ = some (.int .i64 Ps.a) := S7.out.cell (by omega)
  have u2 : (W9).cell? ⟨w.heap.size + 1, 2, none⟩ = some (.string Ps.s) := S7.out.cell (by omega)
  have u3 : (W9).cell? ⟨w.heap.size + 1, 3, none⟩ = some (.int .i64 Ps.c) := S7.out.cell (by omega)
  exact bodyPost_ret (v := .tuple #[.slice cR i6 capR, .slice cP i6 capP, .slice cV n capV, .agg #[.slice cS len capS, .int .i64 Ps.a, .string Ps.s, .int .i64 Ps.c], .int .i64 0]) (by simp [results, Tryz.results11, go_sem, u0, u1, u2, u3]) rfl (by
    rw [Int.toNat_natCast, HV.out, ← EQ.out.1, ← EQ.out.2.1, ← EQ.out.2.2.1, ← EQ.out.2.2.2]
    exact PxAns.full HC.out rfl R7.out P7.out V7.out O7.out G7.out)

end Go.Proofs.YtgiefpipflcbgadGreatDoor

namespace Go.Proofs.YtgiefpipflcbgadGreatDoor
open Go.ChangeShapes Go.WideShapes Go.ChangeAt Go.RowKit
set_option linter.unusedVariables false
set_option maxRecDepth 100000
set_option linter.unusedSimpArgs false

theorem sokb_mk8 {f g : Nat → Int} {n : Nat} {at' : Int} {st : ByteArray} {ct : Int} (h1 : okP f g n = true) (h2 : n ≤ 64) (h3 : 0 ≤ at' ∧ at' ≤ 1000000) (h4 : st.size = 32) (h5 : 0 ≤ ct ∧ ct ≤ 1000000) : sokb f g n at' st ct = true := by
  unfold sokb inW
  simp [h1, h2, h3, h4, h5]

set_option maxHeartbeats 1000000 in
/-- Fewer than n draws are left just if one of the two numbers leaves fewer. -/
theorem left_any (c : Option Addr) (len cap : Nat) (at' : Int) (st : ByteArray) (ct : Int) (w : World) (a0 : 0 ≤ at') (a1 : at' ≤ 1000000) (c0 : 0 ≤ ct) (c1 : ct ≤ 1000000) :
    Calls Tryz.prog 30 #[.agg #[.slice c len cap, .int .i64 at', .string st, .int .i64 ct]] w fun e w' => ∃ lf : Int, e = .returned (.int .i64 lf) ∧ (∀ n : Nat, lf < (n : Int) ↔ spb at' ct n = true) ∧ Chg nob w w' := by
  go_enter Tryz.func30, Tryz.ntmps30
  go_wp2
  all_goals
    go_ret
    refine ⟨_, rfl, fun n => ?_, (Chg.refl _ _).alloc _⟩
    unfold spb
    simp only [Bool.or_eq_true, decide_eq_true_eq]
    omega

/-- A source behind a round and a draw, and what was drawn. -/
def AwAns (w : World) (len : Nat) (f g : Nat → Int) (a : Int) (s : ByteArray) (c x y : Int) (e : Ending) (w' : World) : Prop :=
  ∃ (c2 : Option Addr) (cap2 : Nat), e = .returned (.tuple #[.agg #[.slice c2 len cap2, .int .i64 a, .string s, .int .i64 c], .agg #[.int .i64 x, .int .i64 y]]) ∧ OwnE w' w.heap.size c2 len f g ∧ Chg nob w w'

set_option maxHeartbeats 4000000 in
theorem answering_any (c : Option Addr) (len cap : Nat) (f g : Nat → Int) (at' : Int) (st : ByteArray) (ct : Int) (c1 : Option Addr) (n1 cap1 : Nat) (f1 g1 : Nat → Int) (w : World) (htb : Hid (Tabs w)) (h : Hid (PairV w c len f g)) (h1 : Hid (PairV w c1 n1 f1 g1)) (hok : sokb f g len at' st ct = true) (ho1 : okP f1 g1 n1 = true) (hn1 : n1 ≤ 4096) (a1 : at' + 1 ≤ 1000000) :
    Calls Tryz.prog 32 #[.agg #[.slice c len cap, .int .i64 at', .string st, .int .i64 ct], .slice c1 n1 cap1] w fun e w' => AwAns w len f g (dnA len at' 1) (abS st (etx f1 g1 n1)) (dnC len 0 1) (drE f len at' (abS st (etx f1 g1 n1)) 0 0) (drF g len at' (abS st (etx f1 g1 n1)) 0 0) e w' := by
  obtain ⟨p1, p2, p3, p4, p5⟩ := sokb_parts hok
  have QA := hik (fun (W : World) (ht : Hid (Tabs W)) (hw : Hid (PairV W c len f g)) (hw1 : Hid (PairV W c1 n1 f1 g1)) => absorbExts_any c len cap f g at' st ct c1 n1 cap1 f1 g1 W ht hw hw1 (by omega) (by omega) (by omega))
  rw [show aec n1 (okP f1 g1 n1) (sokb f g len at' st ct) = 0 by unfold aec; rw [if_neg (by omega), ho1, hok]; rfl] at QA
  simp only [scn, scI, scS, if_true] at QA
  obtain ⟨ST, hST⟩ : ∃ ST, ST = abS st (etx f1 g1 n1) := ⟨_, rfl⟩
  have hS32 : ST.size = 32 := by rw [hST]; exact hsh_size _
  rw [← hST] at QA ⊢
  have QT := hik (fun (c2 : Option Addr) (cap2 : Nat) (W : World) (ht : Hid (Tabs W)) (hw : Hid (PairV W c2 len f g)) => takeOne_ok c2 len cap2 f g at' ST 0 W ht hw (sokb_mk8 p2 p1 p3 hS32 (by omega)) a1 (by omega))
  obtain ⟨a2, ha2⟩ : ∃ x, x = dnA len at' 1 := ⟨_, rfl⟩
  obtain ⟨q2, hq2⟩ : ∃ x, x = dnC len 0 1 := ⟨_, rfl⟩
  obtain ⟨X, hX⟩ : ∃ x, x = drE f len at' ST 0 0 := ⟨_, rfl⟩
  obtain ⟨Y, hY⟩ : ∃ x, x = drF g len at' ST 0 0 := ⟨_, rfl⟩
  rw [← ha2, ← hq2, ← hX, ← hY] at QT ⊢
  clear ha2 hq2 hX hY hST hS32 p1 p2 p3 p4 p5 hok ho1 a1
  have A0 : Hid ((((w.alloc (.cells #[.slice c len cap, .int .i64 at', .string st, .int .i64 ct] 28)).alloc (.cells #[.slice none 0 0, .int .i64 0, .string ⟨#[]⟩, .int .i64 0] 28)).alloc (.cells #[.int .i64 0, .int .i64 0] 31)).rowIs w.heap.size 28 4 (pv4 (.slice c len cap) (.int .i64 at') (.string st) (.int .i64 ct))) := hik (World.rowIs.alloc (World.rowIs.alloc (row4_new w _ _ _ _ _) _) _)
  have B0 : Hid ((((w.alloc (.cells #[.slice c len cap, .int .i64 at', .string st, .int .i64 ct] 28)).alloc (.cells #[.slice none 0 0, .int .i64 0, .string ⟨#[]⟩, .int .i64 0] 28)).alloc (.cells #[.int .i64 0, .int .i64 0] 31)).rowIs (w.heap.size + 1) 28 4 (pv4 (.slice none 0 0) (.int .i64 0) (.string ⟨#[]⟩) (.int .i64 0))) := hik (World.rowIs.alloc (by simpa using row4_new (w.alloc (.cells #[.slice c len cap, .int .i64 at', .string st, .int .i64 ct] 28)) (.slice none 0 0) (.int .i64 0) (.string ⟨#[]⟩) (.int .i64 0) 28) _)
  have E0 : Hid (ElB (((w.alloc (.cells #[.slice c len cap, .int .i64 at', .string st, .int .i64 ct] 28)).alloc (.cells #[.slice none 0 0, .int .i64 0, .string ⟨#[]⟩, .int .i64 0] 28)).alloc (.cells #[.int .i64 0, .int .i64 0] 31)) (w.heap.size + 1 + 1) El.zr) := hik (by simpa using ElB.zero ((w.alloc (.cells #[.slice c len cap, .int .i64 at', .string st, .int .i64 ct] 28)).alloc (.cells #[.slice none 0 0, .int .i64 0, .string ⟨#[]⟩, .int .i64 0] 28)))
  have G0 := hik ((((Chg.refl nob w).alloc (.cells #[.slice c len cap, .int .i64 at', .string st, .int .i64 ct] 28)).alloc (.cells #[.slice none 0 0, .int .i64 0, .string ⟨#[]⟩, .int .i64 0] 28)).alloc (.cells #[.int .i64 0, .int .i64 0] 31))
  go_enter Tryz.func32, Tryz.ntmps32
  go_wp2_with fail
  generalize hE : ((w.alloc (.cells #[.slice c len cap, .int .i64 at', .string st, .int .i64 ct] 28)).alloc (.cells #[.slice none 0 0, .int .i64 0, .string ⟨#[]⟩, .int .i64 0] 28)).alloc (.cells #[.int .i64 0, .int .i64 0] 31) = W0 at A0 B0 E0 G0 ⊢
  clear hE
  refine (QA.out _ (hik (htb.out.keep G0.out)) (hik (h.out.keep G0.out)) (hik (h1.out.keep G0.out))).mono ?_
  rintro e W1 ⟨c2, cap2, rfl, ho, k1⟩
  have O1 := hik ho
  have A1 := hik (rowIs_keep A0.out k1)
  have B1 := hik (rowIs_keep B0.out k1)
  have E1 := hik (E0.out.keep k1)
  have G1 := hik (G0.out.trans k1)
  have s1 : w.heap.size + 3 ≤ W0.heap.size := by have := E0.out.lt; omega
  clear ho k1 A0 B0 E0 G0
  have y0 : W1.cell? ⟨w.heap.size, 0, none⟩ = some (.slice c len cap) := A1.out.cell (by omega)
  have yf0 := A1.out.frozen 0
  have y1 : W1.cell? ⟨w.heap.size, 1, none⟩ = some (.int .i64 at') := A1.out.cell (by omega)
  have yf1 := A1.out.frozen 1
  have y2 : W1.cell? ⟨w.heap.size, 2, none⟩ = some (.string st) := A1.out.cell (by omega)
  have yf2 := A1.out.frozen 2
  have y3 : W1.cell? ⟨w.heap.size, 3, none⟩ = some (.int .i64 ct) := A1.out.cell (by omega)
  have yf3 := A1.out.frozen 3
  go_upto_region 2 with fail
  clear y0 yf0 y1 yf1 y2 yf2 y3 yf3
  have q := chg4_set (Chg.refl (fun x => x = w.heap.size) W1) w.heap.size (fun _ => rfl) (.slice c2 len cap2) (.int .i64 at') (.string ST) (.int .i64 0)
  have A2 := hik (row4_set A1.out (.slice c2 len cap2) (.int .i64 at') (.string ST) (.int .i64 0))
  have B2 := hik (rowIs_chg B1.out q (by omega))
  have E2 := hik (E1.out.chg q (by omega))
  have G2 := hik (Chg.near G1.out q (fun i (e : i = w.heap.size) => by omega))
  have O2 := hik (O1.out.chg q (fun b hb _ (e : b = w.heap.size) => by omega))
  generalize hE : ((((W1.setCell ⟨w.heap.size, 0, none⟩ (.slice c2 len cap2)).setCell ⟨w.heap.size, 1, none⟩ (.int .i64 at')).setCell ⟨w.heap.size, 2, none⟩ (.string ST)).setCell ⟨w.heap.size, 3, none⟩ (.int .i64 0)) = W2 at A2 B2 E2 G2 O2 ⊢
  clear hE q A1 B1 E1 G1 O1
  have y0 : W2.cell? ⟨w.heap.size, 0, none⟩ = some (.slice c2 len cap2) := A2.out.cell (by omega)
  have yf0 := A2.out.frozen 0
  have y1 : W2.cell? ⟨w.heap.size, 1, none⟩ = some (.int .i64 at') := A2.out.cell (by omega)
  have yf1 := A2.out.frozen 1
  have y2 : W2.cell? ⟨w.heap.size, 2, none⟩ = some (.string ST) := A2.out.cell (by omega)
  have yf2 := A2.out.frozen 2
  have y3 : W2.cell? ⟨w.heap.size, 3, none⟩ = some (.int .i64 0) := A2.out.cell (by omega)
  have yf3 := A2.out.frozen 3
  go_wp2_with fail
  clear y0 yf0 y1 yf1 y2 yf2 y3 yf3
  refine (QT.out c2 cap2 _ (hik (htb.out.keep G2.out)) (hik O2.out.pairs)).mono ?_
  rintro e W3 ⟨c3, cap3, rfl, ho, k3⟩
  have s3 : W2.heap.size ≤ W3.heap.size := k3.size
  have s2 : w.heap.size + 3 ≤ W2.heap.size := by have := E2.out.lt; omega
  have O3 := hik ho
  have A3 := hik (rowIs_keep A2.out k3)
  have B3 := hik (rowIs_keep B2.out k3)
  have E3 := hik (E2.out.keep k3)
  have G3 := hik (G2.out.trans k3)
  clear ho k3 A2 B2 E2 G2 O2
  have y0 : W3.cell? ⟨w.heap.size, 0, none⟩ = some (.slice c2 len cap2) := A3.out.cell (by omega)
  have yf0 := A3.out.frozen 0
  have y1 : W3.cell? ⟨w.heap.size, 1, none⟩ = some (.int .i64 at') := A3.out.cell (by omega)
  have yf1 := A3.out.frozen 1
  have y2 : W3.cell? ⟨w.heap.size, 2, none⟩ = some (.string ST) := A3.out.cell (by omega)
  have yf2 := A3.out.frozen 2
  have y3 : W3.cell? ⟨w.heap.size, 3, none⟩ = some (.int .i64 0) := A3.out.cell (by omega)
  have yf3 := A3.out.frozen 3
  have l3 : w.heap.size < W3.heap.size := by omega
  have n3 : ¬ w.heap.size = W3.heap.size := by omega
  have n4 : ¬ W3.heap.size = w.heap.size := by omega
  go_upto_region 3 with fail
  clear y0 yf0 y1 yf1 y2 yf2 y3 yf3
  have q := chg4_set (Chg.refl (fun x => x = w.heap.size) W3) w.heap.size (fun _ => rfl) (.slice c3 len cap3) (.int .i64 a2) (.string ST) (.int .i64 q2)
  have A4 := hik (World.rowIs.alloc (row4_set A3.out (.slice c3 len cap3) (.int .i64 a2) (.string ST) (.int .i64 q2)) (.cells #[.int .i64 X, .int .i64 Y] 31))
  have B4 := hik (World.rowIs.alloc (rowIs_chg B3.out q (by omega)) (.cells #[.int .i64 X, .int .i64 Y] 31))
  have E4 := hik (ElB.keep (E3.out.chg q (by omega)) ((Chg.refl nob _).alloc (.cells #[.int .i64 X, .int .i64 Y] 31)))
  have G4 := hik ((Chg.near G3.out q (fun i (e : i = w.heap.size) => by omega)).alloc (.cells #[.int .i64 X, .int .i64 Y] 31))
  have O4 := hik ((O3.out.chg q (fun b hb _ (e : b = w.heap.size) => by omega)).keep ((Chg.refl nob _).alloc (.cells #[.int .i64 X, .int .i64 Y] 31)))
  have X4 := hik (row2_new (((((W3.setCell ⟨w.heap.size, 0, none⟩ (.slice c3 len cap3)).setCell ⟨w.heap.size, 1, none⟩ (.int .i64 a2)).setCell ⟨w.heap.size, 2, none⟩ (.string ST)).setCell ⟨w.heap.size, 3, none⟩ (.int .i64 q2))) (.int .i64 X) (.int .i64 Y) 31)
  have zz : (((((W3.setCell ⟨w.heap.size, 0, none⟩ (.slice c3 len cap3)).setCell ⟨w.heap.size, 1, none⟩ (.int .i64 a2)).setCell ⟨w.heap.size, 2, none⟩ (.string ST)).setCell ⟨w.heap.size, 3, none⟩ (.int .i64 q2))).heap.size = W3.heap.size := by simp
  rw [zz] at X4
  generalize hE : (((((W3.setCell ⟨w.heap.size, 0, none⟩ (.slice c3 len cap3)).setCell ⟨w.heap.size, 1, none⟩ (.int .i64 a2)).setCell ⟨w.heap.size, 2, none⟩ (.string ST)).setCell ⟨w.heap.size, 3, none⟩ (.int .i64 q2))).alloc (.cells #[.int .i64 X, .int .i64 Y] 31) = W4 at A4 B4 E4 G4 O4 X4 ⊢
  clear hE q A3 B3 E3 G3 O3 zz
  have a0 := A4.out.cell (i := 0) (by omega)
  have a1 := A4.out.cell (i := 1) (by omega)
  have a2' := A4.out.cell (i := 2) (by omega)
  have a3 := A4.out.cell (i := 3) (by omega)
  have x0 := X4.out.cell (i := 0) (by omega)
  have x1 := X4.out.cell (i := 1) (by omega)
  have s4 : W3.heap.size < W4.heap.size := X4.out.lt
  have KW := hik ((Chg.refl (fun x => x = w.heap.size + 1) W4).drew1)
  have SA := hik (fun (WW : World) (kW : Chg (fun x => x = w.heap.size + 1) W4 WW) => (show (WW.cell? ⟨w.heap.size, 0, none⟩ = some (.slice c3 len cap3) ∧ WW.cell? ⟨w.heap.size, 1, none⟩ = some (.int .i64 a2) ∧ WW.cell? ⟨w.heap.size, 2, none⟩ = some (.string ST) ∧ WW.cell? ⟨w.heap.size, 3, none⟩ = some (.int .i64 q2) ∧ WW.cell? ⟨W3.heap.size, 0, none⟩ = some (.int .i64 X) ∧ WW.cell? ⟨W3.heap.size, 1, none⟩ = some (.int .i64 Y)) from ⟨kW.seeP a0 (by omega), kW.seeP a1 (by omega), kW.seeP a2' (by omega), kW.seeP a3 (by omega), kW.seeP x0 (by omega), kW.seeP x1 (by omega)⟩))
  refine wp_regionL (L := 3) (S := fun w' => w'.cell? ⟨w.heap.size, 0, none⟩ = some (.slice c3 len cap3) ∧ w'.cell? ⟨w.heap.size, 1, none⟩ = some (.int .i64 a2) ∧ w'.cell? ⟨w.heap.size, 2, none⟩ = some (.string ST) ∧ w'.cell? ⟨w.heap.size, 3, none⟩ = some (.int .i64 q2) ∧ w'.cell? ⟨W3.heap.size, 0, none⟩ = some (.int .i64 X) ∧ w'.cell? ⟨W3.heap.size, 1, none⟩ = some (.int .i64 Y)) (by kernel_rfl) (SA.out _ KW.out) (fun hHeld => ?_)
  refine wpAnyL_take (i := 0) (v := ?_) rfl (by kernel_rfl) (by kernel_rfl) (by kernel_rfl) (fun _ _ _ h => h) (by rfl) (by kernel_rfl) (by kernel_rfl) (Or.inl ⟨by rfl, ?_⟩) (by assumption) ?_
  rotate_left 1
  · (intro w' hSw; (try dsimp only at hSw); go_simp; try with_reducible rfl)
  try simp only [Act.put, List.setIfInBounds_toArray, List.set_cons_zero, List.set_cons_succ, List.getElem_toArray, List.getElem_cons_zero, List.getElem_cons_succ]
  refine wpAnyL_take (i := 1) (v := ?_) rfl (by kernel_rfl) (by kernel_rfl) (by kernel_rfl) (fun _ _ _ h => h) (by rfl) (by kernel_rfl) (by kernel_rfl) (Or.inl ⟨by rfl, ?_⟩) (by assumption) ?_
  rotate_left 1
  · (intro w' hSw; (try dsimp only at hSw); go_simp; try with_reducible rfl)
  try simp only [Act.put, List.setIfInBounds_toArray, List.set_cons_zero, List.set_cons_succ, List.getElem_toArray, List.getElem_cons_zero, List.getElem_cons_succ]
  refine wpAnyL_ready (rs := [2]) (by kernel_rfl) (by simp) ?_
  refine AllReadyL.cons rfl (fun K hK => ?_) AllReadyL.nil
  have z0 : W4.cell? ⟨w.heap.size + 1, 0, none⟩ = some (.slice none 0 0) := B4.out.cell (by omega)
  have zf0 := B4.out.frozen 0
  have z1 : W4.cell? ⟨w.heap.size + 1, 1, none⟩ = some (.int .i64 0) := B4.out.cell (by omega)
  have zf1 := B4.out.frozen 1
  have z2 : W4.cell? ⟨w.heap.size + 1, 2, none⟩ = some (.string ⟨#[]⟩) := B4.out.cell (by omega)
  have zf2 := B4.out.frozen 2
  have z3 : W4.cell? ⟨w.heap.size + 1, 3, none⟩ = some (.int .i64 0) := B4.out.cell (by omega)
  have zf3 := B4.out.frozen 3
  have BN := hik (rowIs_keep B4.out (Chg.refl nob W4).drew1)
  have t0 : W4.drew.cell? ⟨w.heap.size + 1, 0, none⟩ = some (.slice none 0 0) := BN.out.cell (by omega)
  have tf0 := BN.out.frozen 0
  have t1 : W4.drew.cell? ⟨w.heap.size + 1, 1, none⟩ = some (.int .i64 0) := BN.out.cell (by omega)
  have tf1 := BN.out.frozen 1
  have t2 : W4.drew.cell? ⟨w.heap.size + 1, 2, none⟩ = some (.string ⟨#[]⟩) := BN.out.cell (by omega)
  have tf2 := BN.out.frozen 2
  have t3 : W4.drew.cell? ⟨w.heap.size + 1, 3, none⟩ = some (.int .i64 0) := BN.out.cell (by omega)
  have tf3 := BN.out.frozen 3
  have lz : w.heap.size + 1 < W4.heap.size := B4.out.lt
  simp only [List.getElem_toArray, List.getElem_cons_zero, List.getElem_cons_succ]
  go_simp
  have RB := hik (row4_set B4.out (.slice c3 len cap3) (.int .i64 a2) (.string ST) (.int .i64 q2))
  have KX := hik (chg4_set (Chg.refl (fun x => x = w.heap.size + 1) W4) (w.heap.size + 1) (fun _ => rfl) (.slice c3 len cap3) (.int .i64 a2) (.string ST) (.int .i64 q2))
  replace KW := hik KX.out.drew1
  refine hK.out _ _ (SA.out _ KW.out) (fun hHeld => ?_)
  clear hK K
  try simp only [Act.put, List.setIfInBounds_toArray, List.set_cons_zero, List.set_cons_succ, List.getElem_toArray, List.getElem_cons_zero, List.getElem_cons_succ]
  clear z0 zf0 z1 zf1 z2 zf2 z3 zf3 lz BN
  clear t0 tf0 t1 tf1 t2 tf2 t3 tf3
  refine wpAnyL_ready (rs := [3]) (by kernel_rfl) (by simp) ?_
  refine AllReadyL.last rfl (by kernel_rfl) (fun K hK => ?_)
  have EX := hik (E4.out.chg KX.out (by omega))
  have EN := hik (E4.out.chg KW.out (by omega))
  have g00 := E4.out.c0
  have g01 := E4.out.c1
  have f00 := E4.out.fz 0
  have f01 := E4.out.fz 1
  have ln0 := E4.out.lt
  have g10 := EX.out.c0
  have g11 := EX.out.c1
  have f10 := EX.out.fz 0
  have f11 := EX.out.fz 1
  have ln1 := EX.out.lt
  have g20 := EN.out.c0
  have g21 := EN.out.c1
  have f20 := EN.out.fz 0
  have f21 := EN.out.fz 1
  have ln2 := EN.out.lt
  simp only [List.getElem_toArray, List.getElem_cons_zero, List.getElem_cons_succ]
  go_simp
  refine hK.out _ _ ?_
  clear hK K
  try simp only [Act.put, List.setIfInBounds_toArray, List.set_cons_zero, List.set_cons_succ, List.getElem_toArray, List.getElem_cons_zero, List.getElem_cons_succ]
  clear g00 g01 f00 f01 ln0 g10 g11 f10 f11 ln1 g20 g21 f20 f21 ln2
  refine wpAnyL_done (by kernel_rfl) ?_ _
  have q := chg2_set (Chg.refl (fun x => x = w.heap.size + 1 + 1) (((((W4.setCell ⟨w.heap.size + 1, 0, none⟩ (.slice c3 len cap3)).setCell ⟨w.heap.size + 1, 1, none⟩ (.int .i64 a2)).setCell ⟨w.heap.size + 1, 2, none⟩ (.string ST)).setCell ⟨w.heap.size + 1, 3, none⟩ (.int .i64 q2)))) (w.heap.size + 1 + 1) (fun _ => rfl) (.int .i64 X) (.int .i64 Y)
  have RC := hik (rowIs_chg RB.out q (by omega))
  have u0 := (row2_set EX.out (.int .i64 X) (.int .i64 Y)).cell (i := 0) (by omega)
  have u1 := (row2_set EX.out (.int .i64 X) (.int .i64 Y)).cell (i := 1) (by omega)
  have v0 := RC.out.cell (i := 0) (by omega)
  have v1 := RC.out.cell (i := 1) (by omega)
  have v2 := RC.out.cell (i := 2) (by omega)
  have v3 := RC.out.cell (i := 3) (by omega)
  have KE := hik ((chg2_set (KX.out.mono (Q := fun x => x = w.heap.size + 1 ∨ x = w.heap.size + 1 + 1) (fun i _ (e : i = w.heap.size + 1) => .inl e)) (w.heap.size + 1 + 1) (fun _ => .inr rfl) (.int .i64 X) (.int .i64 Y)).drew1)
  have OE := hik ((O4.out.chg KE.out (fun b hb _ (e : b = w.heap.size + 1 ∨ b = w.heap.size + 1 + 1) => by omega)).low (B' := w.heap.size) (by omega))
  have GE := hik (Chg.near G4.out KE.out (fun i (e : i = w.heap.size + 1 ∨ i = w.heap.size + 1 + 1) => by omega))
  clear q
  go_wp2
  exact bodyPost_ret (v := .tuple #[.agg #[.slice c3 len cap3, .int .i64 a2, .string ST, .int .i64 q2], .agg #[.int .i64 X, .int .i64 Y]]) (by simp [results, Tryz.results32, go_sem, u0, u1, v0, v1, v2, v3, pv4, pv2]) rfl ⟨c3, cap3, rfl, OE.out, GE.out⟩

end Go.Proofs.YtgiefpipflcbgadGreatDoor
