/- What the model's SumProve answers: a contract. Conditions: lists that can be read, of at most 2 to the 40. -/
import Derived.Test.YtgiefpipflcbgaqGreatDoorSumT
import Derived.Test.YtgiefpipflcbgaqGreatDoorSumA
import Derived.Test.YtgiefpipflcbgaqGreatDoorBzal
import Derived.Test.YtgiefpipflcbgaqGreatDoorBzam
import Derived.Test.YtgiefpipflcbgaqGreatDoorBzaw
namespace Go.Proofs.YtgiefpipflcbgaqGreatDoor
open Go.ChangeShapes Go.WideShapes Go.ChangeAt Go.RowKit
set_option linter.unusedVariables false
set_option maxRecDepth 100000
set_option linter.unusedSimpArgs false

/-- SumProve's code. -/
def spc8 (K : Int) (n : Nat) (L : Nat → Nat) (f g : Nat → Nat → Int) (fs gs : Nat → Int) (len : Nat) (at' : Int) (st : ByteArray) (ct : Int) : Int :=
  if ac8 K n L f g = 0 then (if sokb fs gs len at' st ct = true then (if spb at' ct 6 = true then 6 else 0) else 1) else ac8 K n L f g
/-- Rounds, a point, values, a source and a code, to be read. -/
def PxAns (w : World) (q : Int) (nR m nV nS : Nat) (G : Nat → Nat → El) (R V : Nat → El) (fs gs : Nat → Int) (a : Int) (s : ByteArray) (c : Int) (e : Ending) (w' : World) : Prop :=
  ∃ (cR : Option Addr) (capR : Nat) (cP : Option Addr) (capP : Nat) (cV : Option Addr) (capV : Nat) (cS : Option Addr) (capS : Nat), e = .returned (.tuple #[.slice cR nR capR, .slice cP nR capP, .slice cV nV capV, .agg #[.slice cS nS capS, .int .i64 a, .string s, .int .i64 c], .int .i64 q]) ∧ RowsQ (fun b => w.heap.size ≤ b) w' cR nR m G ∧ OwnE w' w.heap.size cP nR (cA R) (cB R) ∧ OwnE w' w.heap.size cV nV (cA V) (cB V) ∧ OwnE w' w.heap.size cS nS fs gs ∧ Chg nob w w'
theorem PxAns.zero {w w' : World} {q q' : Int} {nR m nV nS : Nat} {G : Nat → Nat → El} {R V : Nat → El} {fs gs : Nat → Int} {a : Int} {s : ByteArray} {c : Int} {e : Ending} {c1 c2 c3 : Option Addr} {p1 p2 p3 : Nat} (hq : q = q') (h0 : ¬ q' = 0) (he : e = .returned (.tuple #[.slice c1 0 p1, .slice c2 0 p2, .slice c3 0 p3, .agg #[.slice none 0 0, .int .i64 0, .string ⟨#[]⟩, .int .i64 0], .int .i64 q'])) (k : Chg nob w w') :
    PxAns w q (scn q nR) (scn q m) (scn q nV) (scn q nS) G R V fs gs (scI q a) (scS q s) (scI q c) e w' := by
  subst hq
  have e1 : ∀ n, scn q n = 0 := fun n => if_neg h0
  have e2 : ∀ a, scI q a = 0 := fun a => if_neg h0
  have e3 : ∀ s, scS q s = ⟨#[]⟩ := fun s => if_neg h0
  rw [e1, e1, e1, e1, e2, e2, e3]
  exact ⟨c1, p1, c2, p2, c3, p3, none, 0, he, fun i hi => absurd hi (by omega), .inl rfl, .inl rfl, .inl rfl, k⟩
theorem PxAns.full {w w' : World} {q : Int} {nR m nV nS : Nat} {G : Nat → Nat → El} {R V : Nat → El} {fs gs : Nat → Int} {a : Int} {s : ByteArray} {c : Int} {e : Ending} {c1 c2 c3 c4 : Option Addr} {p1 p2 p3 p4 : Nat} (hq : q = 0) (he : e = .returned (.tuple #[.slice c1 nR p1, .slice c2 nR p2, .slice c3 nV p3, .agg #[.slice c4 nS p4, .int .i64 a, .string s, .int .i64 c], .int .i64 0])) (h1 : RowsQ (fun b => w.heap.size ≤ b) w' c1 nR m G) (h2 : OwnE w' w.heap.size c2 nR (cA R) (cB R)) (h3 : OwnE w' w.heap.size c3 nV (cA V) (cB V)) (h4 : OwnE w' w.heap.size c4 nS fs gs) (k : Chg nob w w') :
    PxAns w q (scn q nR) (scn q m) (scn q nV) (scn q nS) G R V fs gs (scI q a) (scS q s) (scI q c) e w' := by
  subst hq
  exact ⟨c1, p1, c2, p2, c3, p3, c4, p4, he, h1, h2, h3, h4, k⟩
theorem log2_p6 {i : Nat} : Nat.log2 (2 ^ i) = i := by
  rw [Nat.log2_eq_iff (by have := Nat.one_le_two_pow (n := i); omega)]
  exact ⟨Nat.le_refl _, by rw [Nat.pow_succ]; have := Nat.one_le_two_pow (n := i); omega⟩

theorem spc8_ok {K : Int} {n : Nat} {L : Nat → Nat} {f g : Nat → Nat → Int} {fs gs : Nat → Int} {len : Nat} {at' : Int} {st : ByteArray} {ct : Int} (h : spc8 K n L f g fs gs len at' st ct = 0) : ac8 K n L f g = 0 ∧ sokb fs gs len at' st ct = true ∧ spb at' ct 6 = false := by
  unfold spc8 at h
  by_cases h1 : ac8 K n L f g = 0
  · rw [if_pos h1] at h
    by_cases h2 : sokb fs gs len at' st ct = true
    · rw [if_pos h2] at h
      by_cases h3 : spb at' ct 6 = true
      · rw [if_pos h3] at h; omega
      · exact ⟨h1, h2, by simpa using h3⟩
    · rw [if_neg h2] at h; omega
  · rw [if_neg h1] at h; exact absurd h h1
theorem spc8_le {K : Int} {n : Nat} {L : Nat → Nat} {f g : Nat → Nat → Int} {fs gs : Nat → Int} {len : Nat} {at' : Int} {st : ByteArray} {ct : Int} {q : Int} (hq : q = spc8 K n L f g fs gs len at' st ct) : scn q (Nat.log2 (L 0)) ≤ 6 ∧ scn q (K.toNat + 2) ≤ 4 ∧ scn q n ≤ 4 ∧ scn q len ≤ 64 := by
  unfold scn
  by_cases h0 : q = 0
  · rw [if_pos h0, if_pos h0, if_pos h0, if_pos h0]
    obtain ⟨h1, h2, _⟩ := spc8_ok (hq.symm.trans h0)
    obtain ⟨k, hK, hk, hn, ht⟩ := ac8_ok h1
    have hn0 : 0 < n := by rcases hk with rfl | rfl <;> omega
    obtain ⟨i6, hi6, e6⟩ := p6_ex (tok_p6 (ht 0 hn0).1).1
    refine ⟨by rw [e6, log2_p6]; exact hi6, ?_, ?_, (sokb_parts h2).1⟩
    · rw [hK, Int.toNat_natCast]; rcases hk with rfl | rfl <;> omega
    · rcases hk with rfl | rfl <;> omega
  · rw [if_neg h0, if_neg h0, if_neg h0, if_neg h0]
    exact ⟨by omega, by omega, by omega, by omega⟩

set_option maxHeartbeats 4000000 in
theorem sProveX_any (K : Int) (c : Option Addr) (n cap : Nat) (A : Nat → Option Addr) (L C : Nat → Nat) (f g : Nat → Nat → Int) (cs : Option Addr) (len caps : Nat) (fs gs : Nat → Int) (at' : Int) (st : ByteArray) (ct : Int) (w : World) (h : Hid (RowsV w c n A L C f g)) (hL : Hid (∀ i, i < n → L i ≤ 1099511627776)) (hn : n ≤ 1099511627776) (hs : Hid (PairV w cs len fs gs)) (hl : (len : Int) ≤ 9223372036854775807) (hst : (st.size : Int) ≤ 9223372036854775807) :
    Calls Tryz.prog 7 #[.int .i64 K, .slice c n cap, .agg #[.slice cs len caps, .int .i64 at', .string st, .int .i64 ct]] w fun e w' => PxAns w (spc8 K n L f g fs gs len at' st ct) (scn (spc8 K n L f g fs gs len at' st ct) (Nat.log2 (L 0))) (scn (spc8 K n L f g fs gs len at' st ct) (K.toNat + 2)) (scn (spc8 K n L f g fs gs len at' st ct) n) (scn (spc8 K n L f g fs gs len at' st ct) len) (prd K.toNat fs gs len (Nat.log2 (L 0)) ⟨fun i => elF (f i) (g i), at', st, ct⟩) (ppt K.toNat fs gs len (Nat.log2 (L 0)) ⟨fun i => elF (f i) (g i), at', st, ct⟩) (pvl K.toNat fs gs len (Nat.log2 (L 0)) ⟨fun i => elF (f i) (g i), at', st, ct⟩) fs gs (scI (spc8 K n L f g fs gs len at' st ct) (pst K.toNat fs gs len (Nat.log2 (L 0)) ⟨fun i => elF (f i) (g i), at', st, ct⟩ (Nat.log2 (L 0))).a) (scS (spc8 K n L f g fs gs len at' st ct) (pst K.toNat fs gs len (Nat.log2 (L 0)) ⟨fun i => elF (f i) (g i), at', st, ct⟩ (Nat.log2 (L 0))).s) (scI (spc8 K n L f g fs gs len at' st ct) (pst K.toNat fs gs len (Nat.log2 (L 0)) ⟨fun i => elF (f i) (g i), at', st, ct⟩ (Nat.log2 (L 0))).c) e w' := by
  have S0 : Hid (((w.alloc (.cells #[.slice cs len caps, .int .i64 at', .string st, .int .i64 ct] 31)).alloc (.cells #[.slice none 0 0, .int .i64 0, .string ⟨#[]⟩, .int .i64 0] 31)).rowIs w.heap.size 31 4 (pv4 (.slice cs len caps) (.int .i64 at') (.string st) (.int .i64 ct))) := hik (World.rowIs.alloc (row4_new w _ _ _ _ _) _)
  have Z0 : Hid (((w.alloc (.cells #[.slice cs len caps, .int .i64 at', .string st, .int .i64 ct] 31)).alloc (.cells #[.slice none 0 0, .int .i64 0, .string ⟨#[]⟩, .int .i64 0] 31)).rowIs (w.heap.size + 1) 31 4 (pv4 (.slice none 0 0) (.int .i64 0) (.string ⟨#[]⟩) (.int .i64 0))) := hik (by simpa using row4_new (w.alloc (.cells #[.slice cs len caps, .int .i64 at', .string st, .int .i64 ct] 31)) (.slice none 0 0) (.int .i64 0) (.string ⟨#[]⟩) (.int .i64 0) 31)
  have G0 : Hid (Chg nob w ((w.alloc (.cells #[.slice cs len caps, .int .i64 at', .string st, .int .i64 ct] 31)).alloc (.cells #[.slice none 0 0, .int .i64 0, .string ⟨#[]⟩, .int .i64 0] 31))) := hik (((Chg.refl nob w).alloc _).alloc _)
  obtain ⟨q, hq⟩ : ∃ q, q = (spc8 K n L f g fs gs len at' st ct) := ⟨_, rfl⟩
  have HQ := hik hq
  clear hq
  rw [← HQ.out]
  go_enter Tryz.func7, Tryz.ntmps7
  go_upto_region 1 with fail
  generalize hE : ((w.alloc (.cells #[.slice cs len caps, .int .i64 at', .string st, .int .i64 ct] 31)).alloc (.cells #[.slice none 0 0, .int .i64 0, .string ⟨#[]⟩, .int .i64 0] 31)) = W0 at S0 Z0 G0 ⊢
  clear hE
  by_cases h4 : 4096 < n
  · have h4' : 4096 < (n : Int) := by omega
    have HA := hik (show ac8 K n L f g = 2 by unfold ac8; rw [if_pos h4])
    have HC := hik (show q = 2 by rw [HQ.out]; unfold spc8; rw [HA.out]; rfl)
    have y0 : (W0).cell? ⟨w.heap.size + 1, 0, none⟩ = some (.slice none 0 0) := Z0.out.cell (by omega)
    have y1 : (W0).cell? ⟨w.heap.size + 1, 1, none⟩ = some (.int .i64 0) := Z0.out.cell (by omega)
    have y2 : (W0).cell? ⟨w.heap.size + 1, 2, none⟩ = some (.string ⟨#[]⟩) := Z0.out.cell (by omega)
    have y3 : (W0).cell? ⟨w.heap.size + 1, 3, none⟩ = some (.int .i64 0) := Z0.out.cell (by omega)
    have v0 := Z0.out.frozen 0
    have v1 := Z0.out.frozen 1
    have v2 := Z0.out.frozen 2
    have v3 := Z0.out.frozen 3
    have zz : w.heap.size + 1 < W0.heap.size := Z0.out.lt
    have zz2 : w.heap.size < W0.heap.size := by omega
    go_wp2
    have CE := hik ((((chg4_set G0.out (w.heap.size + 1) (fun l => absurd l (by omega)) (.slice none 0 0) (.int .i64 0) (.string ⟨#[]⟩) (.int .i64 0)).alloc (.cells #[] 29)).alloc (.cells #[] 45)).alloc (.cells #[] 45))
    have ZE := hik (World.rowIs.alloc (World.rowIs.alloc (World.rowIs.alloc (row4_set Z0.out (.slice none 0 0) (.int .i64 0) (.string ⟨#[]⟩) (.int .i64 0)) (.cells #[] 29)) (.cells #[] 45)) (.cells #[] 45))
    clear y0 y1 y2 y3 v0 v1 v2 v3
    generalize hE : (((((((W0.setCell ⟨w.heap.size + 1, 0, none⟩ (.slice none 0 0)).setCell ⟨w.heap.size + 1, 1, none⟩ (.int .i64 0)).setCell ⟨w.heap.size + 1, 2, none⟩ (.string ⟨#[]⟩)).setCell ⟨w.heap.size + 1, 3, none⟩ (.int .i64 0)).alloc (.cells #[] 29)).alloc (.cells #[] 45)).alloc (.cells #[] 45)) = W9 at CE ZE ⊢
    clear hE
    have u0 : (W9).cell? ⟨w.heap.size + 1, 0, none⟩ = some (.slice none 0 0) := ZE.out.cell (by omega)
    have u1 : (W9).cell? ⟨w.heap.size + 1, 1, none⟩ = some (.int .i64 0) := ZE.out.cell (by omega)
    have u2 : (W9).cell? ⟨w.heap.size + 1, 2, none⟩ = some (.string ⟨#[]⟩) := ZE.out.cell (by omega)
    have u3 : (W9).cell? ⟨w.heap.size + 1, 3, none⟩ = some (.int .i64 0) := ZE.out.cell (by omega)
    exact bodyPost_ret (v := .tuple #[.slice (some ⟨W0.heap.size, 0, none⟩) 0 0, .slice (some ⟨W0.heap.size + 1, 0, none⟩) 0 0, .slice (some ⟨W0.heap.size + 1 + 1, 0, none⟩) 0 0, .agg #[.slice none 0 0, .int .i64 0, .string ⟨#[]⟩, .int .i64 0], .int .i64 2]) (by simp [results, Tryz.results7, go_sem, u0, u1, u2, u3]) rfl (PxAns.zero HC.out (by decide) rfl CE.out)
  have h4' : ¬ 4096 < (n : Int) := by omega
  go_wp2_with fail
  refine (sAsk8_any K c n cap A L C f g _ (hik (RowsV.keep h.out G0.out)) hL hn).mono ?_
  rintro e W1 ⟨he, k1⟩
  have S1 := hik (rowIs_keep S0.out k1)
  have Z1 := hik (rowIs_keep Z0.out k1)
  have G1 := hik (G0.out.trans k1)
  clear k1 S0 Z0 G0
  by_cases ha : ¬ ac8 K n L f g = 0
  · obtain ⟨qa, hqa⟩ : ∃ qa, qa = ac8 K n L f g := ⟨_, rfl⟩
    have HC := hik (show q = qa by rw [HQ.out]; unfold spc8; rw [if_neg ha, hqa])
    rw [← hqa] at he ha
    subst he
    have hb : (qa == 0) = false := by simpa using ha
    clear hqa
    have y0 : (W1).cell? ⟨w.heap.size + 1, 0, none⟩ = some (.slice none 0 0) := Z1.out.cell (by omega)
    have y1 : (W1).cell? ⟨w.heap.size + 1, 1, none⟩ = some (.int .i64 0) := Z1.out.cell (by omega)
    have y2 : (W1).cell? ⟨w.heap.size + 1, 2, none⟩ = some (.string ⟨#[]⟩) := Z1.out.cell (by omega)
    have y3 : (W1).cell? ⟨w.heap.size + 1, 3, none⟩ = some (.int .i64 0) := Z1.out.cell (by omega)
    have v0 := Z1.out.frozen 0
    have v1 := Z1.out.frozen 1
    have v2 := Z1.out.frozen 2
    have v3 := Z1.out.frozen 3
    have zz : w.heap.size + 1 < W1.heap.size := Z1.out.lt
    have zz2 : w.heap.size < W1.heap.size := by omega
    go_wp2
    have CE := hik ((((chg4_set G1.out (w.heap.size + 1) (fun l => absurd l (by omega)) (.slice none 0 0) (.int .i64 0) (.string ⟨#[]⟩) (.int .i64 0)).alloc (.cells #[] 29)).alloc (.cells #[] 45)).alloc (.cells #[] 45))
    have ZE := hik (World.rowIs.alloc (World.rowIs.alloc (World.rowIs.alloc (row4_set Z1.out (.slice none 0 0) (.int .i64 0) (.string ⟨#[]⟩) (.int .i64 0)) (.cells #[] 29)) (.cells #[] 45)) (.cells #[] 45))
    clear y0 y1 y2 y3 v0 v1 v2 v3
    generalize hE : (((((((W1.setCell ⟨w.heap.size + 1, 0, none⟩ (.slice none 0 0)).setCell ⟨w.heap.size + 1, 1, none⟩ (.int .i64 0)).setCell ⟨w.heap.size + 1, 2, none⟩ (.string ⟨#[]⟩)).setCell ⟨w.heap.size + 1, 3, none⟩ (.int .i64 0)).alloc (.cells #[] 29)).alloc (.cells #[] 45)).alloc (.cells #[] 45)) = W9 at CE ZE ⊢
    clear hE
    have u0 : (W9).cell? ⟨w.heap.size + 1, 0, none⟩ = some (.slice none 0 0) := ZE.out.cell (by omega)
    have u1 : (W9).cell? ⟨w.heap.size + 1, 1, none⟩ = some (.int .i64 0) := ZE.out.cell (by omega)
    have u2 : (W9).cell? ⟨w.heap.size + 1, 2, none⟩ = some (.string ⟨#[]⟩) := ZE.out.cell (by omega)
    have u3 : (W9).cell? ⟨w.heap.size + 1, 3, none⟩ = some (.int .i64 0) := ZE.out.cell (by omega)
    exact bodyPost_ret (v := .tuple #[.slice (some ⟨W1.heap.size, 0, none⟩) 0 0, .slice (some ⟨W1.heap.size + 1, 0, none⟩) 0 0, .slice (some ⟨W1.heap.size + 1 + 1, 0, none⟩) 0 0, .agg #[.slice none 0 0, .int .i64 0, .string ⟨#[]⟩, .int .i64 0], .int .i64 qa]) (by simp [results, Tryz.results7, go_sem, u0, u1, u2, u3]) rfl (PxAns.zero HC.out (ha) rfl CE.out)
  replace ha : ac8 K n L f g = 0 := Classical.byContradiction ha
  rw [ha] at he
  subst he
  have x0 : (W1).cell? ⟨w.heap.size, 0, none⟩ = some (.slice cs len caps) := S1.out.cell (by omega)
  have x1 : (W1).cell? ⟨w.heap.size, 1, none⟩ = some (.int .i64 at') := S1.out.cell (by omega)
  have x2 : (W1).cell? ⟨w.heap.size, 2, none⟩ = some (.string st) := S1.out.cell (by omega)
  have x3 : (W1).cell? ⟨w.heap.size, 3, none⟩ = some (.int .i64 ct) := S1.out.cell (by omega)
  have zS : w.heap.size < W1.heap.size := S1.out.lt
  go_wp2_with fail
  refine (sSourceOK_any cs len caps at' st ct fs gs _ (hik (hs.out.keep G1.out)) hl hst).mono ?_
  rintro e W2 ⟨he, k2⟩
  have S2 := hik (rowIs_keep S1.out k2)
  have Z2 := hik (rowIs_keep Z1.out k2)
  have G2 := hik (G1.out.trans k2)
  clear k2 S1 Z1 G1 x0 x1 x2 x3 zS
  cases hb : sokb fs gs len at' st ct
  · have HC := hik (show q = 1 by rw [HQ.out]; unfold spc8; rw [if_pos ha, hb]; rfl)
    rw [hb] at he
    subst he
    have y0 : (W2).cell? ⟨w.heap.size + 1, 0, none⟩ = some (.slice none 0 0) := Z2.out.cell (by omega)
    have y1 : (W2).cell? ⟨w.heap.size + 1, 1, none⟩ = some (.int .i64 0) := Z2.out.cell (by omega)
    have y2 : (W2).cell? ⟨w.heap.size + 1, 2, none⟩ = some (.string ⟨#[]⟩) := Z2.out.cell (by omega)
    have y3 : (W2).cell? ⟨w.heap.size + 1, 3, none⟩ = some (.int .i64 0) := Z2.out.cell (by omega)
    have v0 := Z2.out.frozen 0
    have v1 := Z2.out.frozen 1
    have v2 := Z2.out.frozen 2
    have v3 := Z2.out.frozen 3
    have zz : w.heap.size + 1 < W2.heap.size := Z2.out.lt
    have zz2 : w.heap.size < W2.heap.size := by omega
    go_wp2
    have CE := hik ((((chg4_set G2.out (w.heap.size + 1) (fun l => absurd l (by omega)) (.slice none 0 0) (.int .i64 0) (.string ⟨#[]⟩) (.int .i64 0)).alloc (.cells #[] 29)).alloc (.cells #[] 45)).alloc (.cells #[] 45))
    have ZE := hik (World.rowIs.alloc (World.rowIs.alloc (World.rowIs.alloc (row4_set Z2.out (.slice none 0 0) (.int .i64 0) (.string ⟨#[]⟩) (.int .i64 0)) (.cells #[] 29)) (.cells #[] 45)) (.cells #[] 45))
    clear y0 y1 y2 y3 v0 v1 v2 v3
    generalize hE : (((((((W2.setCell ⟨w.heap.size + 1, 0, none⟩ (.slice none 0 0)).setCell ⟨w.heap.size + 1, 1, none⟩ (.int .i64 0)).setCell ⟨w.heap.size + 1, 2, none⟩ (.string ⟨#[]⟩)).setCell ⟨w.heap.size + 1, 3, none⟩ (.int .i64 0)).alloc (.cells #[] 29)).alloc (.cells #[] 45)).alloc (.cells #[] 45)) = W9 at CE ZE ⊢
    clear hE
    have u0 : (W9).cell? ⟨w.heap.size + 1, 0, none⟩ = some (.slice none 0 0) := ZE.out.cell (by omega)
    have u1 : (W9).cell? ⟨w.heap.size + 1, 1, none⟩ = some (.int .i64 0) := ZE.out.cell (by omega)
    have u2 : (W9).cell? ⟨w.heap.size + 1, 2, none⟩ = some (.string ⟨#[]⟩) := ZE.out.cell (by omega)
    have u3 : (W9).cell? ⟨w.heap.size + 1, 3, none⟩ = some (.int .i64 0) := ZE.out.cell (by omega)
    exact bodyPost_ret (v := .tuple #[.slice (some ⟨W2.heap.size, 0, none⟩) 0 0, .slice (some ⟨W2.heap.size + 1, 0, none⟩) 0 0, .slice (some ⟨W2.heap.size + 1 + 1, 0, none⟩) 0 0, .agg #[.slice none 0 0, .int .i64 0, .string ⟨#[]⟩, .int .i64 0], .int .i64 1]) (by simp [results, Tryz.results7, go_sem, u0, u1, u2, u3]) rfl (PxAns.zero HC.out (by decide) rfl CE.out)
  rw [hb] at he
  subst he
  have x0 : (W2).cell? ⟨w.heap.size, 0, none⟩ = some (.slice cs len caps) := S2.out.cell (by omega)
  have x1 : (W2).cell? ⟨w.heap.size, 1, none⟩ = some (.int .i64 at') := S2.out.cell (by omega)
  have x2 : (W2).cell? ⟨w.heap.size, 2, none⟩ = some (.string st) := S2.out.cell (by omega)
  have x3 : (W2).cell? ⟨w.heap.size, 3, none⟩ = some (.int .i64 ct) := S2.out.cell (by omega)
  have zS : w.heap.size < W2.heap.size := S2.out.lt
  go_wp2_with fail
  refine (sSpent_any cs len caps at' st ct 6 _ (by omega)).mono ?_
  rintro e W3 ⟨he, k3⟩
  have S3 := hik (rowIs_keep S2.out k3)
  have Z3 := hik (rowIs_keep Z2.out k3)
  have G3 := hik (G2.out.trans k3)
  clear k3 S2 Z2 G2 x0 x1 x2 x3 zS
  by_cases hd : spb at' ct 6 = true
  · have HC := hik (show q = 6 by rw [HQ.out]; unfold spc8; rw [if_pos ha, hb, if_pos rfl, hd]; rfl)
    rw [hd] at he
    subst he
    have y0 : (W3).cell? ⟨w.heap.size + 1, 0, none⟩ = some (.slice none 0 0) := Z3.out.cell (by omega)
    have y1 : (W3).cell? ⟨w.heap.size + 1, 1, none⟩ = some (.int .i64 0) := Z3.out.cell (by omega)
    have y2 : (W3).cell? ⟨w.heap.size + 1, 2, none⟩ = some (.string ⟨#[]⟩) := Z3.out.cell (by omega)
    have y3 : (W3).cell? ⟨w.heap.size + 1, 3, none⟩ = some (.int .i64 0) := Z3.out.cell (by omega)
    have v0 := Z3.out.frozen 0
    have v1 := Z3.out.frozen 1
    have v2 := Z3.out.frozen 2
    have v3 := Z3.out.frozen 3
    have zz : w.heap.size + 1 < W3.heap.size := Z3.out.lt
    have zz2 : w.heap.size < W3.heap.size := by omega
    go_wp2
    have CE := hik ((((chg4_set G3.out (w.heap.size + 1) (fun l => absurd l (by omega)) (.slice none 0 0) (.int .i64 0) (.string ⟨#[]⟩) (.int .i64 0)).alloc (.cells #[] 29)).alloc (.cells #[] 45)).alloc (.cells #[] 45))
    have ZE := hik (World.rowIs.alloc (World.rowIs.alloc (World.rowIs.alloc (row4_set Z3.out (.slice none 0 0) (.int .i64 0) (.string ⟨#[]⟩) (.int .i64 0)) (.cells #[] 29)) (.cells #[] 45)) (.cells #[] 45))
    clear y0 y1 y2 y3 v0 v1 v2 v3
    generalize hE : (((((((W3.setCell ⟨w.heap.size + 1, 0, none⟩ (.slice none 0 0)).setCell ⟨w.heap.size + 1, 1, none⟩ (.int .i64 0)).setCell ⟨w.heap.size + 1, 2, none⟩ (.string ⟨#[]⟩)).setCell ⟨w.heap.size + 1, 3, none⟩ (.int .i64 0)).alloc (.cells #[] 29)).alloc (.cells #[] 45)).alloc (.cells #[] 45)) = W9 at CE ZE ⊢
    clear hE
    have u0 : (W9).cell? ⟨w.heap.size + 1, 0, none⟩ = some (.slice none 0 0) := ZE.out.cell (by omega)
    have u1 : (W9).cell? ⟨w.heap.size + 1, 1, none⟩ = some (.int .i64 0) := ZE.out.cell (by omega)
    have u2 : (W9).cell? ⟨w.heap.size + 1, 2, none⟩ = some (.string ⟨#[]⟩) := ZE.out.cell (by omega)
    have u3 : (W9).cell? ⟨w.heap.size + 1, 3, none⟩ = some (.int .i64 0) := ZE.out.cell (by omega)
    exact bodyPost_ret (v := .tuple #[.slice (some ⟨W3.heap.size, 0, none⟩) 0 0, .slice (some ⟨W3.heap.size + 1, 0, none⟩) 0 0, .slice (some ⟨W3.heap.size + 1 + 1, 0, none⟩) 0 0, .agg #[.slice none 0 0, .int .i64 0, .string ⟨#[]⟩, .int .i64 0], .int .i64 6]) (by simp [results, Tryz.results7, go_sem, u0, u1, u2, u3]) rfl (PxAns.zero HC.out (by decide) rfl CE.out)
  replace hd : spb at' ct 6 = false := by simpa using hd
  rw [hd] at he
  subst he
  have HC := hik (show q = 0 by rw [HQ.out]; unfold spc8; rw [if_pos ha, hb, if_pos rfl, hd]; rfl)
  obtain ⟨k, hKk, hk12, hnk, htk⟩ := ac8_ok ha
  subst hKk
  have hn0 : 0 < n := by rcases hk12 with rfl | rfl <;> omega
  obtain ⟨i6, hi6, e6⟩ := p6_ex (tok_p6 (htk 0 hn0).1).1
  have HV := hik (show Nat.log2 (L 0) = i6 by rw [e6, log2_p6])
  have HR := hik (show RowsE w c n (2 ^ i6) (fun i => elF (f i) (g i)) by rw [← e6]; exact rows_ok h.out htk)
  obtain ⟨b1, b2, ⟨b3, b4⟩, b5, b6, b7⟩ := sokb_parts hb
  have b8 := (spb_no hd).1
  have QP := hik (fun (w : World) (h : Hid (RowsE w c n (2 ^ i6) (fun i => elF (f i) (g i)))) (hs : Hid (PairV w cs len fs gs)) => sProve_any hk12 c n i6 cap hnk hi6 (fun i => elF (f i) (g i)) cs len caps fs gs at' st ct w h hs b1 b2 b5 b3 b8)
  obtain ⟨Gg, hGg⟩ : ∃ x, x = prd k fs gs len i6 ⟨fun i => elF (f i) (g i), at', st, ct⟩ := ⟨_, rfl⟩
  obtain ⟨Rr, hRr⟩ : ∃ x, x = ppt k fs gs len i6 ⟨fun i => elF (f i) (g i), at', st, ct⟩ := ⟨_, rfl⟩
  obtain ⟨Vv, hVv⟩ : ∃ x, x = pvl k fs gs len i6 ⟨fun i => elF (f i) (g i), at', st, ct⟩ := ⟨_, rfl⟩
  obtain ⟨Ps, hPs⟩ : ∃ x, x = pst k fs gs len i6 ⟨fun i => elF (f i) (g i), at', st, ct⟩ i6 := ⟨_, rfl⟩
  have EQ := hik (show Gg = prd k fs gs len i6 ⟨fun i => elF (f i) (g i), at', st, ct⟩ ∧ Rr = ppt k fs gs len i6 ⟨fun i => elF (f i) (g i), at', st, ct⟩ ∧ Vv = pvl k fs gs len i6 ⟨fun i => elF (f i) (g i), at', st, ct⟩ ∧ Ps = pst k fs gs len i6 ⟨fun i => elF (f i) (g i), at', st, ct⟩ i6 from ⟨hGg, hRr, hVv, hPs⟩)
  rw [← hGg, ← hRr, ← hVv, ← hPs] at QP
  have HLEN := hik b1
  clear hGg hRr hVv hPs e6 htk ha hb hd HQ hnk hk12 b1 b2 b3 b4 b5 b6 b7 b8 hn0 hi6
  have x0 : (W3).cell? ⟨w.heap.size, 0, none⟩ = some (.slice cs len caps) := S3.out.cell (by omega)
  have x1 : (W3).cell? ⟨w.heap.size, 1, none⟩ = some (.int .i64 at') := S3.out.cell (by omega)
  have x2 : (W3).cell? ⟨w.heap.size, 2, none⟩ = some (.string st) := S3.out.cell (by omega)
  have x3 : (W3).cell? ⟨w.heap.size, 3, none⟩ = some (.int .i64 ct) := S3.out.cell (by omega)
  have zS : w.heap.size < W3.heap.size := S3.out.lt
  go_wp2_with fail
  refine (QP.out _ (hik (RowsE.keep HR.out G3.out)) (hik (hs.out.keep G3.out))).mono ?_
  rintro e W4 ⟨cR, capR, cP, capP, cV, capV, rfl, rR, rP, rV, k4⟩
  have RR := hik rR
  have RP := hik rP
  have RV := hik rV
  have hz3 := hik (show w.heap.size + 1 < W3.heap.size from Z3.out.lt)
  have Z4 := hik (rowIs_keep Z3.out k4)
  have G4 := hik (G3.out.trans k4)
  clear rR rP rV k4 Z3 G3 S3 x0 x1 x2 x3 zS
  go_wp2_with fail
  refine (sOwn_any cs len caps fs gs Ps.a Ps.s Ps.c _ (hik (hs.out.keep (G4.out.alloc _))) (by have := HLEN.out; omega)).mono ?_
  rintro e W6 ⟨cS, capS, rfl, oS, k6⟩
  have OS := hik oS
  have hsz4 := hik (show w.heap.size + 1 < W4.heap.size from Z4.out.lt)
  have k5 := ((Chg.refl nob W4).alloc _).trans k6
  have R6 := hik (RR.out.keep k5)
  have P6 := hik (RP.out.keep k5)
  have V6 := hik (RV.out.keep k5)
  have Z6 := hik (rowIs_keep Z4.out k5)
  have G6 := hik (G4.out.trans k5)
  clear oS k6 k5 RR RP RV Z4 G4
  have y0 : (W6).cell? ⟨w.heap.size + 1, 0, none⟩ = some (.slice none 0 0) := Z6.out.cell (by omega)
  have y1 : (W6).cell? ⟨w.heap.size + 1, 1, none⟩ = some (.int .i64 0) := Z6.out.cell (by omega)
  have y2 : (W6).cell? ⟨w.heap.size + 1, 2, none⟩ = some (.string ⟨#[]⟩) := Z6.out.cell (by omega)
  have y3 : (W6).cell? ⟨w.heap.size + 1, 3, none⟩ = some (.int .i64 0) := Z6.out.cell (by omega)
  have v0 := Z6.out.frozen 0
  have v1 := Z6.out.frozen 1
  have v2 := Z6.out.frozen 2
  have v3 := Z6.out.frozen 3
  have zz : w.heap.size + 1 < W6.heap.size := Z6.out.lt
  have C7 := hik (chg4_set (Chg.refl (fun b => b = w.heap.size + 1) W6) (w.heap.size + 1) (fun _ => rfl) (.slice cS len capS) (.int .i64 Ps.a) (.string Ps.s) (.int .i64 Ps.c))
  have G7 := hik (chg4_set G6.out (w.heap.size + 1) (fun l => absurd l (by omega)) (.slice cS len capS) (.int .i64 Ps.a) (.string Ps.s) (.int .i64 Ps.c))
  have R7 := hik ((R6.out.chg C7.out (fun b hb e => by have := hz3.out; omega)).mono (R := fun b => w.heap.size ≤ b) (fun b hb => by have := hz3.out; omega))
  have P7 := hik ((P6.out.chg C7.out (fun b hb _ e => by have := hz3.out; omega)).low (B' := w.heap.size) (by have := hz3.out; omega))
  have V7 := hik ((V6.out.chg C7.out (fun b hb _ e => by have := hz3.out; omega)).low (B' := w.heap.size) (by have := hz3.out; omega))
  have O7 := hik ((OS.out.chg C7.out (fun b hb _ e => by have := hsz4.out; simp at hb; omega)).low (B' := w.heap.size) (by have := hsz4.out; simp; omega))
  have S7 := hik (row4_set Z6.out (.slice cS len capS) (.int .i64 Ps.a) (.string Ps.s) (.int .i64 Ps.c))
  go_wp2
  clear y0 y1 y2 y3 v0 v1 v2 v3
  generalize hE : (((W6.setCell ⟨w.heap.size + 1, 0, none⟩ (.slice cS len capS)).setCell ⟨w.heap.size + 1, 1, none⟩ (.int .i64 Ps.a)).setCell ⟨w.heap.size + 1, 2, none⟩ (.string Ps.s)).setCell ⟨w.heap.size + 1, 3, none⟩ (.int .i64 Ps.c) = W9 at R7 P7 V7 O7 S7 G7 ⊢
  clear hE
  have u0 : (W9).cell? ⟨w.heap.size + 1, 0, none⟩ = some (.slice cS len capS) := S7.out.cell (by omega)
  have u1 : (W9).cell? ⟨w.heap.size + 1, 1, none⟩ = some (.int .i64 Ps.a) := S7.out.cell (by omega)
  have u2 : (W9).cell? ⟨w.heap.size + 1, 2, none⟩ = some (.string Ps.s) := S7.out.cell (by omega)
  have u3 : (W9).cell? ⟨w.heap.size + 1, 3, none⟩ = some (.int .i64 Ps.c) := S7.out.cell (by omega)
  exact bodyPost_ret (v := .tuple #[.slice cR i6 capR, .slice cP i6 capP, .slice cV n capV, .agg #[.slice cS len capS, .int .i64 Ps.a, .string Ps.s, .int .i64 Ps.c], .int .i64 0]) (by simp [results, Tryz.results7, go_sem, u0, u1, u2, u3]) rfl (by
    rw [Int.toNat_natCast, HV.out, ← EQ.out.1, ← EQ.out.2.1, ← EQ.out.2.2.1, ← EQ.out.2.2.2]
    exact PxAns.full HC.out rfl R7.out P7.out V7.out O7.out G7.out)

end Go.Proofs.YtgiefpipflcbgaqGreatDoor
