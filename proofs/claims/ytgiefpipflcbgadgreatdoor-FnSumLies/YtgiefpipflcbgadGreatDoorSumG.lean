/- What the model's SumVerify answers: a contract. Conditions: lists that can be read, of at most 2 to the 40. -/
import Derived.Test.YtgiefpipflcbgadGreatDoorSumY
import Derived.Test.YtgiefpipflcbgadGreatDoorBzar
namespace Go.Proofs.YtgiefpipflcbgadGreatDoor
open Go.ChangeShapes Go.WideShapes Go.ChangeAt Go.RowKit
set_option linter.unusedVariables false
set_option maxRecDepth 100000
set_option linter.unusedSimpArgs false

/-- SumVerify's code. -/
def svc8 (K x1 x2 : Int) (m : Nat) (L : Nat → Nat) (f g : Nat → Nat → Int) (vars : Int) (fs gs : Nat → Int) (len : Nat) (at' : Int) (st : ByteArray) (ct : Int) : Int :=
  if rkc m L f g = 0 then (if eok x1 x2 = true ∧ sokb fs gs len at' st ct = true then (if kdb K = true ∧ inW vars 0 6 = true then (if spb at' ct 6 = true then 6 else (if (m : Int) = vars then vcd fs gs len (K.toNat + 2) L (fun i => elF (f i) (g i)) ⟨elP x1 x2, at', st, ct⟩ 0 m else 18)) else 4) else 1) else rkc m L f g
/-- A point, a claim, a source and a code, to be read. -/
def VxAns (w : World) (q : Int) (nP nS : Nat) (R : Nat → El) (fs gs : Nat → Int) (y1 y2 a : Int) (s : ByteArray) (c : Int) (e : Ending) (w' : World) : Prop :=
  ∃ (cP : Option Addr) (capP : Nat) (cS : Option Addr) (capS : Nat), e = .returned (.tuple #[.slice cP nP capP, .agg #[.int .i64 y1, .int .i64 y2], .agg #[.slice cS nS capS, .int .i64 a, .string s, .int .i64 c], .int .i64 q]) ∧ OwnE w' w.heap.size cP nP (cA R) (cB R) ∧ OwnE w' w.heap.size cS nS fs gs ∧ Chg nob w w'
theorem VxAns.zero {w w' : World} {q q' : Int} {nP nS : Nat} {R : Nat → El} {fs gs : Nat → Int} {y1 y2 a : Int} {s : ByteArray} {c : Int} {e : Ending} {c1 : Option Addr} {p1 : Nat} (hq : q = q') (h0 : ¬ q' = 0) (he : e = .returned (.tuple #[.slice c1 0 p1, .agg #[.int .i64 0, .int .i64 0], .agg #[.slice none 0 0, .int .i64 0, .string ⟨#[]⟩, .int .i64 0], .int .i64 q'])) (k : Chg nob w w') :
    VxAns w q (scn q nP) (scn q nS) R fs gs (scI q y1) (scI q y2) (scI q a) (scS q s) (scI q c) e w' := by
  subst hq
  have e1 : ∀ n, scn q n = 0 := fun n => if_neg h0
  have e2 : ∀ a, scI q a = 0 := fun a => if_neg h0
  have e3 : ∀ s, scS q s = ⟨#[]⟩ := fun s => if_neg h0
  rw [e1, e1, e2, e2, e2, e2, e3]
  exact ⟨c1, p1, none, 0, he, .inl rfl, .inl rfl, k⟩
theorem VxAns.full {w w' : World} {q : Int} {nP nS : Nat} {R : Nat → El} {fs gs : Nat → Int} {y1 y2 a : Int} {s : ByteArray} {c : Int} {e : Ending} {c1 c2 : Option Addr} {p1 p2 : Nat} (hq : q = 0) (he : e = .returned (.tuple #[.slice c1 nP p1, .agg #[.int .i64 y1, .int .i64 y2], .agg #[.slice c2 nS p2, .int .i64 a, .string s, .int .i64 c], .int .i64 0])) (h1 : OwnE w' w.heap.size c1 nP (cA R) (cB R)) (h2 : OwnE w' w.heap.size c2 nS fs gs) (k : Chg nob w w') :
    VxAns w q (scn q nP) (scn q nS) R fs gs (scI q y1) (scI q y2) (scI q a) (scS q s) (scI q c) e w' := by
  subst hq
  exact ⟨c1, p1, c2, p2, he, h1, h2, k⟩

set_option maxHeartbeats 4000000 in
theorem sVerX_any (K x1 x2 : Int) (c : Option Addr) (m cap : Nat) (A : Nat → Option Addr) (L C : Nat → Nat) (f g : Nat → Nat → Int) (vars : Int) (cs : Option Addr) (len caps : Nat) (fs gs : Nat → Int) (at' : Int) (st : ByteArray) (ct : Int) (w : World) (h : Hid (RowsV w c m A L C f g)) (hL : Hid (∀ i, i < m → L i ≤ 1099511627776)) (hn : m ≤ 1099511627776) (hs : Hid (PairV w cs len fs gs)) (hl : (len : Int) ≤ 9223372036854775807) (hst : (st.size : Int) ≤ 9223372036854775807) :
    Calls Tryz.prog 21 #[.int .i64 K, .agg #[.int .i64 x1, .int .i64 x2], .slice c m cap, .int .i64 vars, .agg #[.slice cs len caps, .int .i64 at', .string st, .int .i64 ct]] w fun e w' => VxAns w (svc8 K x1 x2 m L f g vars fs gs len at' st ct) (scn (svc8 K x1 x2 m L f g vars fs gs len at' st ct) m) (scn (svc8 K x1 x2 m L f g vars fs gs len at' st ct) len) (vpt fs gs len (K.toNat + 2) (fun i => elF (f i) (g i)) ⟨elP x1 x2, at', st, ct⟩) fs gs (scI (svc8 K x1 x2 m L f g vars fs gs len at' st ct) (vst fs gs len (K.toNat + 2) (fun i => elF (f i) (g i)) ⟨elP x1 x2, at', st, ct⟩ m).x.v.1) (scI (svc8 K x1 x2 m L f g vars fs gs len at' st ct) (vst fs gs len (K.toNat + 2) (fun i => elF (f i) (g i)) ⟨elP x1 x2, at', st, ct⟩ m).x.v.2) (scI (svc8 K x1 x2 m L f g vars fs gs len at' st ct) (vst fs gs len (K.toNat + 2) (fun i => elF (f i) (g i)) ⟨elP x1 x2, at', st, ct⟩ m).a) (scS (svc8 K x1 x2 m L f g vars fs gs len at' st ct) (vst fs gs len (K.toNat + 2) (fun i => elF (f i) (g i)) ⟨elP x1 x2, at', st, ct⟩ m).s) (scI (svc8 K x1 x2 m L f g vars fs gs len at' st ct) (vst fs gs len (K.toNat + 2) (fun i => elF (f i) (g i)) ⟨elP x1 x2, at', st, ct⟩ m).c) e w' := by
  have E0 : Hid (((((w.alloc (.cells #[.int .i64 x1, .int .i64 x2] 31)).alloc (.cells #[.slice cs len caps, .int .i64 at', .string st, .int .i64 ct] 28)).alloc (.cells #[.int .i64 0, .int .i64 0] 31)).alloc (.cells #[.slice none 0 0, .int .i64 0, .string ⟨#[]⟩, .int .i64 0] 28)).rowIs w.heap.size 31 2 (pv2 (.int .i64 x1) (.int .i64 x2))) := hik (World.rowIs.alloc (World.rowIs.alloc (World.rowIs.alloc (row2_new w _ _ _) _) _) _)
  have S0 : Hid (((((w.alloc (.cells #[.int .i64 x1, .int .i64 x2] 31)).alloc (.cells #[.slice cs len caps, .int .i64 at', .string st, .int .i64 ct] 28)).alloc (.cells #[.int .i64 0, .int .i64 0] 31)).alloc (.cells #[.slice none 0 0, .int .i64 0, .string ⟨#[]⟩, .int .i64 0] 28)).rowIs (w.heap.size + 1) 28 4 (pv4 (.slice cs len caps) (.int .i64 at') (.string st) (.int .i64 ct))) := hik (by simpa using World.rowIs.alloc (World.rowIs.alloc (row4_new (w.alloc (.cells #[.int .i64 x1, .int .i64 x2] 31)) (.slice cs len caps) (.int .i64 at') (.string st) (.int .i64 ct) 28) (.cells #[.int .i64 0, .int .i64 0] 31)) (.cells #[.slice none 0 0, .int .i64 0, .string ⟨#[]⟩, .int .i64 0] 28))
  have F0 : Hid (ElB ((((w.alloc (.cells #[.int .i64 x1, .int .i64 x2] 31)).alloc (.cells #[.slice cs len caps, .int .i64 at', .string st, .int .i64 ct] 28)).alloc (.cells #[.int .i64 0, .int .i64 0] 31)).alloc (.cells #[.slice none 0 0, .int .i64 0, .string ⟨#[]⟩, .int .i64 0] 28)) (w.heap.size + 1 + 1) El.zr) := hik (by simpa using (ElB.zero ((w.alloc (.cells #[.int .i64 x1, .int .i64 x2] 31)).alloc (.cells #[.slice cs len caps, .int .i64 at', .string st, .int .i64 ct] 28))).keep ((Chg.refl nob _).alloc (.cells #[.slice none 0 0, .int .i64 0, .string ⟨#[]⟩, .int .i64 0] 28)))
  have Z0 : Hid (((((w.alloc (.cells #[.int .i64 x1, .int .i64 x2] 31)).alloc (.cells #[.slice cs len caps, .int .i64 at', .string st, .int .i64 ct] 28)).alloc (.cells #[.int .i64 0, .int .i64 0] 31)).alloc (.cells #[.slice none 0 0, .int .i64 0, .string ⟨#[]⟩, .int .i64 0] 28)).rowIs (w.heap.size + 1 + 1 + 1) 28 4 (pv4 (.slice none 0 0) (.int .i64 0) (.string ⟨#[]⟩) (.int .i64 0))) := hik (by simpa using row4_new (((w.alloc (.cells #[.int .i64 x1, .int .i64 x2] 31)).alloc (.cells #[.slice cs len caps, .int .i64 at', .string st, .int .i64 ct] 28)).alloc (.cells #[.int .i64 0, .int .i64 0] 31)) (.slice none 0 0) (.int .i64 0) (.string ⟨#[]⟩) (.int .i64 0) 28)
  have G0 : Hid (Chg nob w ((((w.alloc (.cells #[.int .i64 x1, .int .i64 x2] 31)).alloc (.cells #[.slice cs len caps, .int .i64 at', .string st, .int .i64 ct] 28)).alloc (.cells #[.int .i64 0, .int .i64 0] 31)).alloc (.cells #[.slice none 0 0, .int .i64 0, .string ⟨#[]⟩, .int .i64 0] 28))) := hik (((((Chg.refl nob w).alloc _).alloc _).alloc _).alloc _)
  obtain ⟨q, hq⟩ : ∃ q, q = (svc8 K x1 x2 m L f g vars fs gs len at' st ct) := ⟨_, rfl⟩
  have HQ := hik hq
  clear hq
  rw [← HQ.out]
  go_enter Tryz.func21, Tryz.ntmps21
  go_upto_region 1 with fail
  generalize hE : ((((w.alloc (.cells #[.int .i64 x1, .int .i64 x2] 31)).alloc (.cells #[.slice cs len caps, .int .i64 at', .string st, .int .i64 ct] 28)).alloc (.cells #[.int .i64 0, .int .i64 0] 31)).alloc (.cells #[.slice none 0 0, .int .i64 0, .string ⟨#[]⟩, .int .i64 0] 28)) = W0 at E0 S0 F0 Z0 G0 ⊢
  clear hE
  by_cases h4 : 4096 < m
  · have h4' : 4096 < (m : Int) := by omega
    have HA := hik (show rkc m L f g = 2 by unfold rkc; rw [if_pos h4])
    have HC := hik (show q = 2 by rw [HQ.out]; unfold svc8; rw [HA.out]; rfl)
    clear HQ
    have y0 : (W0).cell? ⟨w.heap.size + 1 + 1 + 1, 0, none⟩ = some (.slice none 0 0) := Z0.out.cell (by omega)
    have y1 : (W0).cell? ⟨w.heap.size + 1 + 1 + 1, 1, none⟩ = some (.int .i64 0) := Z0.out.cell (by omega)
    have y2 : (W0).cell? ⟨w.heap.size + 1 + 1 + 1, 2, none⟩ = some (.string ⟨#[]⟩) := Z0.out.cell (by omega)
    have y3 : (W0).cell? ⟨w.heap.size + 1 + 1 + 1, 3, none⟩ = some (.int .i64 0) := Z0.out.cell (by omega)
    have v0 := Z0.out.frozen 0
    have v1 := Z0.out.frozen 1
    have v2 := Z0.out.frozen 2
    have v3 := Z0.out.frozen 3
    have g0 : W0.cell? ⟨w.heap.size + 1 + 1, 0, none⟩ = some (.int .i64 0) := F0.out.c0
    have g1 : W0.cell? ⟨w.heap.size + 1 + 1, 1, none⟩ = some (.int .i64 0) := F0.out.c1
    have f0 := F0.out.fz 0
    have f1 := F0.out.fz 1
    have zz : w.heap.size + 1 + 1 + 1 < W0.heap.size := Z0.out.lt
    have zz2 : w.heap.size + 1 + 1 < W0.heap.size := by omega
    have zz3 : w.heap.size + 1 < W0.heap.size := by omega
    have zz4 : w.heap.size < W0.heap.size := by omega
    go_wp2
    have KB := hik (chg2_at (Chg.refl (fun b => b = w.heap.size + 1 + 1) W0) (w.heap.size + 1 + 1) (fun _ => rfl) 0 1 (.int .i64 0) (.int .i64 0))
    have KD := hik (chg4_set (Chg.refl (fun b => b = w.heap.size + 1 + 1 + 1) ((W0.setCell ⟨w.heap.size + 1 + 1, 0, none⟩ (.int .i64 0)).setCell ⟨w.heap.size + 1 + 1, 1, none⟩ (.int .i64 0))) (w.heap.size + 1 + 1 + 1) (fun _ => rfl) (.slice none 0 0) (.int .i64 0) (.string ⟨#[]⟩) (.int .i64 0))
    have CE := hik ((chg4_set (chg2_at G0.out (w.heap.size + 1 + 1) (fun l => absurd l (by omega)) 0 1 (.int .i64 0) (.int .i64 0)) (w.heap.size + 1 + 1 + 1) (fun l => absurd l (by omega)) (.slice none 0 0) (.int .i64 0) (.string ⟨#[]⟩) (.int .i64 0)).alloc (.cells #[] 31))
    have ZE := hik (World.rowIs.alloc (row4_set (rowIs_chg Z0.out KB.out (by omega)) (.slice none 0 0) (.int .i64 0) (.string ⟨#[]⟩) (.int .i64 0)) (.cells #[] 31))
    have FE := hik (((F0.out.set El.zr).chg KD.out (by omega)).keep ((Chg.refl nob _).alloc (.cells #[] 31)))
    clear y0 y1 y2 y3 v0 v1 v2 v3 g0 g1 f0 f1 KB KD
    generalize hE : (((((((W0.setCell ⟨w.heap.size + 1 + 1, 0, none⟩ (.int .i64 0)).setCell ⟨w.heap.size + 1 + 1, 1, none⟩ (.int .i64 0)).setCell ⟨w.heap.size + 1 + 1 + 1, 0, none⟩ (.slice none 0 0)).setCell ⟨w.heap.size + 1 + 1 + 1, 1, none⟩ (.int .i64 0)).setCell ⟨w.heap.size + 1 + 1 + 1, 2, none⟩ (.string ⟨#[]⟩)).setCell ⟨w.heap.size + 1 + 1 + 1, 3, none⟩ (.int .i64 0)).alloc (.cells #[] 31)) = W9 at CE ZE FE ⊢
    clear hE
    have u0 : (W9).cell? ⟨w.heap.size + 1 + 1 + 1, 0, none⟩ = some (.slice none 0 0) := ZE.out.cell (by omega)
    have u1 : (W9).cell? ⟨w.heap.size + 1 + 1 + 1, 1, none⟩ = some (.int .i64 0) := ZE.out.cell (by omega)
    have u2 : (W9).cell? ⟨w.heap.size + 1 + 1 + 1, 2, none⟩ = some (.string ⟨#[]⟩) := ZE.out.cell (by omega)
    have u3 : (W9).cell? ⟨w.heap.size + 1 + 1 + 1, 3, none⟩ = some (.int .i64 0) := ZE.out.cell (by omega)
    have r0 : W9.cell? ⟨w.heap.size + 1 + 1, 0, none⟩ = some (.int .i64 0) := FE.out.c0
    have r1 : W9.cell? ⟨w.heap.size + 1 + 1, 1, none⟩ = some (.int .i64 0) := FE.out.c1
    exact bodyPost_ret (v := .tuple #[.slice (some ⟨W0.heap.size, 0, none⟩) 0 0, .agg #[.int .i64 0, .int .i64 0], .agg #[.slice none 0 0, .int .i64 0, .string ⟨#[]⟩, .int .i64 0], .int .i64 2]) (by simp [results, Tryz.results21, go_sem, u0, u1, u2, u3, r0, r1]) rfl (VxAns.zero HC.out (by decide) rfl CE.out)
  have h4' : ¬ 4096 < (m : Int) := by omega
  go_wp2_with fail
  refine (sRnds_any c m cap A L C f g _ (hik (RowsV.keep h.out G0.out)) hL hn).mono ?_
  rintro e W1 ⟨he, k1⟩
  have E1 := hik (rowIs_keep E0.out k1)
  have S1 := hik (rowIs_keep S0.out k1)
  have F1 := hik (F0.out.keep k1)
  have Z1 := hik (rowIs_keep Z0.out k1)
  have G1 := hik (G0.out.trans k1)
  clear k1 E0 S0 F0 Z0 G0
  by_cases ha : ¬ rkc m L f g = 0
  · obtain ⟨qa, hqa⟩ : ∃ qa, qa = rkc m L f g := ⟨_, rfl⟩
    have HC := hik (show q = qa by rw [HQ.out]; unfold svc8; rw [if_neg ha, hqa])
    rw [← hqa] at he ha
    subst he
    have hb : (qa == 0) = false := by simpa using ha
    clear hqa HQ
    have y0 : (W1).cell? ⟨w.heap.size + 1 + 1 + 1, 0, none⟩ = some (.slice none 0 0) := Z1.out.cell (by omega)
    have y1 : (W1).cell? ⟨w.heap.size + 1 + 1 + 1, 1, none⟩ = some (.int .i64 0) := Z1.out.cell (by omega)
    have y2 : (W1).cell? ⟨w.heap.size + 1 + 1 + 1, 2, none⟩ = some (.string ⟨#[]⟩) := Z1.out.cell (by omega)
    have y3 : (W1).cell? ⟨w.heap.size + 1 + 1 + 1, 3, none⟩ = some (.int .i64 0) := Z1.out.cell (by omega)
    have v0 := Z1.out.frozen 0
    have v1 := Z1.out.frozen 1
    have v2 := Z1.out.frozen 2
    have v3 := Z1.out.frozen 3
    have g0 : W1.cell? ⟨w.heap.size + 1 + 1, 0, none⟩ = some (.int .i64 0) := F1.out.c0
    have g1 : W1.cell? ⟨w.heap.size + 1 + 1, 1, none⟩ = some (.int .i64 0) := F1.out.c1
    have f0 := F1.out.fz 0
    have f1 := F1.out.fz 1
    have zz : w.heap.size + 1 + 1 + 1 < W1.heap.size := Z1.out.lt
    have zz2 : w.heap.size + 1 + 1 < W1.heap.size := by omega
    have zz3 : w.heap.size + 1 < W1.heap.size := by omega
    have zz4 : w.heap.size < W1.heap.size := by omega
    go_wp2
    have KB := hik (chg2_at (Chg.refl (fun b => b = w.heap.size + 1 + 1) W1) (w.heap.size + 1 + 1) (fun _ => rfl) 0 1 (.int .i64 0) (.int .i64 0))
    have KD := hik (chg4_set (Chg.refl (fun b => b = w.heap.size + 1 + 1 + 1) ((W1.setCell ⟨w.heap.size + 1 + 1, 0, none⟩ (.int .i64 0)).setCell ⟨w.heap.size + 1 + 1, 1, none⟩ (.int .i64 0))) (w.heap.size + 1 + 1 + 1) (fun _ => rfl) (.slice none 0 0) (.int .i64 0) (.string ⟨#[]⟩) (.int .i64 0))
    have CE := hik ((chg4_set (chg2_at G1.out (w.heap.size + 1 + 1) (fun l => absurd l (by omega)) 0 1 (.int .i64 0) (.int .i64 0)) (w.heap.size + 1 + 1 + 1) (fun l => absurd l (by omega)) (.slice none 0 0) (.int .i64 0) (.string ⟨#[]⟩) (.int .i64 0)).alloc (.cells #[] 31))
    have ZE := hik (World.rowIs.alloc (row4_set (rowIs_chg Z1.out KB.out (by omega)) (.slice none 0 0) (.int .i64 0) (.string ⟨#[]⟩) (.int .i64 0)) (.cells #[] 31))
    have FE := hik (((F1.out.set El.zr).chg KD.out (by omega)).keep ((Chg.refl nob _).alloc (.cells #[] 31)))
    clear y0 y1 y2 y3 v0 v1 v2 v3 g0 g1 f0 f1 KB KD
    generalize hE : (((((((W1.setCell ⟨w.heap.size + 1 + 1, 0, none⟩ (.int .i64 0)).setCell ⟨w.heap.size + 1 + 1, 1, none⟩ (.int .i64 0)).setCell ⟨w.heap.size + 1 + 1 + 1, 0, none⟩ (.slice none 0 0)).setCell ⟨w.heap.size + 1 + 1 + 1, 1, none⟩ (.int .i64 0)).setCell ⟨w.heap.size + 1 + 1 + 1, 2, none⟩ (.string ⟨#[]⟩)).setCell ⟨w.heap.size + 1 + 1 + 1, 3, none⟩ (.int .i64 0)).alloc (.cells #[] 31)) = W9 at CE ZE FE ⊢
    clear hE
    have u0 : (W9).cell? ⟨w.heap.size + 1 + 1 + 1, 0, none⟩ = some (.slice none 0 0) := ZE.out.cell (by omega)
    have u1 : (W9).cell? ⟨w.heap.size + 1 + 1 + 1, 1, none⟩ = some (.int .i64 0) := ZE.out.cell (by omega)
    have u2 : (W9).cell? ⟨w.heap.size + 1 + 1 + 1, 2, none⟩ = some (.string ⟨#[]⟩) := ZE.out.cell (by omega)
    have u3 : (W9).cell? ⟨w.heap.size + 1 + 1 + 1, 3, none⟩ = some (.int .i64 0) := ZE.out.cell (by omega)
    have r0 : W9.cell? ⟨w.heap.size + 1 + 1, 0, none⟩ = some (.int .i64 0) := FE.out.c0
    have r1 : W9.cell? ⟨w.heap.size + 1 + 1, 1, none⟩ = some (.int .i64 0) := FE.out.c1
    exact bodyPost_ret (v := .tuple #[.slice (some ⟨W1.heap.size, 0, none⟩) 0 0, .agg #[.int .i64 0, .int .i64 0], .agg #[.slice none 0 0, .int .i64 0, .string ⟨#[]⟩, .int .i64 0], .int .i64 qa]) (by simp [results, Tryz.results21, go_sem, u0, u1, u2, u3, r0, r1]) rfl (VxAns.zero HC.out (ha) rfl CE.out)
  replace ha : rkc m L f g = 0 := Classical.byContradiction ha
  rw [ha] at he
  subst he
  have e0 : W1.cell? ⟨w.heap.size, 0, none⟩ = some (.int .i64 x1) := E1.out.cell (by omega)
  have e1 : W1.cell? ⟨w.heap.size, 1, none⟩ = some (.int .i64 x2) := E1.out.cell (by omega)
  have x0 : W1.cell? ⟨w.heap.size + 1, 0, none⟩ = some (.slice cs len caps) := S1.out.cell (by omega)
  have x1' : W1.cell? ⟨w.heap.size + 1, 1, none⟩ = some (.int .i64 at') := S1.out.cell (by omega)
  have x2' : W1.cell? ⟨w.heap.size + 1, 2, none⟩ = some (.string st) := S1.out.cell (by omega)
  have x3 : W1.cell? ⟨w.heap.size + 1, 3, none⟩ = some (.int .i64 ct) := S1.out.cell (by omega)
  have zS : w.heap.size + 1 < W1.heap.size := S1.out.lt
  have zE : w.heap.size < W1.heap.size := by omega
  go_wp2_with fail
  refine (sExtOK_any x1 x2 _).mono ?_
  rintro e W2 ⟨he, k1⟩
  have E2 := hik (rowIs_keep E1.out k1)
  have S2 := hik (rowIs_keep S1.out k1)
  have F2 := hik (F1.out.keep k1)
  have Z2 := hik (rowIs_keep Z1.out k1)
  have G2 := hik (G1.out.trans k1)
  clear k1 E1 S1 F1 Z1 G1
  clear x0 x1' x2' x3 e0 e1 zS zE
  cases hx : eok x1 x2
  · have HC := hik (show q = 1 by rw [HQ.out]; unfold svc8; rw [if_pos ha, if_neg (by rw [hx]; simp)])
    rw [hx] at he
    subst he
    clear HQ
    have y0 : (W2).cell? ⟨w.heap.size + 1 + 1 + 1, 0, none⟩ = some (.slice none 0 0) := Z2.out.cell (by omega)
    have y1 : (W2).cell? ⟨w.heap.size + 1 + 1 + 1, 1, none⟩ = some (.int .i64 0) := Z2.out.cell (by omega)
    have y2 : (W2).cell? ⟨w.heap.size + 1 + 1 + 1, 2, none⟩ = some (.string ⟨#[]⟩) := Z2.out.cell (by omega)
    have y3 : (W2).cell? ⟨w.heap.size + 1 + 1 + 1, 3, none⟩ = some (.int .i64 0) := Z2.out.cell (by omega)
    have v0 := Z2.out.frozen 0
    have v1 := Z2.out.frozen 1
    have v2 := Z2.out.frozen 2
    have v3 := Z2.out.frozen 3
    have g0 : W2.cell? ⟨w.heap.size + 1 + 1, 0, none⟩ = some (.int .i64 0) := F2.out.c0
    have g1 : W2.cell? ⟨w.heap.size + 1 + 1, 1, none⟩ = some (.int .i64 0) := F2.out.c1
    have f0 := F2.out.fz 0
    have f1 := F2.out.fz 1
    have zz : w.heap.size + 1 + 1 + 1 < W2.heap.size := Z2.out.lt
    have zz2 : w.heap.size + 1 + 1 < W2.heap.size := by omega
    have zz3 : w.heap.size + 1 < W2.heap.size := by omega
    have zz4 : w.heap.size < W2.heap.size := by omega
    go_wp2
    have KB := hik (chg2_at (Chg.refl (fun b => b = w.heap.size + 1 + 1) W2) (w.heap.size + 1 + 1) (fun _ => rfl) 0 1 (.int .i64 0) (.int .i64 0))
    have KD := hik (chg4_set (Chg.refl (fun b => b = w.heap.size + 1 + 1 + 1) ((W2.setCell ⟨w.heap.size + 1 + 1, 0, none⟩ (.int .i64 0)).setCell ⟨w.heap.size + 1 + 1, 1, none⟩ (.int .i64 0))) (w.heap.size + 1 + 1 + 1) (fun _ => rfl) (.slice none 0 0) (.int .i64 0) (.string ⟨#[]⟩) (.int .i64 0))
    have CE := hik ((chg4_set (chg2_at G2.out (w.heap.size + 1 + 1) (fun l => absurd l (by omega)) 0 1 (.int .i64 0) (.int .i64 0)) (w.heap.size + 1 + 1 + 1) (fun l => absurd l (by omega)) (.slice none 0 0) (.int .i64 0) (.string ⟨#[]⟩) (.int .i64 0)).alloc (.cells #[] 31))
    have ZE := hik (World.rowIs.alloc (row4_set (rowIs_chg Z2.out KB.out (by omega)) (.slice none 0 0) (.int .i64 0) (.string ⟨#[]⟩) (.int .i64 0)) (.cells #[] 31))
    have FE := hik (((F2.out.set El.zr).chg KD.out (by omega)).keep ((Chg.refl nob _).alloc (.cells #[] 31)))
    clear y0 y1 y2 y3 v0 v1 v2 v3 g0 g1 f0 f1 KB KD
    generalize hE : (((((((W2.setCell ⟨w.heap.size + 1 + 1, 0, none⟩ (.int .i64 0)).setCell ⟨w.heap.size + 1 + 1, 1, none⟩ (.int .i64 0)).setCell ⟨w.heap.size + 1 + 1 + 1, 0, none⟩ (.slice none 0 0)).setCell ⟨w.heap.size + 1 + 1 + 1, 1, none⟩ (.int .i64 0)).setCell ⟨w.heap.size + 1 + 1 + 1, 2, none⟩ (.string ⟨#[]⟩)).setCell ⟨w.heap.size + 1 + 1 + 1, 3, none⟩ (.int .i64 0)).alloc (.cells #[] 31)) = W9 at CE ZE FE ⊢
    clear hE
    have u0 : (W9).cell? ⟨w.heap.size + 1 + 1 + 1, 0, none⟩ = some (.slice none 0 0) := ZE.out.cell (by omega)
    have u1 : (W9).cell? ⟨w.heap.size + 1 + 1 + 1, 1, none⟩ = some (.int .i64 0) := ZE.out.cell (by omega)
    have u2 : (W9).cell? ⟨w.heap.size + 1 + 1 + 1, 2, none⟩ = some (.string ⟨#[]⟩) := ZE.out.cell (by omega)
    have u3 : (W9).cell? ⟨w.heap.size + 1 + 1 + 1, 3, none⟩ = some (.int .i64 0) := ZE.out.cell (by omega)
    have r0 : W9.cell? ⟨w.heap.size + 1 + 1, 0, none⟩ = some (.int .i64 0) := FE.out.c0
    have r1 : W9.cell? ⟨w.heap.size + 1 + 1, 1, none⟩ = some (.int .i64 0) := FE.out.c1
    exact bodyPost_ret (v := .tuple #[.slice (some ⟨W2.heap.size, 0, none⟩) 0 0, .agg #[.int .i64 0, .int .i64 0], .agg #[.slice none 0 0, .int .i64 0, .string ⟨#[]⟩, .int .i64 0], .int .i64 1]) (by simp [results, Tryz.results21, go_sem, u0, u1, u2, u3, r0, r1]) rfl (VxAns.zero HC.out (by decide) rfl CE.out)
  rw [hx] at he
  subst he
  have e0 : W2.cell? ⟨w.heap.size, 0, none⟩ = some (.int .i64 x1) := E2.out.cell (by omega)
  have e1 : W2.cell? ⟨w.heap.size, 1, none⟩ = some (.int .i64 x2) := E2.out.cell (by omega)
  have x0 : W2.cell? ⟨w.heap.size + 1, 0, none⟩ = some (.slice cs len caps) := S2.out.cell (by omega)
  have x1' : W2.cell? ⟨w.heap.size + 1, 1, none⟩ = some (.int .i64 at') := S2.out.cell (by omega)
  have x2' : W2.cell? ⟨w.heap.size + 1, 2, none⟩ = some (.string st) := S2.out.cell (by omega)
  have x3 : W2.cell? ⟨w.heap.size + 1, 3, none⟩ = some (.int .i64 ct) := S2.out.cell (by omega)
  have zS : w.heap.size + 1 < W2.heap.size := S2.out.lt
  have zE : w.heap.size < W2.heap.size := by omega
  go_wp2_with fail
  refine (sSourceOK_any cs len caps at' st ct fs gs _ (hik (hs.out.keep G2.out)) hl hst).mono ?_
  rintro e W3 ⟨he, k1⟩
  have E3 := hik (rowIs_keep E2.out k1)
  have S3 := hik (rowIs_keep S2.out k1)
  have F3 := hik (F2.out.keep k1)
  have Z3 := hik (rowIs_keep Z2.out k1)
  have G3 := hik (G2.out.trans k1)
  clear k1 E2 S2 F2 Z2 G2
  clear x0 x1' x2' x3 e0 e1 zS zE
  cases hb : sokb fs gs len at' st ct
  · have HC := hik (show q = 1 by rw [HQ.out]; unfold svc8; rw [if_pos ha, if_neg (by rw [hb]; simp)])
    rw [hb] at he
    subst he
    clear HQ
    have y0 : (W3).cell? ⟨w.heap.size + 1 + 1 + 1, 0, none⟩ = some (.slice none 0 0) := Z3.out.cell (by omega)
    have y1 : (W3).cell? ⟨w.heap.size + 1 + 1 + 1, 1, none⟩ = some (.int .i64 0) := Z3.out.cell (by omega)
    have y2 : (W3).cell? ⟨w.heap.size + 1 + 1 + 1, 2, none⟩ = some (.string ⟨#[]⟩) := Z3.out.cell (by omega)
    have y3 : (W3).cell? ⟨w.heap.size + 1 + 1 + 1, 3, none⟩ = some (.int .i64 0) := Z3.out.cell (by omega)
    have v0 := Z3.out.frozen 0
    have v1 := Z3.out.frozen 1
    have v2 := Z3.out.frozen 2
    have v3 := Z3.out.frozen 3
    have g0 : W3.cell? ⟨w.heap.size + 1 + 1, 0, none⟩ = some (.int .i64 0) := F3.out.c0
    have g1 : W3.cell? ⟨w.heap.size + 1 + 1, 1, none⟩ = some (.int .i64 0) := F3.out.c1
    have f0 := F3.out.fz 0
    have f1 := F3.out.fz 1
    have zz : w.heap.size + 1 + 1 + 1 < W3.heap.size := Z3.out.lt
    have zz2 : w.heap.size + 1 + 1 < W3.heap.size := by omega
    have zz3 : w.heap.size + 1 < W3.heap.size := by omega
    have zz4 : w.heap.size < W3.heap.size := by omega
    go_wp2
    have KB := hik (chg2_at (Chg.refl (fun b => b = w.heap.size + 1 + 1) W3) (w.heap.size + 1 + 1) (fun _ => rfl) 0 1 (.int .i64 0) (.int .i64 0))
    have KD := hik (chg4_set (Chg.refl (fun b => b = w.heap.size + 1 + 1 + 1) ((W3.setCell ⟨w.heap.size + 1 + 1, 0, none⟩ (.int .i64 0)).setCell ⟨w.heap.size + 1 + 1, 1, none⟩ (.int .i64 0))) (w.heap.size + 1 + 1 + 1) (fun _ => rfl) (.slice none 0 0) (.int .i64 0) (.string ⟨#[]⟩) (.int .i64 0))
    have CE := hik ((chg4_set (chg2_at G3.out (w.heap.size + 1 + 1) (fun l => absurd l (by omega)) 0 1 (.int .i64 0) (.int .i64 0)) (w.heap.size + 1 + 1 + 1) (fun l => absurd l (by omega)) (.slice none 0 0) (.int .i64 0) (.string ⟨#[]⟩) (.int .i64 0)).alloc (.cells #[] 31))
    have ZE := hik (World.rowIs.alloc (row4_set (rowIs_chg Z3.out KB.out (by omega)) (.slice none 0 0) (.int .i64 0) (.string ⟨#[]⟩) (.int .i64 0)) (.cells #[] 31))
    have FE := hik (((F3.out.set El.zr).chg KD.out (by omega)).keep ((Chg.refl nob _).alloc (.cells #[] 31)))
    clear y0 y1 y2 y3 v0 v1 v2 v3 g0 g1 f0 f1 KB KD
    generalize hE : (((((((W3.setCell ⟨w.heap.size + 1 + 1, 0, none⟩ (.int .i64 0)).setCell ⟨w.heap.size + 1 + 1, 1, none⟩ (.int .i64 0)).setCell ⟨w.heap.size + 1 + 1 + 1, 0, none⟩ (.slice none 0 0)).setCell ⟨w.heap.size + 1 + 1 + 1, 1, none⟩ (.int .i64 0)).setCell ⟨w.heap.size + 1 + 1 + 1, 2, none⟩ (.string ⟨#[]⟩)).setCell ⟨w.heap.size + 1 + 1 + 1, 3, none⟩ (.int .i64 0)).alloc (.cells #[] 31)) = W9 at CE ZE FE ⊢
    clear hE
    have u0 : (W9).cell? ⟨w.heap.size + 1 + 1 + 1, 0, none⟩ = some (.slice none 0 0) := ZE.out.cell (by omega)
    have u1 : (W9).cell? ⟨w.heap.size + 1 + 1 + 1, 1, none⟩ = some (.int .i64 0) := ZE.out.cell (by omega)
    have u2 : (W9).cell? ⟨w.heap.size + 1 + 1 + 1, 2, none⟩ = some (.string ⟨#[]⟩) := ZE.out.cell (by omega)
    have u3 : (W9).cell? ⟨w.heap.size + 1 + 1 + 1, 3, none⟩ = some (.int .i64 0) := ZE.out.cell (by omega)
    have r0 : W9.cell? ⟨w.heap.size + 1 + 1, 0, none⟩ = some (.int .i64 0) := FE.out.c0
    have r1 : W9.cell? ⟨w.heap.size + 1 + 1, 1, none⟩ = some (.int .i64 0) := FE.out.c1
    exact bodyPost_ret (v := .tuple #[.slice (some ⟨W3.heap.size, 0, none⟩) 0 0, .agg #[.int .i64 0, .int .i64 0], .agg #[.slice none 0 0, .int .i64 0, .string ⟨#[]⟩, .int .i64 0], .int .i64 1]) (by simp [results, Tryz.results21, go_sem, u0, u1, u2, u3, r0, r1]) rfl (VxAns.zero HC.out (by decide) rfl CE.out)
  rw [hb] at he
  subst he
  have HQ2 := hik (show q = if kdb K = true ∧ inW vars 0 6 = true then (if spb at' ct 6 = true then 6 else (if (m : Int) = vars then vcd fs gs len (K.toNat + 2) L (fun i => elF (f i) (g i)) ⟨elP x1 x2, at', st, ct⟩ 0 m else 18)) else 4 by rw [HQ.out]; unfold svc8; rw [if_pos ha, if_pos ⟨hx, hb⟩])
  clear HQ
  go_wp2_with fail
  refine (sKind_any K _).mono ?_
  rintro e W4 ⟨he, hw⟩
  have hw' := hw.symm
  clear hw
  subst hw'
  cases hk : kdb K
  · have HC := hik (show q = 4 by rw [HQ2.out, if_neg (by rw [hk]; simp)])
    rw [hk] at he
    subst he
    clear HQ2
    have y0 : (W3).cell? ⟨w.heap.size + 1 + 1 + 1, 0, none⟩ = some (.slice none 0 0) := Z3.out.cell (by omega)
    have y1 : (W3).cell? ⟨w.heap.size + 1 + 1 + 1, 1, none⟩ = some (.int .i64 0) := Z3.out.cell (by omega)
    have y2 : (W3).cell? ⟨w.heap.size + 1 + 1 + 1, 2, none⟩ = some (.string ⟨#[]⟩) := Z3.out.cell (by omega)
    have y3 : (W3).cell? ⟨w.heap.size + 1 + 1 + 1, 3, none⟩ = some (.int .i64 0) := Z3.out.cell (by omega)
    have v0 := Z3.out.frozen 0
    have v1 := Z3.out.frozen 1
    have v2 := Z3.out.frozen 2
    have v3 := Z3.out.frozen 3
    have g0 : W3.cell? ⟨w.heap.size + 1 + 1, 0, none⟩ = some (.int .i64 0) := F3.out.c0
    have g1 : W3.cell? ⟨w.heap.size + 1 + 1, 1, none⟩ = some (.int .i64 0) := F3.out.c1
    have f0 := F3.out.fz 0
    have f1 := F3.out.fz 1
    have zz : w.heap.size + 1 + 1 + 1 < W3.heap.size := Z3.out.lt
    have zz2 : w.heap.size + 1 + 1 < W3.heap.size := by omega
    have zz3 : w.heap.size + 1 < W3.heap.size := by omega
    have zz4 : w.heap.size < W3.heap.size := by omega
    go_wp2
    have KB := hik (chg2_at (Chg.refl (fun b => b = w.heap.size + 1 + 1) W3) (w.heap.size + 1 + 1) (fun _ => rfl) 0 1 (.int .i64 0) (.int .i64 0))
    have KD := hik (chg4_set (Chg.refl (fun b => b = w.heap.size + 1 + 1 + 1) ((W3.setCell ⟨w.heap.size + 1 + 1, 0, none⟩ (.int .i64 0)).setCell ⟨w.heap.size + 1 + 1, 1, none⟩ (.int .i64 0))) (w.heap.size + 1 + 1 + 1) (fun _ => rfl) (.slice none 0 0) (.int .i64 0) (.string ⟨#[]⟩) (.int .i64 0))
    have CE := hik ((chg4_set (chg2_at G3.out (w.heap.size + 1 + 1) (fun l => absurd l (by omega)) 0 1 (.int .i64 0) (.int .i64 0)) (w.heap.size + 1 + 1 + 1) (fun l => absurd l (by omega)) (.slice none 0 0) (.int .i64 0) (.string ⟨#[]⟩) (.int .i64 0)).alloc (.cells #[] 31))
    have ZE := hik (World.rowIs.alloc (row4_set (rowIs_chg Z3.out KB.out (by omega)) (.slice none 0 0) (.int .i64 0) (.string ⟨#[]⟩) (.int .i64 0)) (.cells #[] 31))
    have FE := hik (((F3.out.set El.zr).chg KD.out (by omega)).keep ((Chg.refl nob _).alloc (.cells #[] 31)))
    clear y0 y1 y2 y3 v0 v1 v2 v3 g0 g1 f0 f1 KB KD
    generalize hE : (((((((W3.setCell ⟨w.heap.size + 1 + 1, 0, none⟩ (.int .i64 0)).setCell ⟨w.heap.size + 1 + 1, 1, none⟩ (.int .i64 0)).setCell ⟨w.heap.size + 1 + 1 + 1, 0, none⟩ (.slice none 0 0)).setCell ⟨w.heap.size + 1 + 1 + 1, 1, none⟩ (.int .i64 0)).setCell ⟨w.heap.size + 1 + 1 + 1, 2, none⟩ (.string ⟨#[]⟩)).setCell ⟨w.heap.size + 1 + 1 + 1, 3, none⟩ (.int .i64 0)).alloc (.cells #[] 31)) = W9 at CE ZE FE ⊢
    clear hE
    have u0 : (W9).cell? ⟨w.heap.size + 1 + 1 + 1, 0, none⟩ = some (.slice none 0 0) := ZE.out.cell (by omega)
    have u1 : (W9).cell? ⟨w.heap.size + 1 + 1 + 1, 1, none⟩ = some (.int .i64 0) := ZE.out.cell (by omega)
    have u2 : (W9).cell? ⟨w.heap.size + 1 + 1 + 1, 2, none⟩ = some (.string ⟨#[]⟩) := ZE.out.cell (by omega)
    have u3 : (W9).cell? ⟨w.heap.size + 1 + 1 + 1, 3, none⟩ = some (.int .i64 0) := ZE.out.cell (by omega)
    have r0 : W9.cell? ⟨w.heap.size + 1 + 1, 0, none⟩ = some (.int .i64 0) := FE.out.c0
    have r1 : W9.cell? ⟨w.heap.size + 1 + 1, 1, none⟩ = some (.int .i64 0) := FE.out.c1
    exact bodyPost_ret (v := .tuple #[.slice (some ⟨W3.heap.size, 0, none⟩) 0 0, .agg #[.int .i64 0, .int .i64 0], .agg #[.slice none 0 0, .int .i64 0, .string ⟨#[]⟩, .int .i64 0], .int .i64 4]) (by simp [results, Tryz.results21, go_sem, u0, u1, u2, u3, r0, r1]) rfl (VxAns.zero HC.out (by decide) rfl CE.out)
  rw [hk] at he
  subst he
  go_wp2_with fail
  refine (l01In_any vars 0 6 _).mono ?_
  rintro e W4 ⟨he, hw⟩
  have hw' := hw.symm
  clear hw
  subst hw'
  cases hv : inW vars 0 6
  · have HC := hik (show q = 4 by rw [HQ2.out, if_neg (by rw [hv]; simp)])
    rw [hv] at he
    subst he
    clear HQ2
    have y0 : (W3).cell? ⟨w.heap.size + 1 + 1 + 1, 0, none⟩ = some (.slice none 0 0) := Z3.out.cell (by omega)
    have y1 : (W3).cell? ⟨w.heap.size + 1 + 1 + 1, 1, none⟩ = some (.int .i64 0) := Z3.out.cell (by omega)
    have y2 : (W3).cell? ⟨w.heap.size + 1 + 1 + 1, 2, none⟩ = some (.string ⟨#[]⟩) := Z3.out.cell (by omega)
    have y3 : (W3).cell? ⟨w.heap.size + 1 + 1 + 1, 3, none⟩ = some (.int .i64 0) := Z3.out.cell (by omega)
    have v0 := Z3.out.frozen 0
    have v1 := Z3.out.frozen 1
    have v2 := Z3.out.frozen 2
    have v3 := Z3.out.frozen 3
    have g0 : W3.cell? ⟨w.heap.size + 1 + 1, 0, none⟩ = some (.int .i64 0) := F3.out.c0
    have g1 : W3.cell? ⟨w.heap.size + 1 + 1, 1, none⟩ = some (.int .i64 0) := F3.out.c1
    have f0 := F3.out.fz 0
    have f1 := F3.out.fz 1
    have zz : w.heap.size + 1 + 1 + 1 < W3.heap.size := Z3.out.lt
    have zz2 : w.heap.size + 1 + 1 < W3.heap.size := by omega
    have zz3 : w.heap.size + 1 < W3.heap.size := by omega
    have zz4 : w.heap.size < W3.heap.size := by omega
    go_wp2
    have KB := hik (chg2_at (Chg.refl (fun b => b = w.heap.size + 1 + 1) W3) (w.heap.size + 1 + 1) (fun _ => rfl) 0 1 (.int .i64 0) (.int .i64 0))
    have KD := hik (chg4_set (Chg.refl (fun b => b = w.heap.size + 1 + 1 + 1) ((W3.setCell ⟨w.heap.size + 1 + 1, 0, none⟩ (.int .i64 0)).setCell ⟨w.heap.size + 1 + 1, 1, none⟩ (.int .i64 0))) (w.heap.size + 1 + 1 + 1) (fun _ => rfl) (.slice none 0 0) (.int .i64 0) (.string ⟨#[]⟩) (.int .i64 0))
    have CE := hik ((chg4_set (chg2_at G3.out (w.heap.size + 1 + 1) (fun l => absurd l (by omega)) 0 1 (.int .i64 0) (.int .i64 0)) (w.heap.size + 1 + 1 + 1) (fun l => absurd l (by omega)) (.slice none 0 0) (.int .i64 0) (.string ⟨#[]⟩) (.int .i64 0)).alloc (.cells #[] 31))
    have ZE := hik (World.rowIs.alloc (row4_set (rowIs_chg Z3.out KB.out (by omega)) (.slice none 0 0) (.int .i64 0) (.string ⟨#[]⟩) (.int .i64 0)) (.cells #[] 31))
    have FE := hik (((F3.out.set El.zr).chg KD.out (by omega)).keep ((Chg.refl nob _).alloc (.cells #[] 31)))
    clear y0 y1 y2 y3 v0 v1 v2 v3 g0 g1 f0 f1 KB KD
    generalize hE : (((((((W3.setCell ⟨w.heap.size + 1 + 1, 0, none⟩ (.int .i64 0)).setCell ⟨w.heap.size + 1 + 1, 1, none⟩ (.int .i64 0)).setCell ⟨w.heap.size + 1 + 1 + 1, 0, none⟩ (.slice none 0 0)).setCell ⟨w.heap.size + 1 + 1 + 1, 1, none⟩ (.int .i64 0)).setCell ⟨w.heap.size + 1 + 1 + 1, 2, none⟩ (.string ⟨#[]⟩)).setCell ⟨w.heap.size + 1 + 1 + 1, 3, none⟩ (.int .i64 0)).alloc (.cells #[] 31)) = W9 at CE ZE FE ⊢
    clear hE
    have u0 : (W9).cell? ⟨w.heap.size + 1 + 1 + 1, 0, none⟩ = some (.slice none 0 0) := ZE.out.cell (by omega)
    have u1 : (W9).cell? ⟨w.heap.size + 1 + 1 + 1, 1, none⟩ = some (.int .i64 0) := ZE.out.cell (by omega)
    have u2 : (W9).cell? ⟨w.heap.size + 1 + 1 + 1, 2, none⟩ = some (.string ⟨#[]⟩) := ZE.out.cell (by omega)
    have u3 : (W9).cell? ⟨w.heap.size + 1 + 1 + 1, 3, none⟩ = some (.int .i64 0) := ZE.out.cell (by omega)
    have r0 : W9.cell? ⟨w.heap.size + 1 + 1, 0, none⟩ = some (.int .i64 0) := FE.out.c0
    have r1 : W9.cell? ⟨w.heap.size + 1 + 1, 1, none⟩ = some (.int .i64 0) := FE.out.c1
    exact bodyPost_ret (v := .tuple #[.slice (some ⟨W3.heap.size, 0, none⟩) 0 0, .agg #[.int .i64 0, .int .i64 0], .agg #[.slice none 0 0, .int .i64 0, .string ⟨#[]⟩, .int .i64 0], .int .i64 4]) (by simp [results, Tryz.results21, go_sem, u0, u1, u2, u3, r0, r1]) rfl (VxAns.zero HC.out (by decide) rfl CE.out)
  rw [hv] at he
  subst he
  have e0 : W3.cell? ⟨w.heap.size, 0, none⟩ = some (.int .i64 x1) := E3.out.cell (by omega)
  have e1 : W3.cell? ⟨w.heap.size, 1, none⟩ = some (.int .i64 x2) := E3.out.cell (by omega)
  have x0 : W3.cell? ⟨w.heap.size + 1, 0, none⟩ = some (.slice cs len caps) := S3.out.cell (by omega)
  have x1' : W3.cell? ⟨w.heap.size + 1, 1, none⟩ = some (.int .i64 at') := S3.out.cell (by omega)
  have x2' : W3.cell? ⟨w.heap.size + 1, 2, none⟩ = some (.string st) := S3.out.cell (by omega)
  have x3 : W3.cell? ⟨w.heap.size + 1, 3, none⟩ = some (.int .i64 ct) := S3.out.cell (by omega)
  have zS : w.heap.size + 1 < W3.heap.size := S3.out.lt
  have zE : w.heap.size < W3.heap.size := by omega
  go_wp2_with fail
  refine (sSpent_any cs len caps at' st ct 6 _ (by omega)).mono ?_
  rintro e W4 ⟨he, k1⟩
  have E4 := hik (rowIs_keep E3.out k1)
  have S4 := hik (rowIs_keep S3.out k1)
  have F4 := hik (F3.out.keep k1)
  have Z4 := hik (rowIs_keep Z3.out k1)
  have G4 := hik (G3.out.trans k1)
  clear k1 E3 S3 F3 Z3 G3
  clear x0 x1' x2' x3 e0 e1 zS zE
  by_cases hd : spb at' ct 6 = true
  · have HC := hik (show q = 6 by rw [HQ2.out, if_pos ⟨hk, hv⟩, if_pos hd])
    rw [hd] at he
    subst he
    clear HQ2
    have y0 : (W4).cell? ⟨w.heap.size + 1 + 1 + 1, 0, none⟩ = some (.slice none 0 0) := Z4.out.cell (by omega)
    have y1 : (W4).cell? ⟨w.heap.size + 1 + 1 + 1, 1, none⟩ = some (.int .i64 0) := Z4.out.cell (by omega)
    have y2 : (W4).cell? ⟨w.heap.size + 1 + 1 + 1, 2, none⟩ = some (.string ⟨#[]⟩) := Z4.out.cell (by omega)
    have y3 : (W4).cell? ⟨w.heap.size + 1 + 1 + 1, 3, none⟩ = some (.int .i64 0) := Z4.out.cell (by omega)
    have v0 := Z4.out.frozen 0
    have v1 := Z4.out.frozen 1
    have v2 := Z4.out.frozen 2
    have v3 := Z4.out.frozen 3
    have g0 : W4.cell? ⟨w.heap.size + 1 + 1, 0, none⟩ = some (.int .i64 0) := F4.out.c0
    have g1 : W4.cell? ⟨w.heap.size + 1 + 1, 1, none⟩ = some (.int .i64 0) := F4.out.c1
    have f0 := F4.out.fz 0
    have f1 := F4.out.fz 1
    have zz : w.heap.size + 1 + 1 + 1 < W4.heap.size := Z4.out.lt
    have zz2 : w.heap.size + 1 + 1 < W4.heap.size := by omega
    have zz3 : w.heap.size + 1 < W4.heap.size := by omega
    have zz4 : w.heap.size < W4.heap.size := by omega
    go_wp2
    have KB := hik (chg2_at (Chg.refl (fun b => b = w.heap.size + 1 + 1) W4) (w.heap.size + 1 + 1) (fun _ => rfl) 0 1 (.int .i64 0) (.int .i64 0))
    have KD := hik (chg4_set (Chg.refl (fun b => b = w.heap.size + 1 + 1 + 1) ((W4.setCell ⟨w.heap.size + 1 + 1, 0, none⟩ (.int .i64 0)).setCell ⟨w.heap.size + 1 + 1, 1, none⟩ (.int .i64 0))) (w.heap.size + 1 + 1 + 1) (fun _ => rfl) (.slice none 0 0) (.int .i64 0) (.string ⟨#[]⟩) (.int .i64 0))
    have CE := hik ((chg4_set (chg2_at G4.out (w.heap.size + 1 + 1) (fun l => absurd l (by omega)) 0 1 (.int .i64 0) (.int .i64 0)) (w.heap.size + 1 + 1 + 1) (fun l => absurd l (by omega)) (.slice none 0 0) (.int .i64 0) (.string ⟨#[]⟩) (.int .i64 0)).alloc (.cells #[] 31))
    have ZE := hik (World.rowIs.alloc (row4_set (rowIs_chg Z4.out KB.out (by omega)) (.slice none 0 0) (.int .i64 0) (.string ⟨#[]⟩) (.int .i64 0)) (.cells #[] 31))
    have FE := hik (((F4.out.set El.zr).chg KD.out (by omega)).keep ((Chg.refl nob _).alloc (.cells #[] 31)))
    clear y0 y1 y2 y3 v0 v1 v2 v3 g0 g1 f0 f1 KB KD
    generalize hE : (((((((W4.setCell ⟨w.heap.size + 1 + 1, 0, none⟩ (.int .i64 0)).setCell ⟨w.heap.size + 1 + 1, 1, none⟩ (.int .i64 0)).setCell ⟨w.heap.size + 1 + 1 + 1, 0, none⟩ (.slice none 0 0)).setCell ⟨w.heap.size + 1 + 1 + 1, 1, none⟩ (.int .i64 0)).setCell ⟨w.heap.size + 1 + 1 + 1, 2, none⟩ (.string ⟨#[]⟩)).setCell ⟨w.heap.size + 1 + 1 + 1, 3, none⟩ (.int .i64 0)).alloc (.cells #[] 31)) = W9 at CE ZE FE ⊢
    clear hE
    have u0 : (W9).cell? ⟨w.heap.size + 1 + 1 + 1, 0, none⟩ = some (.slice none 0 0) := ZE.out.cell (by omega)
    have u1 : (W9).cell? ⟨w.heap.size + 1 + 1 + 1, 1, none⟩ = some (.int .i64 0) := ZE.out.cell (by omega)
    have u2 : (W9).cell? ⟨w.heap.size + 1 + 1 + 1, 2, none⟩ = some (.string ⟨#[]⟩) := ZE.out.cell (by omega)
    have u3 : (W9).cell? ⟨w.heap.size + 1 + 1 + 1, 3, none⟩ = some (.int .i64 0) := ZE.out.cell (by omega)
    have r0 : W9.cell? ⟨w.heap.size + 1 + 1, 0, none⟩ = some (.int .i64 0) := FE.out.c0
    have r1 : W9.cell? ⟨w.heap.size + 1 + 1, 1, none⟩ = some (.int .i64 0) := FE.out.c1
    exact bodyPost_ret (v := .tuple #[.slice (some ⟨W4.heap.size, 0, none⟩) 0 0, .agg #[.int .i64 0, .int .i64 0], .agg #[.slice none 0 0, .int .i64 0, .string ⟨#[]⟩, .int .i64 0], .int .i64 6]) (by simp [results, Tryz.results21, go_sem, u0, u1, u2, u3, r0, r1]) rfl (VxAns.zero HC.out (by decide) rfl CE.out)
  have HQ3 := hik (show q = if (m : Int) = vars then vcd fs gs len (K.toNat + 2) L (fun i => elF (f i) (g i)) ⟨elP x1 x2, at', st, ct⟩ 0 m else 18 by rw [HQ2.out, if_pos ⟨hk, hv⟩, if_neg hd])
  clear HQ2
  replace hd : spb at' ct 6 = false := by simpa using hd
  rw [hd] at he
  subst he
  obtain ⟨k, hKk, hk12⟩ := kdb_nat hk
  subst hKk
  obtain ⟨x, ex1, ex2, exe⟩ : ∃ x : El, x1 = x.v.1 ∧ x2 = x.v.2 ∧ elP x1 x2 = x := ⟨elP x1 x2, by rw [elP_v hx], by rw [elP_v hx], rfl⟩
  obtain ⟨b1, b2, ⟨b3, b4⟩, b5, b6, b7⟩ := sokb_parts hb
  have b8 := (spb_no hd).1
  have b9 : vars ≤ 6 := by unfold inW at hv; have := of_decide_eq_true hv; omega
  obtain ⟨_, hrk⟩ := rkc_ok ha
  have HR := hik (RowsL.of h.out (fun i hi => (hrk i hi).2))
  have HL8 := hik (fun i hi => (hrk i hi).1)
  have QV := hik (fun (w : World) (h : Hid (RowsL w c m L (fun i => elF (f i) (g i)))) (hs : Hid (PairV w cs len fs gs)) => sVer_any hk12 c m cap vars b9 L (fun i => elF (f i) (g i)) x cs len caps fs gs at' st ct w h HL8 hs b1 b2 b5 b3 b8)
  rw [exe, Int.toNat_natCast] at HQ3
  rw [← HQ3.out] at QV
  obtain ⟨Rr, hRr⟩ : ∃ y, y = vpt fs gs len (k + 2) (fun i => elF (f i) (g i)) ⟨x, at', st, ct⟩ := ⟨_, rfl⟩
  obtain ⟨Vs, hVs⟩ : ∃ y, y = vst fs gs len (k + 2) (fun i => elF (f i) (g i)) ⟨x, at', st, ct⟩ m := ⟨_, rfl⟩
  have EQ := hik (show Rr = vpt fs gs len (k + 2) (fun i => elF (f i) (g i)) ⟨x, at', st, ct⟩ ∧ Vs = vst fs gs len (k + 2) (fun i => elF (f i) (g i)) ⟨x, at', st, ct⟩ m ∧ elP x1 x2 = x from ⟨hRr, hVs, exe⟩)
  rw [← hRr, ← hVs] at QV
  have HLEN := hik b1
  clear HQ3 hRr hVs exe hk12 hrk b1 b2 b3 b4 b5 b6 b7 b8 b9 ha hb hx hk hv hd
  subst ex1 ex2
  have e0 : W4.cell? ⟨w.heap.size, 0, none⟩ = some (.int .i64 x.v.1) := E4.out.cell (by omega)
  have e1 : W4.cell? ⟨w.heap.size, 1, none⟩ = some (.int .i64 x.v.2) := E4.out.cell (by omega)
  have x0 : W4.cell? ⟨w.heap.size + 1, 0, none⟩ = some (.slice cs len caps) := S4.out.cell (by omega)
  have x1' : W4.cell? ⟨w.heap.size + 1, 1, none⟩ = some (.int .i64 at') := S4.out.cell (by omega)
  have x2' : W4.cell? ⟨w.heap.size + 1, 2, none⟩ = some (.string st) := S4.out.cell (by omega)
  have x3 : W4.cell? ⟨w.heap.size + 1, 3, none⟩ = some (.int .i64 ct) := S4.out.cell (by omega)
  have zS : w.heap.size + 1 < W4.heap.size := S4.out.lt
  have zE : w.heap.size < W4.heap.size := by omega
  go_wp2_with fail
  refine (QV.out _ (hik (RowsL.keep HR.out G4.out)) (hik (hs.out.keep G4.out))).mono ?_
  rintro e W5 ⟨cP, n', capP, x', a', s', c', rfl, hz, k5⟩
  have HZ := hik hz
  have hz4 := hik (show w.heap.size + 1 + 1 + 1 < W4.heap.size ∧ W4.heap.size ≤ W5.heap.size from ⟨Z4.out.lt, k5.size⟩)
  have KA := hik (((Chg.refl nob W5).alloc (.cells #[.int .i64 x'.v.1, .int .i64 x'.v.2] 31)).alloc (.cells #[.slice cs len caps, .int .i64 a', .string s', .int .i64 c'] 28))
  have F6 := hik ((F4.out.keep k5).keep KA.out)
  have Z6 := hik (rowIs_keep (rowIs_keep Z4.out k5) KA.out)
  have G6 := hik ((G4.out.trans k5).trans KA.out)
  have X6 := hik ((ElB.new W5 x').keep ((Chg.refl nob _).alloc (.cells #[.slice cs len caps, .int .i64 a', .string s', .int .i64 c'] 28)))
  have T6 : Hid (((W5.alloc (.cells #[.int .i64 x'.v.1, .int .i64 x'.v.2] 31)).alloc (.cells #[.slice cs len caps, .int .i64 a', .string s', .int .i64 c'] 28)).rowIs (W5.heap.size + 1) 28 4 (pv4 (.slice cs len caps) (.int .i64 a') (.string s') (.int .i64 c'))) := hik (by simpa using row4_new (W5.alloc (.cells #[.int .i64 x'.v.1, .int .i64 x'.v.2] 31)) (.slice cs len caps) (.int .i64 a') (.string s') (.int .i64 c') 28)
  have P6 := hik (show q = 0 → OwnE ((W5.alloc (.cells #[.int .i64 x'.v.1, .int .i64 x'.v.2] 31)).alloc (.cells #[.slice cs len caps, .int .i64 a', .string s', .int .i64 c'] 28)) W4.heap.size cP m (cA Rr) (cB Rr) from fun h0 => (hz h0).2.1.keep KA.out)
  clear hz k5 KA E4 S4 F4 Z4 G4 x0 x1' x2' x3 e0 e1 zS zE
  go_upto_region 13 with fail
  generalize hE : (W5.alloc (.cells #[.int .i64 x'.v.1, .int .i64 x'.v.2] 31)).alloc (.cells #[.slice cs len caps, .int .i64 a', .string s', .int .i64 c'] 28) = W6 at F6 Z6 G6 X6 T6 P6 ⊢
  clear hE
  by_cases ha : ¬ q = 0
  · have HC := hik (show q = q from rfl)
    have hqb : (q == 0) = false := by simpa using ha
    have y0 : (W6).cell? ⟨w.heap.size + 1 + 1 + 1, 0, none⟩ = some (.slice none 0 0) := Z6.out.cell (by omega)
    have y1 : (W6).cell? ⟨w.heap.size + 1 + 1 + 1, 1, none⟩ = some (.int .i64 0) := Z6.out.cell (by omega)
    have y2 : (W6).cell? ⟨w.heap.size + 1 + 1 + 1, 2, none⟩ = some (.string ⟨#[]⟩) := Z6.out.cell (by omega)
    have y3 : (W6).cell? ⟨w.heap.size + 1 + 1 + 1, 3, none⟩ = some (.int .i64 0) := Z6.out.cell (by omega)
    have v0 := Z6.out.frozen 0
    have v1 := Z6.out.frozen 1
    have v2 := Z6.out.frozen 2
    have v3 := Z6.out.frozen 3
    have g0 : W6.cell? ⟨w.heap.size + 1 + 1, 0, none⟩ = some (.int .i64 0) := F6.out.c0
    have g1 : W6.cell? ⟨w.heap.size + 1 + 1, 1, none⟩ = some (.int .i64 0) := F6.out.c1
    have f0 := F6.out.fz 0
    have f1 := F6.out.fz 1
    have zz : w.heap.size + 1 + 1 + 1 < W6.heap.size := Z6.out.lt
    have zz2 : w.heap.size + 1 + 1 < W6.heap.size := by omega
    have zz3 : w.heap.size + 1 < W6.heap.size := by omega
    have zz4 : w.heap.size < W6.heap.size := by omega
    go_wp2
    have KB := hik (chg2_at (Chg.refl (fun b => b = w.heap.size + 1 + 1) W6) (w.heap.size + 1 + 1) (fun _ => rfl) 0 1 (.int .i64 0) (.int .i64 0))
    have KD := hik (chg4_set (Chg.refl (fun b => b = w.heap.size + 1 + 1 + 1) ((W6.setCell ⟨w.heap.size + 1 + 1, 0, none⟩ (.int .i64 0)).setCell ⟨w.heap.size + 1 + 1, 1, none⟩ (.int .i64 0))) (w.heap.size + 1 + 1 + 1) (fun _ => rfl) (.slice none 0 0) (.int .i64 0) (.string ⟨#[]⟩) (.int .i64 0))
    have CE := hik ((chg4_set (chg2_at G6.out (w.heap.size + 1 + 1) (fun l => absurd l (by omega)) 0 1 (.int .i64 0) (.int .i64 0)) (w.heap.size + 1 + 1 + 1) (fun l => absurd l (by omega)) (.slice none 0 0) (.int .i64 0) (.string ⟨#[]⟩) (.int .i64 0)).alloc (.cells #[] 31))
    have ZE := hik (World.rowIs.alloc (row4_set (rowIs_chg Z6.out KB.out (by omega)) (.slice none 0 0) (.int .i64 0) (.string ⟨#[]⟩) (.int .i64 0)) (.cells #[] 31))
    have FE := hik (((F6.out.set El.zr).chg KD.out (by omega)).keep ((Chg.refl nob _).alloc (.cells #[] 31)))
    clear y0 y1 y2 y3 v0 v1 v2 v3 g0 g1 f0 f1 KB KD
    generalize hE : (((((((W6.setCell ⟨w.heap.size + 1 + 1, 0, none⟩ (.int .i64 0)).setCell ⟨w.heap.size + 1 + 1, 1, none⟩ (.int .i64 0)).setCell ⟨w.heap.size + 1 + 1 + 1, 0, none⟩ (.slice none 0 0)).setCell ⟨w.heap.size + 1 + 1 + 1, 1, none⟩ (.int .i64 0)).setCell ⟨w.heap.size + 1 + 1 + 1, 2, none⟩ (.string ⟨#[]⟩)).setCell ⟨w.heap.size + 1 + 1 + 1, 3, none⟩ (.int .i64 0)).alloc (.cells #[] 31)) = W9 at CE ZE FE ⊢
    clear hE
    have u0 : (W9).cell? ⟨w.heap.size + 1 + 1 + 1, 0, none⟩ = some (.slice none 0 0) := ZE.out.cell (by omega)
    have u1 : (W9).cell? ⟨w.heap.size + 1 + 1 + 1, 1, none⟩ = some (.int .i64 0) := ZE.out.cell (by omega)
    have u2 : (W9).cell? ⟨w.heap.size + 1 + 1 + 1, 2, none⟩ = some (.string ⟨#[]⟩) := ZE.out.cell (by omega)
    have u3 : (W9).cell? ⟨w.heap.size + 1 + 1 + 1, 3, none⟩ = some (.int .i64 0) := ZE.out.cell (by omega)
    have r0 : W9.cell? ⟨w.heap.size + 1 + 1, 0, none⟩ = some (.int .i64 0) := FE.out.c0
    have r1 : W9.cell? ⟨w.heap.size + 1 + 1, 1, none⟩ = some (.int .i64 0) := FE.out.c1
    exact bodyPost_ret (v := .tuple #[.slice (some ⟨W6.heap.size, 0, none⟩) 0 0, .agg #[.int .i64 0, .int .i64 0], .agg #[.slice none 0 0, .int .i64 0, .string ⟨#[]⟩, .int .i64 0], .int .i64 q]) (by simp [results, Tryz.results21, go_sem, u0, u1, u2, u3, r0, r1]) rfl (VxAns.zero rfl (ha) rfl CE.out)
  replace ha : q = 0 := Classical.byContradiction ha
  have HC := hik ha
  have P7 := hik (P6.out ha)
  obtain ⟨rfl, _, rfl, rfl, rfl, rfl⟩ := HZ.out ha
  clear P6 HZ QV
  subst ha
  go_upto_region 15 with fail
  generalize hEx : W5.heap.size = xb at X6 T6 hz4 ⊢
  clear hEx
  have x0 := X6.out.c0
  have x1 := X6.out.c1
  have t0 : W6.cell? ⟨xb + 1, 0, none⟩ = some (.slice cs len caps) := T6.out.cell (by omega)
  have t1 : W6.cell? ⟨xb + 1, 1, none⟩ = some (.int .i64 Vs.a) := T6.out.cell (by omega)
  have t2 : W6.cell? ⟨xb + 1, 2, none⟩ = some (.string Vs.s) := T6.out.cell (by omega)
  have t3 : W6.cell? ⟨xb + 1, 3, none⟩ = some (.int .i64 Vs.c) := T6.out.cell (by omega)
  have hz5 := hik (show w.heap.size + 1 + 1 + 1 < xb by have := hz4.out; omega)
  have hz6 : w.heap.size + 1 + 1 + 1 < xb := hz5.out
  have KN := hik ((Chg.refl nob W6).drew1)
  have KW := hik ((Chg.refl (fun b => b = w.heap.size + 1 + 1) W6).drew1)
  have SA := hik (fun (WW : World) (kW : Chg (fun b => b = w.heap.size + 1 + 1) W6 WW) => (show (WW.cell? ⟨xb, 0, none⟩ = some (.int .i64 Vs.x.v.1) ∧ WW.cell? ⟨xb, 1, none⟩ = some (.int .i64 Vs.x.v.2) ∧ WW.cell? ⟨xb + 1, 0, none⟩ = some (.slice cs len caps) ∧ WW.cell? ⟨xb + 1, 1, none⟩ = some (.int .i64 Vs.a) ∧ WW.cell? ⟨xb + 1, 2, none⟩ = some (.string Vs.s) ∧ WW.cell? ⟨xb + 1, 3, none⟩ = some (.int .i64 Vs.c)) from ⟨kW.seeP x0 (by omega), kW.seeP x1 (by omega), kW.seeP t0 (by omega), kW.seeP t1 (by omega), kW.seeP t2 (by omega), kW.seeP t3 (by omega)⟩))
  refine wp_regionL (L := 6) (S := fun w' => w'.cell? ⟨xb, 0, none⟩ = some (.int .i64 Vs.x.v.1) ∧ w'.cell? ⟨xb, 1, none⟩ = some (.int .i64 Vs.x.v.2) ∧ w'.cell? ⟨xb + 1, 0, none⟩ = some (.slice cs len caps) ∧ w'.cell? ⟨xb + 1, 1, none⟩ = some (.int .i64 Vs.a) ∧ w'.cell? ⟨xb + 1, 2, none⟩ = some (.string Vs.s) ∧ w'.cell? ⟨xb + 1, 3, none⟩ = some (.int .i64 Vs.c)) (by kernel_rfl) (SA.out _ KW.out) (fun hHeld => ?_)
  refine wpAnyL_take (i := 0) (v := ?_) rfl (by kernel_rfl) (by kernel_rfl) (by kernel_rfl) (fun _ _ _ h => h) (by rfl) (by kernel_rfl) (by kernel_rfl) (Or.inl ⟨by rfl, ?_⟩) (by assumption) ?_
  rotate_left 1
  · (intro w' hSw; (try dsimp only at hSw); go_simp; try with_reducible rfl)
  try simp only [Act.put, List.setIfInBounds_toArray, List.set_cons_zero, List.set_cons_succ, List.getElem_toArray, List.getElem_cons_zero, List.getElem_cons_succ]
  refine wpAnyL_take (i := 1) (v := ?_) rfl (by kernel_rfl) (by kernel_rfl) (by kernel_rfl) (fun _ _ _ h => h) (by rfl) (by kernel_rfl) (by kernel_rfl) (Or.inl ⟨by rfl, ?_⟩) (by assumption) ?_
  rotate_left 1
  · (intro w' hSw; (try dsimp only at hSw); go_simp; try with_reducible rfl)
  try simp only [Act.put, List.setIfInBounds_toArray, List.set_cons_zero, List.set_cons_succ, List.getElem_toArray, List.getElem_cons_zero, List.getElem_cons_succ]
  refine wpAnyL_take (i := 2) (v := ?_) rfl (by kernel_rfl) (by kernel_rfl) (by kernel_rfl) (fun _ _ _ h => h) (by rfl) (by kernel_rfl) (by kernel_rfl) (Or.inl ⟨by rfl, ?_⟩) (by assumption) ?_
  rotate_left 1
  · (intro w' hSw; (try dsimp only at hSw); go_simp; try with_reducible rfl)
  try simp only [Act.put, List.setIfInBounds_toArray, List.set_cons_zero, List.set_cons_succ, List.getElem_toArray, List.getElem_cons_zero, List.getElem_cons_succ]
  refine wpAnyL_ready (rs := [3]) (by kernel_rfl) (by simp) ?_
  refine AllReadyL.cons rfl (fun K hK => ?_) AllReadyL.nil
  refine stepL_callN 38 #[.tmp 81] #[28] (by rfl) (by rfl) #[.agg #[.slice cs len caps, .int .i64 Vs.a, .string Vs.s, .int .i64 Vs.c]] (by simp only [List.map_toArray, List.map_cons, List.map_nil] <;> rfl) (run_go Tryz.func38 (by kernel_rfl) (by kernel_rfl) _ _) (sOwn_any cs len caps fs gs Vs.a Vs.s Vs.c _ (hik (hs.out.keep (G6.out.trans KN.out))) (by have := HLEN.out; omega)) ?_
  rintro e U1 ⟨cS, capS, he, oS, kk⟩
  have OS := hik oS
  replace KN := hik (KN.out.trans kk)
  replace kk := kk.wide (P := (fun b => b = w.heap.size + 1 + 1))
  clear oS
  refine ⟨_, he, ?_⟩
  replace KW := hik (KW.out.trans kk)
  refine hK.out _ _ (SA.out _ KW.out) (fun hHeld => ?_)
  clear hK K
  try simp only [Act.put, List.setIfInBounds_toArray, List.set_cons_zero, List.set_cons_succ, List.getElem_toArray, List.getElem_cons_zero, List.getElem_cons_succ]
  clear he kk
  refine wpAnyL_take (i := 4) (v := ?_) rfl (by kernel_rfl) (by kernel_rfl) (by kernel_rfl) (fun _ _ _ h => h) (by rfl) (by kernel_rfl) (by kernel_rfl) (Or.inl ⟨by rfl, ?_⟩) (by assumption) ?_
  rotate_left 1
  · (intro w' hSw; (try dsimp only at hSw); go_simp; try with_reducible rfl)
  try simp only [Act.put, List.setIfInBounds_toArray, List.set_cons_zero, List.set_cons_succ, List.getElem_toArray, List.getElem_cons_zero, List.getElem_cons_succ]
  refine wpAnyL_ready (rs := [5]) (by kernel_rfl) (by simp) ?_
  refine AllReadyL.cons rfl (fun K hK => ?_) AllReadyL.nil
  have F7 := hik (F6.out.keep KN.out)
  have Z7 := hik (rowIs_keep Z6.out KN.out)
  have G7 := hik (G6.out.trans KN.out)
  have P8 := hik (P7.out.keep KN.out)
  have hz7 := hik (show w.heap.size + 1 + 1 + 1 < W6.heap.size ∧ W6.heap.size ≤ U1.heap.size from ⟨Z6.out.lt, KN.out.size⟩)
  have g0 : U1.cell? ⟨w.heap.size + 1 + 1, 0, none⟩ = some (.int .i64 0) := F7.out.c0
  have g1 : U1.cell? ⟨w.heap.size + 1 + 1, 1, none⟩ = some (.int .i64 0) := F7.out.c1
  have f0 := F7.out.fz 0
  have f1 := F7.out.fz 1
  have ln : w.heap.size + 1 + 1 < U1.heap.size := F7.out.lt
  simp only [List.getElem_toArray, List.getElem_cons_zero, List.getElem_cons_succ]
  go_simp
  replace KW := hik (chg2_at KW.out (w.heap.size + 1 + 1) (fun _ => rfl) 0 1 (.int .i64 Vs.x.v.1) (.int .i64 Vs.x.v.2))
  have C7 := hik (chg2_at (Chg.refl (fun b => b = w.heap.size + 1 + 1) U1) (w.heap.size + 1 + 1) (fun _ => rfl) 0 1 (.int .i64 Vs.x.v.1) (.int .i64 Vs.x.v.2))
  have F8 := hik (F7.out.set Vs.x)
  have Z8 := hik (rowIs_chg Z7.out C7.out (by omega))
  have O8 := hik (OS.out.chg C7.out (fun b hb _ e => by have := hz7.out; have hb' : W6.heap.size ≤ b := hb; omega))
  replace P8 := hik (P8.out.chg C7.out (fun b hb _ e => by have := hz4.out; omega))
  have G8 := hik (chg2_at G7.out (w.heap.size + 1 + 1) (fun l => absurd l (by omega)) 0 1 (.int .i64 Vs.x.v.1) (.int .i64 Vs.x.v.2))
  clear g0 g1 f0 f1 ln
  refine hK.out _ _ (SA.out _ KW.out) (fun hHeld => ?_)
  clear hK K
  try simp only [Act.put, List.setIfInBounds_toArray, List.set_cons_zero, List.set_cons_succ, List.getElem_toArray, List.getElem_cons_zero, List.getElem_cons_succ]
  clear hHeld F7 Z7 G7 C7 KN OS
  generalize hE : ((U1.setCell ⟨w.heap.size + 1 + 1, 0, none⟩ (.int .i64 Vs.x.v.1)).setCell ⟨w.heap.size + 1 + 1, 1, none⟩ (.int .i64 Vs.x.v.2)) = W7 at KW F8 Z8 G8 O8 P8 ⊢
  clear hE
  refine wpAnyL_ready (rs := [6]) (by kernel_rfl) (by simp) ?_
  refine AllReadyL.last rfl (by kernel_rfl) (fun K hK => ?_)
  have g0 : W7.cell? ⟨w.heap.size + 1 + 1 + 1, 0, none⟩ = some (.slice none 0 0) := Z8.out.cell (by omega)
  have f0 := Z8.out.frozen 0
  have g1 : W7.cell? ⟨w.heap.size + 1 + 1 + 1, 1, none⟩ = some (.int .i64 0) := Z8.out.cell (by omega)
  have f1 := Z8.out.frozen 1
  have g2 : W7.cell? ⟨w.heap.size + 1 + 1 + 1, 2, none⟩ = some (.string ⟨#[]⟩) := Z8.out.cell (by omega)
  have f2 := Z8.out.frozen 2
  have g3 : W7.cell? ⟨w.heap.size + 1 + 1 + 1, 3, none⟩ = some (.int .i64 0) := Z8.out.cell (by omega)
  have f3 := Z8.out.frozen 3
  have ln : w.heap.size + 1 + 1 + 1 < W7.heap.size := Z8.out.lt
  simp only [List.getElem_toArray, List.getElem_cons_zero, List.getElem_cons_succ]
  go_simp
  refine hK.out _ _ ?_
  clear hK K
  try simp only [Act.put, List.setIfInBounds_toArray, List.set_cons_zero, List.set_cons_succ, List.getElem_toArray, List.getElem_cons_zero, List.getElem_cons_succ]
  clear g0 g1 g2 g3 f0 f1 f2 f3 ln
  refine wpAnyL_take1 (i := 7) (v := ?_) rfl (by kernel_rfl) (by kernel_rfl) (by kernel_rfl) (fun _ _ _ h => h) (by rfl) (by rfl) (Or.inl ⟨by rfl, ?_⟩) ?_
  rotate_left 1
  · (intro w' hSw; (try dsimp only at hSw); go_simp; try with_reducible rfl)
  try simp only [Act.put, List.setIfInBounds_toArray, List.set_cons_zero, List.set_cons_succ, List.getElem_toArray, List.getElem_cons_zero, List.getElem_cons_succ]
  refine wpAnyL_done (by kernel_rfl) ?_ _
  have C9 := hik (chg4_set (Chg.refl (fun b => b = w.heap.size + 1 + 1 + 1) W7) (w.heap.size + 1 + 1 + 1) (fun _ => rfl) (.slice cS len capS) (.int .i64 Vs.a) (.string Vs.s) (.int .i64 Vs.c))
  have O9 := hik ((O8.out.chg C9.out (fun b hb _ e => by have := hz7.out; have hb' : W6.heap.size ≤ b := hb; omega)).low (B' := w.heap.size) (by show w.heap.size ≤ W6.heap.size; have := hz7.out; omega))
  have P9 := hik ((P8.out.chg C9.out (fun b hb _ e => by have := hz4.out; omega)).low (B' := w.heap.size) (by have := hz4.out; omega))
  have G9 := hik (chg4_set G8.out (w.heap.size + 1 + 1 + 1) (fun l => absurd l (by omega)) (.slice cS len capS) (.int .i64 Vs.a) (.string Vs.s) (.int .i64 Vs.c))
  have u0 := F8.out.c0
  have u1 := F8.out.c1
  go_wp2
  exact bodyPost_ret (v := .tuple #[.slice cP n' capP, .agg #[.int .i64 Vs.x.v.1, .int .i64 Vs.x.v.2], .agg #[.slice cS len capS, .int .i64 Vs.a, .string Vs.s, .int .i64 Vs.c], .int .i64 0]) (by simp [results, Tryz.results21, go_sem, u0, u1, row4_s0 Z8.out (.slice cS len capS), row4_s1 Z8.out (.slice cS len capS) (.int .i64 Vs.a), row4_s2 Z8.out (.slice cS len capS) (.int .i64 Vs.a) (.string Vs.s), row4_s3 Z8.out (.slice cS len capS) (.int .i64 Vs.a) (.string Vs.s) (.int .i64 Vs.c)]) rfl (by
    (try rw [Int.toNat_natCast])
    rw [EQ.out.2.2, ← EQ.out.1, ← EQ.out.2.1]
    exact VxAns.full rfl rfl P9.out O9.out G9.out)

end Go.Proofs.YtgiefpipflcbgadGreatDoor
