/- Several texts in one: A proof that is read, the program's reader: a contract. Conditions: bytes that can be read, numbers from 0 to 255. · The model's sums of rows: contracts. -/
import Derived.Test.YtppiilbcnkphbaaGreatBzaq
import Derived.Test.YtppiilbcnkphbaaGreatBzav
import Derived.Test.YtppiilbcnkphbaaGreatBzbf
import Derived.IntWalk
import Derived.Deep.DeepCutAuto
import Derived.Test.YtppiilbcnkphbaaGreatBzal
import Derived.Test.YtppiilbcnkphbaaGreatBzbr
namespace Go.Proofs.YtppiilbcnkphbaaGreat
open Go.ChangeShapes Go.WideShapes Go.ChangeAt Go.RowKit
set_option linter.unusedVariables false
set_option maxRecDepth 100000
set_option linter.unusedSimpArgs false

/-- A proof that was read, and whether it has its parts. -/
def PdAns (w : World) (p : PD) (b : Bool) (gr : Nat) (e : Ending) (w' : World) : Prop :=
  ∃ a : PA, e = .returned (.tuple #[.agg (rowA 17 (pfv p a)), .bool b]) ∧ PrO w' w.heap.size w'.heap.size p a ∧ Chg (RG gr) w w'
theorem proofOK_row (p : PD) (a : PA) (s : Sy) (y : SyA) (r n g : Int) (w : World) (h : Hid (PrV w p a)) (hs : Hid p.small) (hv : Hid (SyV w s y)) (hsy : s.small) :
    Calls Tryz.prog 50 #[.agg (rowA 17 (pfv p a)), .agg #[.int .i64 s.r, .int .i64 s.q, .int .i64 s.p, .slice y.cA s.nA y.pA, .slice y.cB s.nB y.pB, .slice y.cC s.nC y.pC], .agg #[.int .i64 r, .int .i64 n, .int .i64 g]] w fun e w' => e = .returned (.bool (pfb p s r n g)) ∧ Chg nob w w' := proofOK_any p a s y r n g w h hs hv hsy
theorem PrO.lay {w : World} {l1 u1 l2 u2 l3 u3 lo hi : Nat} {p : PD} {a : PA} (h1 : lo + 1 + 1 + 1 ≤ l1) (o1 : p.G.Own w l1 u1 (.slice a.cG p.ng a.pG)) (h2 : u1 ≤ l2) (o2 : p.W.Own w l2 u2 (.slice a.cW p.nw a.pW)) (h3 : u2 ≤ l3) (o3 : OpW w l3 u3 p.op a.cR a.pR a.cT a.pT a.cQ a.pQ) (b3 : u3 ≤ hi) (i1 : l1 ≤ u1) (i2 : l2 ≤ u2) (i3 : l3 ≤ u3) : PrO w lo hi p a :=
  PrO.mk9 (t := u3) h1 o1 h2 o2 h3 o3 (by omega) (by omega) (Nat.le_refl _) b3 (by omega) (by omega) (by omega)
set_option maxHeartbeats 16000000 in
theorem rdProof_any (gr n cap k R C r q : Nat) (g : Int) (z : Nat → Int) (s : Sy) (y : SyA) (w : World) (h : Hid (RdS w 65 gr n cap k z)) (hz : Hid (∀ j, 0 ≤ z j ∧ z j < 256)) (HVW : Hid (∀ W, Chg (RG gr) w W → SyV W s y)) (hsy : s.small) (hR : s.r = (R : Int)) (hC : s.q = (C : Int)) (R0 : 1 ≤ R) (R1 : R ≤ 5) (C0 : 2 ≤ C) (C1 : C ≤ 5) (r0 : 1 ≤ r) (r1 : r ≤ 3) (q0 : 1 ≤ q) (q1 : q ≤ 8) (hk : k + prN R C r q ≤ n) (hc : n ≤ cap) (hc' : (cap : Int) ≤ 9223372036854775807) :
    Calls Tryz.prog 23 #[.pointer (some ⟨gr, 0, none⟩), .agg #[.int .i64 s.r, .int .i64 s.q, .int .i64 s.p, .slice y.cA s.nA y.pA, .slice y.cB s.nB y.pB, .slice y.cC s.nC y.pC], .agg #[.int .i64 (r : Int), .int .i64 (q : Int), .int .i64 g]] w fun e w' => PdAns w (rdP z R C r q k) (pfb (rdP z R C r q k) s r q g) gr e w' := by
  have hgr := h.out.lt
  have HR := hik hR
  have HC := hik hC
  have HK := hik (And.intro (show k + (32 + 32 * R + 24 + 24 * C + 8 + osN (C - 1) r q) ≤ n from hk) hc)
  have HC' := hik hc'
  have HSM := hik (rdP_small z R C r q k R1 C1 r1 q1)
  clear hk hc hc' hR hC
  have K0 := hik ((((Chg.refl (RG gr) w).alloc (.cells #[.int .i64 s.r, .int .i64 s.q, .int .i64 s.p, .slice y.cA s.nA y.pA, .slice y.cB s.nB y.pB, .slice y.cC s.nC y.pC] 43)).alloc (.cells #[.int .i64 (r : Int), .int .i64 (q : Int), .int .i64 g] 45)).alloc (.cells #[.string ⟨#[]⟩, .slice none 0 0, .int .i64 0, .int .i64 0, .int .i64 0, .int .i64 0, .int .i64 0, .int .i64 0, .slice none 0 0, .int .i64 0, .int .i64 0, .slice none 0 0, .slice none 0 0, .int .i64 0, .int .i64 0, .int .i64 0, .slice none 0 0] 37))
  have RS := hik (rowIs_keep (rowN_new w 6 #[.int .i64 s.r, .int .i64 s.q, .int .i64 s.p, .slice y.cA s.nA y.pA, .slice y.cB s.nB y.pB, .slice y.cC s.nC y.pC] 43 rfl) (((Chg.refl nob _).alloc (.cells #[.int .i64 (r : Int), .int .i64 (q : Int), .int .i64 g] 45)).alloc (.cells #[.string ⟨#[]⟩, .slice none 0 0, .int .i64 0, .int .i64 0, .int .i64 0, .int .i64 0, .int .i64 0, .int .i64 0, .slice none 0 0, .int .i64 0, .int .i64 0, .slice none 0 0, .slice none 0 0, .int .i64 0, .int .i64 0, .int .i64 0, .slice none 0 0] 37)))
  have RT := hik (rowIs_keep (rowN_new (w.alloc (.cells #[.int .i64 s.r, .int .i64 s.q, .int .i64 s.p, .slice y.cA s.nA y.pA, .slice y.cB s.nB y.pB, .slice y.cC s.nC y.pC] 43)) 3 #[.int .i64 (r : Int), .int .i64 (q : Int), .int .i64 g] 45 rfl) ((Chg.refl nob _).alloc (.cells #[.string ⟨#[]⟩, .slice none 0 0, .int .i64 0, .int .i64 0, .int .i64 0, .int .i64 0, .int .i64 0, .int .i64 0, .slice none 0 0, .int .i64 0, .int .i64 0, .slice none 0 0, .slice none 0 0, .int .i64 0, .int .i64 0, .int .i64 0, .slice none 0 0] 37)))
  have RP := hik (rowN_new ((w.alloc (.cells #[.int .i64 s.r, .int .i64 s.q, .int .i64 s.p, .slice y.cA s.nA y.pA, .slice y.cB s.nB y.pB, .slice y.cC s.nC y.pC] 43)).alloc (.cells #[.int .i64 (r : Int), .int .i64 (q : Int), .int .i64 g] 45)) 17 #[.string ⟨#[]⟩, .slice none 0 0, .int .i64 0, .int .i64 0, .int .i64 0, .int .i64 0, .int .i64 0, .int .i64 0, .slice none 0 0, .int .i64 0, .int .i64 0, .slice none 0 0, .slice none 0 0, .int .i64 0, .int .i64 0, .int .i64 0, .slice none 0 0] 37 rfl)
  have HS := hik (h.out.keep ((((Chg.refl nob w).alloc (.cells #[.int .i64 s.r, .int .i64 s.q, .int .i64 s.p, .slice y.cA s.nA y.pA, .slice y.cB s.nB y.pB, .slice y.cC s.nC y.pC] 43)).alloc (.cells #[.int .i64 (r : Int), .int .i64 (q : Int), .int .i64 g] 45)).alloc (.cells #[.string ⟨#[]⟩, .slice none 0 0, .int .i64 0, .int .i64 0, .int .i64 0, .int .i64 0, .int .i64 0, .int .i64 0, .slice none 0 0, .int .i64 0, .int .i64 0, .slice none 0 0, .slice none 0 0, .int .i64 0, .int .i64 0, .int .i64 0, .slice none 0 0] 37)))
  rw [asz] at RT
  rw [asz, asz] at RP
  go_enter Tryz.func23, Tryz.ntmps23
  go_wp2_with fail
  generalize hW : ((w.alloc (.cells #[.int .i64 s.r, .int .i64 s.q, .int .i64 s.p, .slice y.cA s.nA y.pA, .slice y.cB s.nB y.pB, .slice y.cC s.nC y.pC] 43)).alloc (.cells #[.int .i64 (r : Int), .int .i64 (q : Int), .int .i64 g] 45)).alloc (.cells #[.string ⟨#[]⟩, .slice none 0 0, .int .i64 0, .int .i64 0, .int .i64 0, .int .i64 0, .int .i64 0, .int .i64 0, .slice none 0 0, .int .i64 0, .int .i64 0, .slice none 0 0, .slice none 0 0, .int .i64 0, .int .i64 0, .int .i64 0, .slice none 0 0] 37) = W0 at K0 RS RT RP HS ⊢
  clear hW
  refine (rdBytes_any 65 gr n cap k 32 z _ HS (by omega) (by have := HK.out.1; omega) HK.out.2 HC'.out).mono ?_
  rintro e W1 ⟨xb, xo, CC, rfl, hC1, hC2, hxb, hcell, hs, kk⟩
  have HW0 : w.heap.size + 1 + 1 < W1.heap.size := Nat.lt_of_lt_of_le RP.out.lt kk.size
  replace K0 := hik (K0.out.trans kk)
  replace RS := hik (rowIs_chg RS.out kk (fun e => by have e' : _ = gr := e; omega))
  replace RT := hik (rowIs_chg RT.out kk (fun e => by have e' : _ = gr := e; omega))
  replace RP := hik (rowIs_chg RP.out kk (fun e => by have e' : _ = gr := e; omega))
  have HLP := RP.out.lt
  replace HS := hik hs
  have hcv : (convert 22 9 (.slice (some ⟨xb, xo, none⟩) 32 CC)).run Tryz.prog W1 = .ok (.string (tz9 z k 0)) W1 := conv_bytes _ 32 CC (zk z (k + 32 * 0)) W1 (fun i hi => ⟨xb, xo, rfl, World.block_lt_of_cell? W1 _ (hcell i hi), by rw [hcell i hi]; rfl⟩)
  clear kk hs hC1 hC2 hcell
  have y0 : W1.cell? ⟨w.heap.size + 1 + 1, 0, none⟩ = some (.string ⟨#[]⟩) := RP.out.cell (i := 0) (by omega)
  have u0 := RP.out.frozen 0
  have lo9 := RP.out.lt
  
  go_wp2
  have kS := ((Chg.refl (fun b => b = w.heap.size + 1 + 1) W1).setCell (p := ⟨w.heap.size + 1 + 1, 0, none⟩) (fun _ => rfl) (.string (tz9 z k 0)))
  replace K0 := hik (K0.out.nearR kS (fun y e => .inr (by have e' : y = w.heap.size + 1 + 1 := e; omega)))
  replace RS := hik (rowIs_chg RS.out kS (fun e => by have e' : _ = w.heap.size + 1 + 1 := e; omega))
  replace RT := hik (rowIs_chg RT.out kS (fun e => by have e' : _ = w.heap.size + 1 + 1 := e; omega))
  replace HS := hik (HS.out.chg kS (fun e => by have e' : gr = w.heap.size + 1 + 1 := e; omega) (fun b hb e => by have e' : b = w.heap.size + 1 + 1 := e; omega))
  replace RP := hik ((RP.out.set 0 (.string (tz9 z k 0))).congr (g := (fun i => (#[.string (tz9 z k 0), .slice none 0 0, .int .i64 0, .int .i64 0, .int .i64 0, .int .i64 0, .int .i64 0, .int .i64 0, .slice none 0 0, .int .i64 0, .int .i64 0, .slice none 0 0, .slice none 0 0, .int .i64 0, .int .i64 0, .int .i64 0, .slice none 0 0] : Array Value).getD i undef)) (fun i hi => by rcases (show i = 0 ∨ i = 1 ∨ i = 2 ∨ i = 3 ∨ i = 4 ∨ i = 5 ∨ i = 6 ∨ i = 7 ∨ i = 8 ∨ i = 9 ∨ i = 10 ∨ i = 11 ∨ i = 12 ∨ i = 13 ∨ i = 14 ∨ i = 15 ∨ i = 16 by omega) with rfl | rfl | rfl | rfl | rfl | rfl | rfl | rfl | rfl | rfl | rfl | rfl | rfl | rfl | rfl | rfl | rfl <;> rfl))
  have hsz_ : (W1.setCell ⟨w.heap.size + 1 + 1, 0, none⟩ (.string (tz9 z k 0))).heap.size = W1.heap.size := by simp
  clear kS y0 u0 lo9
  clear hcv
  generalize W1.setCell ⟨w.heap.size + 1 + 1, 0, none⟩ (.string (tz9 z k 0)) = V1 at K0 RS RT RP HS hsz_  ⊢
  have HV1 : w.heap.size + 1 + 1 < V1.heap.size := by omega
  clear hsz_ HW0 HLP
  
  have xs : V1.cell? ⟨w.heap.size, 0, none⟩ = some (.int .i64 (R : Int)) := by rw [← HR.out]; exact RS.out.cell (i := 0) (by omega)
  have KW := hik ((Chg.refl (RG gr) V1).drew1)
  have SA := hik (fun (WW : World) (kW : Chg (RG gr) V1 WW) => (show (WW.cell? ⟨w.heap.size, 0, none⟩ = some (.int .i64 (R : Int))) from kW.seeG xs (by unfold RG; omega)))
  refine wp_region_held_drew (S := fun w' => w'.cell? ⟨w.heap.size, 0, none⟩ = some (.int .i64 (R : Int))) (by kernel_rfl) (SA.out _ KW.out) (fun hHeld => ?_)
  refine wpAnyH_take (i := 0) (v := ?_) rfl (by kernel_rfl) (by kernel_rfl) (by kernel_rfl) (fun _ _ _ h => h) (Or.inl ⟨by rfl, ?_⟩) (by assumption) ?_
  rotate_left 1
  · (intro w' hSw; (try dsimp only at hSw); go_simp; try with_reducible rfl)
  try simp only [Act.put, List.setIfInBounds_toArray, List.set_cons_zero, List.set_cons_succ, List.getElem_toArray, List.getElem_cons_zero, List.getElem_cons_succ]
  refine wpAnyH_take (i := 1) (v := ?_) rfl (by kernel_rfl) (by kernel_rfl) (by kernel_rfl) (fun _ _ _ h => h) (Or.inl ⟨by rfl, ?_⟩) (by assumption) ?_
  rotate_left 1
  · (intro w' hSw; (try dsimp only at hSw); go_simp; try with_reducible rfl)
  try simp only [Act.put, List.setIfInBounds_toArray, List.set_cons_zero, List.set_cons_succ, List.getElem_toArray, List.getElem_cons_zero, List.getElem_cons_succ]
  refine wpAnyH_take (i := 2) (v := ?_) rfl (by kernel_rfl) (by kernel_rfl) (by kernel_rfl) (fun _ _ _ h => h) (Or.inl ⟨by rfl, ?_⟩) (by assumption) ?_
  rotate_left 1
  · (intro w' hSw; (try dsimp only at hSw); go_simp; try with_reducible rfl)
  try simp only [Act.put, List.setIfInBounds_toArray, List.set_cons_zero, List.set_cons_succ, List.getElem_toArray, List.getElem_cons_zero, List.getElem_cons_succ]
  refine wpAnyH_take (i := 3) (v := ?_) rfl (by kernel_rfl) (by kernel_rfl) (by kernel_rfl) (fun _ _ _ h => h) (Or.inl ⟨by rfl, ?_⟩) (by assumption) ?_
  rotate_left 1
  · (intro w' hSw; (try dsimp only at hSw); go_simp; try with_reducible rfl)
  try simp only [Act.put, List.setIfInBounds_toArray, List.set_cons_zero, List.set_cons_succ, List.getElem_toArray, List.getElem_cons_zero, List.getElem_cons_succ]
  refine wpAnyH_take (i := 4) (v := ?_) rfl (by kernel_rfl) (by kernel_rfl) (by kernel_rfl) (fun _ _ _ h => h) (Or.inl ⟨by rfl, ?_⟩) (by assumption) ?_
  rotate_left 1
  · (intro w' hSw; (try dsimp only at hSw); go_simp; try with_reducible rfl)
  try simp only [Act.put, List.setIfInBounds_toArray, List.set_cons_zero, List.set_cons_succ, List.getElem_toArray, List.getElem_cons_zero, List.getElem_cons_succ]
  refine wpAnyH_ready (rs := [5]) (by kernel_rfl) (by simp) ?_
  refine AllReadyH.cons rfl (fun K hK => ?_) AllReadyH.nil
  refine stepL_callN 46 #[.tmp 16, .tmp 18, .const (.int .i64 4)] #[63, 3, 3] (by rfl) (by rfl) #[.pointer (some ⟨gr, 0, none⟩), .int .i64 (R : Int), .int .i64 (4 : Int)] (by simp only [List.map_toArray, List.map_cons, List.map_nil] <;> rfl) (run_go Tryz.func46 (by kernel_rfl) (by kernel_rfl) _ _) (rdRounds_any 65 gr n cap (k + 32) R 4 z _ (hik HS.out.dr) hz (by omega) (by omega) (by omega) (by have := HK.out.1; omega) HK.out.2 HC'.out) ?_
  rintro e C1 ⟨he, p1, hs, kk⟩
  replace he : e = .returned (.slice (some ⟨V1.heap.size, 0, none⟩) R R) := he
  have OG := hik (show (dEE R (fun _ => 4) (fun i => rf (zk z (k + 32 + 8 * 4 * i))) (fun i => rg (zk z (k + 32 + 8 * 4 * i)))).Own C1 V1.heap.size C1.heap.size (.slice (some ⟨V1.heap.size, 0, none⟩) R R) from p1)
  have HS3 := hik (show RdS C1 65 gr n cap (k + 32 + 32 * R) z by have q_ := hs; rw [show k + 32 + 8 * 4 * R = k + 32 + 32 * R by omega] at q_; exact q_)
  have hk_ : V1.heap.size ≤ C1.heap.size := kk.size
  clear p1 hs
  refine ⟨_, he, ?_⟩
  replace KW := hik (KW.out.trans kk)
  refine hK.out _ _ (SA.out _ KW.out) (fun hHeld => ?_)
  clear hK K
  try simp only [Act.put, List.setIfInBounds_toArray, List.set_cons_zero, List.set_cons_succ, List.getElem_toArray, List.getElem_cons_zero, List.getElem_cons_succ]
  clear he kk
  refine wpAnyH_take (i := 6) (v := ?_) rfl (by kernel_rfl) (by kernel_rfl) (by kernel_rfl) (fun _ _ _ h => h) (Or.inl ⟨by rfl, ?_⟩) (by assumption) ?_
  rotate_left 1
  · (intro w' hSw; (try dsimp only at hSw); go_simp; try with_reducible rfl)
  try simp only [Act.put, List.setIfInBounds_toArray, List.set_cons_zero, List.set_cons_succ, List.getElem_toArray, List.getElem_cons_zero, List.getElem_cons_succ]
  refine wpAnyH_ready (rs := [7]) (by kernel_rfl) (by simp) ?_
  refine AllReadyH.cons rfl (fun K hK => ?_) AllReadyH.nil
  replace HS := hik HS3.out
  clear HS3
  replace K0 := hik (K0.out.trans KW.out)
  replace RS := hik (rowIs_chg RS.out KW.out (fun e => by have e' : _ = gr := e; omega))
  replace RT := hik (rowIs_chg RT.out KW.out (fun e => by have e' : _ = gr := e; omega))
  replace RP := hik (rowIs_chg RP.out KW.out (fun e => by have e' : _ = gr := e; omega))
  have HLP := RP.out.lt
  have y1 : C1.cell? ⟨w.heap.size + 1 + 1, 1, none⟩ = some (.slice none 0 0) := RP.out.cell (i := 1) (by omega)
  have u1 := RP.out.frozen 1
  have lo9 := RP.out.lt
  
  simp only [List.getElem_toArray, List.getElem_cons_zero, List.getElem_cons_succ]
  go_simp
  have kS := ((Chg.refl (fun b => b = w.heap.size + 1 + 1) C1).setCell (p := ⟨w.heap.size + 1 + 1, 1, none⟩) (fun _ => rfl) (.slice (some ⟨V1.heap.size, 0, none⟩) R R))
  replace K0 := hik (K0.out.nearR kS (fun y e => .inr (by have e' : y = w.heap.size + 1 + 1 := e; omega)))
  replace RS := hik (rowIs_chg RS.out kS (fun e => by have e' : _ = w.heap.size + 1 + 1 := e; omega))
  replace RT := hik (rowIs_chg RT.out kS (fun e => by have e' : _ = w.heap.size + 1 + 1 := e; omega))
  replace OG := hik (OG.out.chg kS (fun y h1 h2 e => by have e' : y = w.heap.size + 1 + 1 := e; omega))
  replace HS := hik (HS.out.chg kS (fun e => by have e' : gr = w.heap.size + 1 + 1 := e; omega) (fun b hb e => by have e' : b = w.heap.size + 1 + 1 := e; omega))
  replace RP := hik ((RP.out.set 1 (.slice (some ⟨V1.heap.size, 0, none⟩) R R)).congr (g := (fun i => (#[.string (tz9 z k 0), .slice (some ⟨V1.heap.size, 0, none⟩) R R, .int .i64 0, .int .i64 0, .int .i64 0, .int .i64 0, .int .i64 0, .int .i64 0, .slice none 0 0, .int .i64 0, .int .i64 0, .slice none 0 0, .slice none 0 0, .int .i64 0, .int .i64 0, .int .i64 0, .slice none 0 0] : Array Value).getD i undef)) (fun i hi => by rcases (show i = 0 ∨ i = 1 ∨ i = 2 ∨ i = 3 ∨ i = 4 ∨ i = 5 ∨ i = 6 ∨ i = 7 ∨ i = 8 ∨ i = 9 ∨ i = 10 ∨ i = 11 ∨ i = 12 ∨ i = 13 ∨ i = 14 ∨ i = 15 ∨ i = 16 by omega) with rfl | rfl | rfl | rfl | rfl | rfl | rfl | rfl | rfl | rfl | rfl | rfl | rfl | rfl | rfl | rfl | rfl <;> rfl))
  have hsz_ : (C1.setCell ⟨w.heap.size + 1 + 1, 1, none⟩ (.slice (some ⟨V1.heap.size, 0, none⟩) R R)).heap.size = C1.heap.size := by simp
  clear kS y1 u1 lo9
  clear SA hHeld KW
  generalize C1.setCell ⟨w.heap.size + 1 + 1, 1, none⟩ (.slice (some ⟨V1.heap.size, 0, none⟩) R R) = V2 at K0 RS RT RP HS hsz_ OG ⊢
  have hV2 : C1.heap.size ≤ V2.heap.size := by omega
  clear hsz_ HLP
  refine hK.out _ _ (show V2.cell? ⟨w.heap.size, 0, none⟩ = some (.int .i64 (R : Int)) from by rw [← HR.out]; exact RS.out.cell (i := 0) (by omega)) (fun hHeld => ?_)
  clear hK K
  try simp only [Act.put, List.setIfInBounds_toArray, List.set_cons_zero, List.set_cons_succ, List.getElem_toArray, List.getElem_cons_zero, List.getElem_cons_succ]
  refine wpAnyH_done (by kernel_rfl) ?_ _
  clear hHeld xs
  go_wp2_with fail
  refine (products_any gr n cap (k + 32 + 32 * R) z _ HS hz (by have := HK.out.1; omega) HK.out.2 HC'.out).mono ?_
  rintro e W4 ⟨rfl, hs, kk⟩
  have hW4 := kk.size
  replace K0 := hik (K0.out.trans kk)
  replace RS := hik (rowIs_chg RS.out kk (fun e => by have e' : _ = gr := e; omega))
  replace RT := hik (rowIs_chg RT.out kk (fun e => by have e' : _ = gr := e; omega))
  replace OG := hik (OG.out.chg kk (fun y h1 h2 e => by have e' : y = gr := e; omega))
  replace RP := hik (rowIs_chg RP.out kk (fun e => by have e' : _ = gr := e; omega))
  have HLP := RP.out.lt
  replace HS := hik (show RdS W4 65 gr n cap (k + 32 + 32 * R + 24) z from hs)
  clear kk hs
  have y2 : W4.cell? ⟨w.heap.size + 1 + 1, 2, none⟩ = some (.int .i64 0) := RP.out.cell (i := 2) (by omega)
  have u2 := RP.out.frozen 2
  have y3 : W4.cell? ⟨w.heap.size + 1 + 1, 3, none⟩ = some (.int .i64 0) := RP.out.cell (i := 3) (by omega)
  have u3 := RP.out.frozen 3
  have y4 : W4.cell? ⟨w.heap.size + 1 + 1, 4, none⟩ = some (.int .i64 0) := RP.out.cell (i := 4) (by omega)
  have u4 := RP.out.frozen 4
  have y5 : W4.cell? ⟨w.heap.size + 1 + 1, 5, none⟩ = some (.int .i64 0) := RP.out.cell (i := 5) (by omega)
  have u5 := RP.out.frozen 5
  have y6 : W4.cell? ⟨w.heap.size + 1 + 1, 6, none⟩ = some (.int .i64 0) := RP.out.cell (i := 6) (by omega)
  have u6 := RP.out.frozen 6
  have y7 : W4.cell? ⟨w.heap.size + 1 + 1, 7, none⟩ = some (.int .i64 0) := RP.out.cell (i := 7) (by omega)
  have u7 := RP.out.frozen 7
  have lo9 := RP.out.lt
  go_wp2
  have kS := (((((((Chg.refl (fun b => b = w.heap.size + 1 + 1) W4).setCell (p := ⟨w.heap.size + 1 + 1, 2, none⟩) (fun _ => rfl) (.int .i64 (w4 z (k + 32 + 32 * R)))).setCell (p := ⟨w.heap.size + 1 + 1, 3, none⟩) (fun _ => rfl) (.int .i64 (w4 z (k + 32 + 32 * R + 4)))).setCell (p := ⟨w.heap.size + 1 + 1, 4, none⟩) (fun _ => rfl) (.int .i64 (w4 z (k + 32 + 32 * R + 8)))).setCell (p := ⟨w.heap.size + 1 + 1, 5, none⟩) (fun _ => rfl) (.int .i64 (w4 z (k + 32 + 32 * R + 12)))).setCell (p := ⟨w.heap.size + 1 + 1, 6, none⟩) (fun _ => rfl) (.int .i64 (w4 z (k + 32 + 32 * R + 16)))).setCell (p := ⟨w.heap.size + 1 + 1, 7, none⟩) (fun _ => rfl) (.int .i64 (w4 z (k + 32 + 32 * R + 20))))
  replace K0 := hik (K0.out.nearR kS (fun y e => .inr (by have e' : y = w.heap.size + 1 + 1 := e; omega)))
  replace RS := hik (rowIs_chg RS.out kS (fun e => by have e' : _ = w.heap.size + 1 + 1 := e; omega))
  replace RT := hik (rowIs_chg RT.out kS (fun e => by have e' : _ = w.heap.size + 1 + 1 := e; omega))
  replace OG := hik (OG.out.chg kS (fun y h1 h2 e => by have e' : y = w.heap.size + 1 + 1 := e; omega))
  replace HS := hik (HS.out.chg kS (fun e => by have e' : gr = w.heap.size + 1 + 1 := e; omega) (fun b hb e => by have e' : b = w.heap.size + 1 + 1 := e; omega))
  replace RP := hik (((((((RP.out.set 2 (.int .i64 (w4 z (k + 32 + 32 * R)))).set 3 (.int .i64 (w4 z (k + 32 + 32 * R + 4)))).set 4 (.int .i64 (w4 z (k + 32 + 32 * R + 8)))).set 5 (.int .i64 (w4 z (k + 32 + 32 * R + 12)))).set 6 (.int .i64 (w4 z (k + 32 + 32 * R + 16)))).set 7 (.int .i64 (w4 z (k + 32 + 32 * R + 20)))).congr (g := (fun i => (#[.string (tz9 z k 0), .slice (some ⟨V1.heap.size, 0, none⟩) R R, .int .i64 (w4 z (k + 32 + 32 * R)), .int .i64 (w4 z (k + 32 + 32 * R + 4)), .int .i64 (w4 z (k + 32 + 32 * R + 8)), .int .i64 (w4 z (k + 32 + 32 * R + 12)), .int .i64 (w4 z (k + 32 + 32 * R + 16)), .int .i64 (w4 z (k + 32 + 32 * R + 20)), .slice none 0 0, .int .i64 0, .int .i64 0, .slice none 0 0, .slice none 0 0, .int .i64 0, .int .i64 0, .int .i64 0, .slice none 0 0] : Array Value).getD i undef)) (fun i hi => by rcases (show i = 0 ∨ i = 1 ∨ i = 2 ∨ i = 3 ∨ i = 4 ∨ i = 5 ∨ i = 6 ∨ i = 7 ∨ i = 8 ∨ i = 9 ∨ i = 10 ∨ i = 11 ∨ i = 12 ∨ i = 13 ∨ i = 14 ∨ i = 15 ∨ i = 16 by omega) with rfl | rfl | rfl | rfl | rfl | rfl | rfl | rfl | rfl | rfl | rfl | rfl | rfl | rfl | rfl | rfl | rfl <;> rfl))
  have hsz_ : ((((((W4.setCell ⟨w.heap.size + 1 + 1, 2, none⟩ (.int .i64 (w4 z (k + 32 + 32 * R)))).setCell ⟨w.heap.size + 1 + 1, 3, none⟩ (.int .i64 (w4 z (k + 32 + 32 * R + 4)))).setCell ⟨w.heap.size + 1 + 1, 4, none⟩ (.int .i64 (w4 z (k + 32 + 32 * R + 8)))).setCell ⟨w.heap.size + 1 + 1, 5, none⟩ (.int .i64 (w4 z (k + 32 + 32 * R + 12)))).setCell ⟨w.heap.size + 1 + 1, 6, none⟩ (.int .i64 (w4 z (k + 32 + 32 * R + 16)))).setCell ⟨w.heap.size + 1 + 1, 7, none⟩ (.int .i64 (w4 z (k + 32 + 32 * R + 20)))).heap.size = W4.heap.size := by simp
  clear kS y2 u2 y3 u3 y4 u4 y5 u5 y6 u6 y7 u7 lo9
  generalize (((((W4.setCell ⟨w.heap.size + 1 + 1, 2, none⟩ (.int .i64 (w4 z (k + 32 + 32 * R)))).setCell ⟨w.heap.size + 1 + 1, 3, none⟩ (.int .i64 (w4 z (k + 32 + 32 * R + 4)))).setCell ⟨w.heap.size + 1 + 1, 4, none⟩ (.int .i64 (w4 z (k + 32 + 32 * R + 8)))).setCell ⟨w.heap.size + 1 + 1, 5, none⟩ (.int .i64 (w4 z (k + 32 + 32 * R + 12)))).setCell ⟨w.heap.size + 1 + 1, 6, none⟩ (.int .i64 (w4 z (k + 32 + 32 * R + 16)))).setCell ⟨w.heap.size + 1 + 1, 7, none⟩ (.int .i64 (w4 z (k + 32 + 32 * R + 20))) = V3 at K0 RS RT RP HS hsz_ OG ⊢
  have hV3 : V2.heap.size ≤ V3.heap.size := by omega
  clear hsz_ HLP hW4
  
  have xs : V3.cell? ⟨w.heap.size, 1, none⟩ = some (.int .i64 (C : Int)) := by rw [← HC.out]; exact RS.out.cell (i := 1) (by omega)
  have KW := hik ((Chg.refl (RG gr) V3).drew1)
  have SA := hik (fun (WW : World) (kW : Chg (RG gr) V3 WW) => (show (WW.cell? ⟨w.heap.size, 1, none⟩ = some (.int .i64 (C : Int))) from kW.seeG xs (by unfold RG; omega)))
  refine wp_region_held_drew (S := fun w' => w'.cell? ⟨w.heap.size, 1, none⟩ = some (.int .i64 (C : Int))) (by kernel_rfl) (SA.out _ KW.out) (fun hHeld => ?_)
  refine wpAnyH_take (i := 0) (v := ?_) rfl (by kernel_rfl) (by kernel_rfl) (by kernel_rfl) (fun _ _ _ h => h) (Or.inl ⟨by rfl, ?_⟩) (by assumption) ?_
  rotate_left 1
  · (intro w' hSw; (try dsimp only at hSw); go_simp; try with_reducible rfl)
  try simp only [Act.put, List.setIfInBounds_toArray, List.set_cons_zero, List.set_cons_succ, List.getElem_toArray, List.getElem_cons_zero, List.getElem_cons_succ]
  refine wpAnyH_take (i := 1) (v := ?_) rfl (by kernel_rfl) (by kernel_rfl) (by kernel_rfl) (fun _ _ _ h => h) (Or.inl ⟨by rfl, ?_⟩) (by assumption) ?_
  rotate_left 1
  · (intro w' hSw; (try dsimp only at hSw); go_simp; try with_reducible rfl)
  try simp only [Act.put, List.setIfInBounds_toArray, List.set_cons_zero, List.set_cons_succ, List.getElem_toArray, List.getElem_cons_zero, List.getElem_cons_succ]
  refine wpAnyH_take (i := 2) (v := ?_) rfl (by kernel_rfl) (by kernel_rfl) (by kernel_rfl) (fun _ _ _ h => h) (Or.inl ⟨by rfl, ?_⟩) (by assumption) ?_
  rotate_left 1
  · (intro w' hSw; (try dsimp only at hSw); go_simp; try with_reducible rfl)
  try simp only [Act.put, List.setIfInBounds_toArray, List.set_cons_zero, List.set_cons_succ, List.getElem_toArray, List.getElem_cons_zero, List.getElem_cons_succ]
  refine wpAnyH_take (i := 3) (v := ?_) rfl (by kernel_rfl) (by kernel_rfl) (by kernel_rfl) (fun _ _ _ h => h) (Or.inl ⟨by rfl, ?_⟩) (by assumption) ?_
  rotate_left 1
  · (intro w' hSw; (try dsimp only at hSw); go_simp; try with_reducible rfl)
  try simp only [Act.put, List.setIfInBounds_toArray, List.set_cons_zero, List.set_cons_succ, List.getElem_toArray, List.getElem_cons_zero, List.getElem_cons_succ]
  refine wpAnyH_take (i := 4) (v := ?_) rfl (by kernel_rfl) (by kernel_rfl) (by kernel_rfl) (fun _ _ _ h => h) (Or.inl ⟨by rfl, ?_⟩) (by assumption) ?_
  rotate_left 1
  · (intro w' hSw; (try dsimp only at hSw); go_simp; try with_reducible rfl)
  try simp only [Act.put, List.setIfInBounds_toArray, List.set_cons_zero, List.set_cons_succ, List.getElem_toArray, List.getElem_cons_zero, List.getElem_cons_succ]
  refine wpAnyH_ready (rs := [5]) (by kernel_rfl) (by simp) ?_
  refine AllReadyH.cons rfl (fun K hK => ?_) AllReadyH.nil
  refine stepL_callN 46 #[.tmp 32, .tmp 34, .const (.int .i64 3)] #[63, 3, 3] (by rfl) (by rfl) #[.pointer (some ⟨gr, 0, none⟩), .int .i64 (C : Int), .int .i64 (3 : Int)] (by simp only [List.map_toArray, List.map_cons, List.map_nil] <;> rfl) (run_go Tryz.func46 (by kernel_rfl) (by kernel_rfl) _ _) (rdRounds_any 65 gr n cap (k + 32 + 32 * R + 24) C 3 z _ (hik HS.out.dr) hz (by omega) (by omega) (by omega) (by have := HK.out.1; omega) HK.out.2 HC'.out) ?_
  rintro e C2 ⟨he, p1, hs, kk⟩
  replace he : e = .returned (.slice (some ⟨V3.heap.size, 0, none⟩) C C) := he
  have OW := hik (show (dEE C (fun _ => 3) (fun i => rf (zk z (k + 32 + 32 * R + 24 + 8 * 3 * i))) (fun i => rg (zk z (k + 32 + 32 * R + 24 + 8 * 3 * i)))).Own C2 V3.heap.size C2.heap.size (.slice (some ⟨V3.heap.size, 0, none⟩) C C) from p1)
  have HS3 := hik (show RdS C2 65 gr n cap (k + 32 + 32 * R + 24 + 24 * C) z by have q_ := hs; rw [show k + 32 + 32 * R + 24 + 8 * 3 * C = k + 32 + 32 * R + 24 + 24 * C by omega] at q_; exact q_)
  have hk_ : V3.heap.size ≤ C2.heap.size := kk.size
  clear p1 hs
  refine ⟨_, he, ?_⟩
  replace KW := hik (KW.out.trans kk)
  refine hK.out _ _ (SA.out _ KW.out) (fun hHeld => ?_)
  clear hK K
  try simp only [Act.put, List.setIfInBounds_toArray, List.set_cons_zero, List.set_cons_succ, List.getElem_toArray, List.getElem_cons_zero, List.getElem_cons_succ]
  clear he kk
  refine wpAnyH_take (i := 6) (v := ?_) rfl (by kernel_rfl) (by kernel_rfl) (by kernel_rfl) (fun _ _ _ h => h) (Or.inl ⟨by rfl, ?_⟩) (by assumption) ?_
  rotate_left 1
  · (intro w' hSw; (try dsimp only at hSw); go_simp; try with_reducible rfl)
  try simp only [Act.put, List.setIfInBounds_toArray, List.set_cons_zero, List.set_cons_succ, List.getElem_toArray, List.getElem_cons_zero, List.getElem_cons_succ]
  refine wpAnyH_ready (rs := [7]) (by kernel_rfl) (by simp) ?_
  refine AllReadyH.cons rfl (fun K hK => ?_) AllReadyH.nil
  replace HS := hik HS3.out
  clear HS3
  replace K0 := hik (K0.out.trans KW.out)
  replace RS := hik (rowIs_chg RS.out KW.out (fun e => by have e' : _ = gr := e; omega))
  replace RT := hik (rowIs_chg RT.out KW.out (fun e => by have e' : _ = gr := e; omega))
  replace OG := hik (OG.out.chg KW.out (fun y h1 h2 e => by have e' : y = gr := e; omega))
  replace RP := hik (rowIs_chg RP.out KW.out (fun e => by have e' : _ = gr := e; omega))
  have HLP := RP.out.lt
  have y8 : C2.cell? ⟨w.heap.size + 1 + 1, 8, none⟩ = some (.slice none 0 0) := RP.out.cell (i := 8) (by omega)
  have u8 := RP.out.frozen 8
  have lo9 := RP.out.lt
  
  simp only [List.getElem_toArray, List.getElem_cons_zero, List.getElem_cons_succ]
  go_simp
  have kS := ((Chg.refl (fun b => b = w.heap.size + 1 + 1) C2).setCell (p := ⟨w.heap.size + 1 + 1, 8, none⟩) (fun _ => rfl) (.slice (some ⟨V3.heap.size, 0, none⟩) C C))
  replace K0 := hik (K0.out.nearR kS (fun y e => .inr (by have e' : y = w.heap.size + 1 + 1 := e; omega)))
  replace RS := hik (rowIs_chg RS.out kS (fun e => by have e' : _ = w.heap.size + 1 + 1 := e; omega))
  replace RT := hik (rowIs_chg RT.out kS (fun e => by have e' : _ = w.heap.size + 1 + 1 := e; omega))
  replace OG := hik (OG.out.chg kS (fun y h1 h2 e => by have e' : y = w.heap.size + 1 + 1 := e; omega))
  replace OW := hik (OW.out.chg kS (fun y h1 h2 e => by have e' : y = w.heap.size + 1 + 1 := e; omega))
  replace HS := hik (HS.out.chg kS (fun e => by have e' : gr = w.heap.size + 1 + 1 := e; omega) (fun b hb e => by have e' : b = w.heap.size + 1 + 1 := e; omega))
  replace RP := hik ((RP.out.set 8 (.slice (some ⟨V3.heap.size, 0, none⟩) C C)).congr (g := (fun i => (#[.string (tz9 z k 0), .slice (some ⟨V1.heap.size, 0, none⟩) R R, .int .i64 (w4 z (k + 32 + 32 * R)), .int .i64 (w4 z (k + 32 + 32 * R + 4)), .int .i64 (w4 z (k + 32 + 32 * R + 8)), .int .i64 (w4 z (k + 32 + 32 * R + 12)), .int .i64 (w4 z (k + 32 + 32 * R + 16)), .int .i64 (w4 z (k + 32 + 32 * R + 20)), .slice (some ⟨V3.heap.size, 0, none⟩) C C, .int .i64 0, .int .i64 0, .slice none 0 0, .slice none 0 0, .int .i64 0, .int .i64 0, .int .i64 0, .slice none 0 0] : Array Value).getD i undef)) (fun i hi => by rcases (show i = 0 ∨ i = 1 ∨ i = 2 ∨ i = 3 ∨ i = 4 ∨ i = 5 ∨ i = 6 ∨ i = 7 ∨ i = 8 ∨ i = 9 ∨ i = 10 ∨ i = 11 ∨ i = 12 ∨ i = 13 ∨ i = 14 ∨ i = 15 ∨ i = 16 by omega) with rfl | rfl | rfl | rfl | rfl | rfl | rfl | rfl | rfl | rfl | rfl | rfl | rfl | rfl | rfl | rfl | rfl <;> rfl))
  have hsz_ : (C2.setCell ⟨w.heap.size + 1 + 1, 8, none⟩ (.slice (some ⟨V3.heap.size, 0, none⟩) C C)).heap.size = C2.heap.size := by simp
  clear kS y8 u8 lo9
  clear SA hHeld KW
  generalize C2.setCell ⟨w.heap.size + 1 + 1, 8, none⟩ (.slice (some ⟨V3.heap.size, 0, none⟩) C C) = V4 at K0 RS RT RP HS hsz_ OG OW ⊢
  have hV4 : C2.heap.size ≤ V4.heap.size := by omega
  clear hsz_ HLP
  refine hK.out _ _ (show V4.cell? ⟨w.heap.size, 1, none⟩ = some (.int .i64 (C : Int)) from by rw [← HC.out]; exact RS.out.cell (i := 1) (by omega)) (fun hHeld => ?_)
  clear hK K
  try simp only [Act.put, List.setIfInBounds_toArray, List.set_cons_zero, List.set_cons_succ, List.getElem_toArray, List.getElem_cons_zero, List.getElem_cons_succ]
  refine wpAnyH_done (by kernel_rfl) ?_ _
  clear hHeld xs
  go_wp2_with fail
  refine (rdExts_any 65 gr n cap (k + 32 + 32 * R + 24 + 24 * C) 1 z _ HS hz (by omega) (by have := HK.out.1; omega) HK.out.2 HC'.out).mono ?_
  rintro e W6 ⟨rfl, oE, hs, kk⟩
  have hW6 := kk.size
  replace K0 := hik (K0.out.trans kk)
  replace RS := hik (rowIs_chg RS.out kk (fun e => by have e' : _ = gr := e; omega))
  replace RT := hik (rowIs_chg RT.out kk (fun e => by have e' : _ = gr := e; omega))
  replace OG := hik (OG.out.chg kk (fun y h1 h2 e => by have e' : y = gr := e; omega))
  replace OW := hik (OW.out.chg kk (fun y h1 h2 e => by have e' : y = gr := e; omega))
  replace RP := hik (rowIs_chg RP.out kk (fun e => by have e' : _ = gr := e; omega))
  have HLP := RP.out.lt
  replace HS := hik (show RdS W6 65 gr n cap (k + 32 + 32 * R + 24 + 24 * C + 8) z from hs)
  obtain ⟨xe0, xe1⟩ := one_at oE
  have hle := oE.lt
  have hbE2 : w.heap.size + 1 + 1 < V4.heap.size := by omega
  generalize hbE : V4.heap.size = bE at xe0 xe1 hle hbE2 ⊢
  clear kk hs oE
  have y9 : W6.cell? ⟨w.heap.size + 1 + 1, 9, none⟩ = some (.int .i64 0) := RP.out.cell (i := 9) (by omega)
  have u9 := RP.out.frozen 9
  have y10 : W6.cell? ⟨w.heap.size + 1 + 1, 10, none⟩ = some (.int .i64 0) := RP.out.cell (i := 10) (by omega)
  have u10 := RP.out.frozen 10
  have lo9 := RP.out.lt
  go_wp2
  have kS := (((Chg.refl (fun b => b = w.heap.size + 1 + 1) W6).setCell (p := ⟨w.heap.size + 1 + 1, 9, none⟩) (fun _ => rfl) (.int .i64 (w4 z (k + 32 + 32 * R + 24 + 24 * C)))).setCell (p := ⟨w.heap.size + 1 + 1, 10, none⟩) (fun _ => rfl) (.int .i64 (w4 z (k + 32 + 32 * R + 24 + 24 * C + 4))))
  replace K0 := hik (K0.out.nearR kS (fun y e => .inr (by have e' : y = w.heap.size + 1 + 1 := e; omega)))
  replace RS := hik (rowIs_chg RS.out kS (fun e => by have e' : _ = w.heap.size + 1 + 1 := e; omega))
  replace RT := hik (rowIs_chg RT.out kS (fun e => by have e' : _ = w.heap.size + 1 + 1 := e; omega))
  replace OG := hik (OG.out.chg kS (fun y h1 h2 e => by have e' : y = w.heap.size + 1 + 1 := e; omega))
  replace OW := hik (OW.out.chg kS (fun y h1 h2 e => by have e' : y = w.heap.size + 1 + 1 := e; omega))
  replace HS := hik (HS.out.chg kS (fun e => by have e' : gr = w.heap.size + 1 + 1 := e; omega) (fun b hb e => by have e' : b = w.heap.size + 1 + 1 := e; omega))
  replace RP := hik (((RP.out.set 9 (.int .i64 (w4 z (k + 32 + 32 * R + 24 + 24 * C)))).set 10 (.int .i64 (w4 z (k + 32 + 32 * R + 24 + 24 * C + 4)))).congr (g := (fun i => (#[.string (tz9 z k 0), .slice (some ⟨V1.heap.size, 0, none⟩) R R, .int .i64 (w4 z (k + 32 + 32 * R)), .int .i64 (w4 z (k + 32 + 32 * R + 4)), .int .i64 (w4 z (k + 32 + 32 * R + 8)), .int .i64 (w4 z (k + 32 + 32 * R + 12)), .int .i64 (w4 z (k + 32 + 32 * R + 16)), .int .i64 (w4 z (k + 32 + 32 * R + 20)), .slice (some ⟨V3.heap.size, 0, none⟩) C C, .int .i64 (w4 z (k + 32 + 32 * R + 24 + 24 * C)), .int .i64 (w4 z (k + 32 + 32 * R + 24 + 24 * C + 4)), .slice none 0 0, .slice none 0 0, .int .i64 0, .int .i64 0, .int .i64 0, .slice none 0 0] : Array Value).getD i undef)) (fun i hi => by rcases (show i = 0 ∨ i = 1 ∨ i = 2 ∨ i = 3 ∨ i = 4 ∨ i = 5 ∨ i = 6 ∨ i = 7 ∨ i = 8 ∨ i = 9 ∨ i = 10 ∨ i = 11 ∨ i = 12 ∨ i = 13 ∨ i = 14 ∨ i = 15 ∨ i = 16 by omega) with rfl | rfl | rfl | rfl | rfl | rfl | rfl | rfl | rfl | rfl | rfl | rfl | rfl | rfl | rfl | rfl | rfl <;> rfl))
  have hsz_ : ((W6.setCell ⟨w.heap.size + 1 + 1, 9, none⟩ (.int .i64 (w4 z (k + 32 + 32 * R + 24 + 24 * C)))).setCell ⟨w.heap.size + 1 + 1, 10, none⟩ (.int .i64 (w4 z (k + 32 + 32 * R + 24 + 24 * C + 4)))).heap.size = W6.heap.size := by simp
  clear kS y9 u9 y10 u10 lo9
  clear xe0 xe1
  generalize (W6.setCell ⟨w.heap.size + 1 + 1, 9, none⟩ (.int .i64 (w4 z (k + 32 + 32 * R + 24 + 24 * C)))).setCell ⟨w.heap.size + 1 + 1, 10, none⟩ (.int .i64 (w4 z (k + 32 + 32 * R + 24 + 24 * C + 4))) = V5 at K0 RS RT RP HS hsz_ OG OW ⊢
  have hV5 : V4.heap.size ≤ V5.heap.size := by omega
  clear hsz_ HLP hW6 hbE hle hbE2
  
  have xs : V5.cell? ⟨w.heap.size, 1, none⟩ = some (.int .i64 (C : Int)) := by rw [← HC.out]; exact RS.out.cell (i := 1) (by omega)
  have xt0 : V5.cell? ⟨w.heap.size + 1, 0, none⟩ = some (.int .i64 (r : Int)) := RT.out.cell (i := 0) (by omega)
  have xt1 : V5.cell? ⟨w.heap.size + 1, 1, none⟩ = some (.int .i64 (q : Int)) := RT.out.cell (i := 1) (by omega)
  have xt2 : V5.cell? ⟨w.heap.size + 1, 2, none⟩ = some (.int .i64 g) := RT.out.cell (i := 2) (by omega)
  have hwc : IntKind.i64.wrap ((C : Int) - 1) = (C : Int) - 1 := by rw [IntKind.wrap_i64]; omega
  have HOP := hik (fun (W : World) (hS : Hid (RdS W 65 gr n cap (k + 32 + 32 * R + 24 + 24 * C + 8) z)) => (show Calls Tryz.prog 49 #[.pointer (some ⟨gr, 0, none⟩), .int .i64 ((C : Int) - 1), .agg #[.int .i64 (r : Int), .int .i64 (q : Int), .int .i64 g]] W (fun e w' => OrAns W 65 gr n cap (k + 32 + 32 * R + 24 + 24 * C + 8) (C - 1) r q z e w') from by
    have hcv : ((C : Int) - 1) = ((C - 1 : Nat) : Int) := by omega
    rw [hcv]
    exact rdOpening_any 65 gr n cap (k + 32 + 32 * R + 24 + 24 * C + 8) (C - 1) r q g z W hS hz (by omega) (by omega) r0 r1 q0 q1 (by have := HK.out.1; omega) HK.out.2 HC'.out))
  have KW := hik ((Chg.refl (RG gr) V5).drew1)
  have SA := hik (fun (WW : World) (kW : Chg (RG gr) V5 WW) => (show (WW.cell? ⟨w.heap.size, 1, none⟩ = some (.int .i64 (C : Int)) ∧ WW.cell? ⟨w.heap.size + 1, 0, none⟩ = some (.int .i64 (r : Int)) ∧ WW.cell? ⟨w.heap.size + 1, 1, none⟩ = some (.int .i64 (q : Int)) ∧ WW.cell? ⟨w.heap.size + 1, 2, none⟩ = some (.int .i64 g)) from ⟨kW.seeG xs (by unfold RG; omega), kW.seeG xt0 (by unfold RG; omega), kW.seeG xt1 (by unfold RG; omega), kW.seeG xt2 (by unfold RG; omega)⟩))
  refine wp_region_held_drew (S := fun w' => w'.cell? ⟨w.heap.size, 1, none⟩ = some (.int .i64 (C : Int)) ∧ w'.cell? ⟨w.heap.size + 1, 0, none⟩ = some (.int .i64 (r : Int)) ∧ w'.cell? ⟨w.heap.size + 1, 1, none⟩ = some (.int .i64 (q : Int)) ∧ w'.cell? ⟨w.heap.size + 1, 2, none⟩ = some (.int .i64 g)) (by kernel_rfl) (SA.out _ KW.out) (fun hHeld => ?_)
  refine wpAnyH_take (i := 0) (v := ?_) rfl (by kernel_rfl) (by kernel_rfl) (by kernel_rfl) (fun _ _ _ h => h) (Or.inl ⟨by rfl, ?_⟩) (by assumption) ?_
  rotate_left 1
  · (intro w' hSw; (try dsimp only at hSw); go_simp; try with_reducible rfl)
  try simp only [Act.put, List.setIfInBounds_toArray, List.set_cons_zero, List.set_cons_succ, List.getElem_toArray, List.getElem_cons_zero, List.getElem_cons_succ]
  refine wpAnyH_take (i := 1) (v := ?_) rfl (by kernel_rfl) (by kernel_rfl) (by kernel_rfl) (fun _ _ _ h => h) (Or.inl ⟨by rfl, ?_⟩) (by assumption) ?_
  rotate_left 1
  · (intro w' hSw; (try dsimp only at hSw); go_simp; try with_reducible rfl)
  try simp only [Act.put, List.setIfInBounds_toArray, List.set_cons_zero, List.set_cons_succ, List.getElem_toArray, List.getElem_cons_zero, List.getElem_cons_succ]
  refine wpAnyH_take (i := 2) (v := ?_) rfl (by kernel_rfl) (by kernel_rfl) (by kernel_rfl) (fun _ _ _ h => h) (Or.inl ⟨by rfl, ?_⟩) (by assumption) ?_
  rotate_left 1
  · (intro w' hSw; (try dsimp only at hSw); go_simp; try with_reducible rfl)
  try simp only [Act.put, List.setIfInBounds_toArray, List.set_cons_zero, List.set_cons_succ, List.getElem_toArray, List.getElem_cons_zero, List.getElem_cons_succ]
  refine wpAnyH_take (i := 3) (v := ?_) rfl (by kernel_rfl) (by kernel_rfl) (by kernel_rfl) (fun _ _ _ h => h) (Or.inl ⟨by rfl, ?_⟩) (by assumption) ?_
  rotate_left 1
  · (intro w' hSw; (try dsimp only at hSw); go_simp; try with_reducible rfl)
  try simp only [Act.put, List.setIfInBounds_toArray, List.set_cons_zero, List.set_cons_succ, List.getElem_toArray, List.getElem_cons_zero, List.getElem_cons_succ]
  refine wpAnyH_take (i := 4) (v := ?_) rfl (by kernel_rfl) (by kernel_rfl) (by kernel_rfl) (fun _ _ _ h => h) (Or.inl ⟨by rfl, ?_⟩) (by assumption) ?_
  rotate_left 1
  · (intro w' hSw; (try dsimp only at hSw); go_simp; try with_reducible rfl)
  try simp only [Act.put, List.setIfInBounds_toArray, List.set_cons_zero, List.set_cons_succ, List.getElem_toArray, List.getElem_cons_zero, List.getElem_cons_succ]
  refine wpAnyH_take (i := 5) (v := ?_) rfl (by kernel_rfl) (by kernel_rfl) (by kernel_rfl) (fun _ _ _ h => h) (Or.inl ⟨by rfl, ?_⟩) (by assumption) ?_
  rotate_left 1
  · (intro w' hSw; (try dsimp only at hSw); go_simp; try with_reducible rfl)
  try simp only [Act.put, List.setIfInBounds_toArray, List.set_cons_zero, List.set_cons_succ, List.getElem_toArray, List.getElem_cons_zero, List.getElem_cons_succ]
  refine wpAnyH_take (i := 6) (v := ?_) rfl (by kernel_rfl) (by kernel_rfl) (by kernel_rfl) (fun _ _ _ h => h) (Or.inl ⟨by rfl, ?_⟩) (by assumption) ?_
  rotate_left 1
  · (intro w' hSw; (try dsimp only at hSw); go_simp; try with_reducible rfl)
  try simp only [Act.put, List.setIfInBounds_toArray, List.set_cons_zero, List.set_cons_succ, List.getElem_toArray, List.getElem_cons_zero, List.getElem_cons_succ]
  refine wpAnyH_ready (rs := [7]) (by kernel_rfl) (by simp) ?_
  refine AllReadyH.cons rfl (fun K hK => ?_) AllReadyH.nil
  refine stepL_callN 49 #[.tmp 46, .tmp 49, .tmp 50] #[63, 3, 45] (by rfl) (by rfl) #[.pointer (some ⟨gr, 0, none⟩), .int .i64 ((C : Int) - 1), .agg #[.int .i64 (r : Int), .int .i64 (q : Int), .int .i64 g]] (by simp only [List.map_toArray, List.map_cons, List.map_nil] <;> rfl) (run_go Tryz.func49 (by kernel_rfl) (by kernel_rfl) _ _) (HOP.out _ (hik HS.out.dr)) ?_
  rintro e C3 ⟨bR, bT, bQ, he, oo, hs, kk⟩
  have OO := hik (show OpW C3 V5.heap.size C3.heap.size (rdO z (C - 1) r q (k + 32 + 32 * R + 24 + 24 * C + 8)) (some ⟨bR, 0, none⟩) (C - 1) (some ⟨bT, 0, none⟩) (C - 1 - 1) (some ⟨bQ, 0, none⟩) q from oo)
  have HS3 := hik hs
  have hk_ : V5.heap.size ≤ C3.heap.size := kk.size
  clear oo hs
  refine ⟨_, he, ?_⟩
  replace KW := hik (KW.out.trans kk)
  refine hK.out _ _ (SA.out _ KW.out) (fun hHeld => ?_)
  clear hK K
  try simp only [Act.put, List.setIfInBounds_toArray, List.set_cons_zero, List.set_cons_succ, List.getElem_toArray, List.getElem_cons_zero, List.getElem_cons_succ]
  clear he kk
  refine wpAnyH_take (i := 8) (v := ?_) rfl (by kernel_rfl) (by kernel_rfl) (by kernel_rfl) (fun _ _ _ h => h) (Or.inl ⟨by rfl, ?_⟩) (by assumption) ?_
  rotate_left 1
  · (intro w' hSw; (try dsimp only at hSw); go_simp; try with_reducible rfl)
  try simp only [Act.put, List.setIfInBounds_toArray, List.set_cons_zero, List.set_cons_succ, List.getElem_toArray, List.getElem_cons_zero, List.getElem_cons_succ]
  refine wpAnyH_ready (rs := [9]) (by kernel_rfl) (by simp) ?_
  refine AllReadyH.cons rfl (fun K hK => ?_) AllReadyH.nil
  replace HS := hik HS3.out
  clear HS3
  replace K0 := hik (K0.out.trans KW.out)
  replace RS := hik (rowIs_chg RS.out KW.out (fun e => by have e' : _ = gr := e; omega))
  replace RT := hik (rowIs_chg RT.out KW.out (fun e => by have e' : _ = gr := e; omega))
  replace OG := hik (OG.out.chg KW.out (fun y h1 h2 e => by have e' : y = gr := e; omega))
  replace OW := hik (OW.out.chg KW.out (fun y h1 h2 e => by have e' : y = gr := e; omega))
  replace RP := hik (rowIs_chg RP.out KW.out (fun e => by have e' : _ = gr := e; omega))
  have HLP := RP.out.lt
  have y11 : C3.cell? ⟨w.heap.size + 1 + 1, 11, none⟩ = some (.slice none 0 0) := RP.out.cell (i := 11) (by omega)
  have u11 := RP.out.frozen 11
  have y12 : C3.cell? ⟨w.heap.size + 1 + 1, 12, none⟩ = some (.slice none 0 0) := RP.out.cell (i := 12) (by omega)
  have u12 := RP.out.frozen 12
  have y13 : C3.cell? ⟨w.heap.size + 1 + 1, 13, none⟩ = some (.int .i64 0) := RP.out.cell (i := 13) (by omega)
  have u13 := RP.out.frozen 13
  have y14 : C3.cell? ⟨w.heap.size + 1 + 1, 14, none⟩ = some (.int .i64 0) := RP.out.cell (i := 14) (by omega)
  have u14 := RP.out.frozen 14
  have y15 : C3.cell? ⟨w.heap.size + 1 + 1, 15, none⟩ = some (.int .i64 0) := RP.out.cell (i := 15) (by omega)
  have u15 := RP.out.frozen 15
  have y16 : C3.cell? ⟨w.heap.size + 1 + 1, 16, none⟩ = some (.slice none 0 0) := RP.out.cell (i := 16) (by omega)
  have u16 := RP.out.frozen 16
  have lo9 := RP.out.lt
  
  simp only [List.getElem_toArray, List.getElem_cons_zero, List.getElem_cons_succ]
  go_simp
  have kS := (((((((Chg.refl (fun b => b = w.heap.size + 1 + 1) C3).setCell (p := ⟨w.heap.size + 1 + 1, 11, none⟩) (fun _ => rfl) (.slice (some ⟨bR, 0, none⟩) (C - 1) (C - 1))).setCell (p := ⟨w.heap.size + 1 + 1, 12, none⟩) (fun _ => rfl) (.slice (some ⟨bT, 0, none⟩) (C - 1 - 1) (C - 1 - 1))).setCell (p := ⟨w.heap.size + 1 + 1, 13, none⟩) (fun _ => rfl) (.int .i64 (rdO z (C - 1) r q (k + 32 + 32 * R + 24 + 24 * C + 8)).la)).setCell (p := ⟨w.heap.size + 1 + 1, 14, none⟩) (fun _ => rfl) (.int .i64 (rdO z (C - 1) r q (k + 32 + 32 * R + 24 + 24 * C + 8)).lb)).setCell (p := ⟨w.heap.size + 1 + 1, 15, none⟩) (fun _ => rfl) (.int .i64 (rdO z (C - 1) r q (k + 32 + 32 * R + 24 + 24 * C + 8)).no)).setCell (p := ⟨w.heap.size + 1 + 1, 16, none⟩) (fun _ => rfl) (.slice (some ⟨bQ, 0, none⟩) q q))
  replace K0 := hik (K0.out.nearR kS (fun y e => .inr (by have e' : y = w.heap.size + 1 + 1 := e; omega)))
  replace RS := hik (rowIs_chg RS.out kS (fun e => by have e' : _ = w.heap.size + 1 + 1 := e; omega))
  replace RT := hik (rowIs_chg RT.out kS (fun e => by have e' : _ = w.heap.size + 1 + 1 := e; omega))
  replace OG := hik (OG.out.chg kS (fun y h1 h2 e => by have e' : y = w.heap.size + 1 + 1 := e; omega))
  replace OW := hik (OW.out.chg kS (fun y h1 h2 e => by have e' : y = w.heap.size + 1 + 1 := e; omega))
  replace OO := hik (OO.out.chg kS (fun y h1 h2 e => by have e' : y = w.heap.size + 1 + 1 := e; omega))
  replace HS := hik (HS.out.chg kS (fun e => by have e' : gr = w.heap.size + 1 + 1 := e; omega) (fun b hb e => by have e' : b = w.heap.size + 1 + 1 := e; omega))
  replace RP := hik (((((((RP.out.set 11 (.slice (some ⟨bR, 0, none⟩) (C - 1) (C - 1))).set 12 (.slice (some ⟨bT, 0, none⟩) (C - 1 - 1) (C - 1 - 1))).set 13 (.int .i64 (rdO z (C - 1) r q (k + 32 + 32 * R + 24 + 24 * C + 8)).la)).set 14 (.int .i64 (rdO z (C - 1) r q (k + 32 + 32 * R + 24 + 24 * C + 8)).lb)).set 15 (.int .i64 (rdO z (C - 1) r q (k + 32 + 32 * R + 24 + 24 * C + 8)).no)).set 16 (.slice (some ⟨bQ, 0, none⟩) q q)).congr (g := (fun i => (#[.string (tz9 z k 0), .slice (some ⟨V1.heap.size, 0, none⟩) R R, .int .i64 (w4 z (k + 32 + 32 * R)), .int .i64 (w4 z (k + 32 + 32 * R + 4)), .int .i64 (w4 z (k + 32 + 32 * R + 8)), .int .i64 (w4 z (k + 32 + 32 * R + 12)), .int .i64 (w4 z (k + 32 + 32 * R + 16)), .int .i64 (w4 z (k + 32 + 32 * R + 20)), .slice (some ⟨V3.heap.size, 0, none⟩) C C, .int .i64 (w4 z (k + 32 + 32 * R + 24 + 24 * C)), .int .i64 (w4 z (k + 32 + 32 * R + 24 + 24 * C + 4)), .slice (some ⟨bR, 0, none⟩) (C - 1) (C - 1), .slice (some ⟨bT, 0, none⟩) (C - 1 - 1) (C - 1 - 1), .int .i64 (rdO z (C - 1) r q (k + 32 + 32 * R + 24 + 24 * C + 8)).la, .int .i64 (rdO z (C - 1) r q (k + 32 + 32 * R + 24 + 24 * C + 8)).lb, .int .i64 (rdO z (C - 1) r q (k + 32 + 32 * R + 24 + 24 * C + 8)).no, .slice (some ⟨bQ, 0, none⟩) q q] : Array Value).getD i undef)) (fun i hi => by rcases (show i = 0 ∨ i = 1 ∨ i = 2 ∨ i = 3 ∨ i = 4 ∨ i = 5 ∨ i = 6 ∨ i = 7 ∨ i = 8 ∨ i = 9 ∨ i = 10 ∨ i = 11 ∨ i = 12 ∨ i = 13 ∨ i = 14 ∨ i = 15 ∨ i = 16 by omega) with rfl | rfl | rfl | rfl | rfl | rfl | rfl | rfl | rfl | rfl | rfl | rfl | rfl | rfl | rfl | rfl | rfl <;> rfl))
  have hsz_ : ((((((C3.setCell ⟨w.heap.size + 1 + 1, 11, none⟩ (.slice (some ⟨bR, 0, none⟩) (C - 1) (C - 1))).setCell ⟨w.heap.size + 1 + 1, 12, none⟩ (.slice (some ⟨bT, 0, none⟩) (C - 1 - 1) (C - 1 - 1))).setCell ⟨w.heap.size + 1 + 1, 13, none⟩ (.int .i64 (rdO z (C - 1) r q (k + 32 + 32 * R + 24 + 24 * C + 8)).la)).setCell ⟨w.heap.size + 1 + 1, 14, none⟩ (.int .i64 (rdO z (C - 1) r q (k + 32 + 32 * R + 24 + 24 * C + 8)).lb)).setCell ⟨w.heap.size + 1 + 1, 15, none⟩ (.int .i64 (rdO z (C - 1) r q (k + 32 + 32 * R + 24 + 24 * C + 8)).no)).setCell ⟨w.heap.size + 1 + 1, 16, none⟩ (.slice (some ⟨bQ, 0, none⟩) q q)).heap.size = C3.heap.size := by simp
  clear kS y11 u11 y12 u12 y13 u13 y14 u14 y15 u15 y16 u16 lo9
  clear SA hHeld KW
  generalize (((((C3.setCell ⟨w.heap.size + 1 + 1, 11, none⟩ (.slice (some ⟨bR, 0, none⟩) (C - 1) (C - 1))).setCell ⟨w.heap.size + 1 + 1, 12, none⟩ (.slice (some ⟨bT, 0, none⟩) (C - 1 - 1) (C - 1 - 1))).setCell ⟨w.heap.size + 1 + 1, 13, none⟩ (.int .i64 (rdO z (C - 1) r q (k + 32 + 32 * R + 24 + 24 * C + 8)).la)).setCell ⟨w.heap.size + 1 + 1, 14, none⟩ (.int .i64 (rdO z (C - 1) r q (k + 32 + 32 * R + 24 + 24 * C + 8)).lb)).setCell ⟨w.heap.size + 1 + 1, 15, none⟩ (.int .i64 (rdO z (C - 1) r q (k + 32 + 32 * R + 24 + 24 * C + 8)).no)).setCell ⟨w.heap.size + 1 + 1, 16, none⟩ (.slice (some ⟨bQ, 0, none⟩) q q) = V6 at K0 RS RT RP HS hsz_ OG OW OO ⊢
  have hV6 : C3.heap.size ≤ V6.heap.size := by omega
  clear hsz_ HLP
  refine hK.out _ _ (show V6.cell? ⟨w.heap.size, 1, none⟩ = some (.int .i64 (C : Int)) ∧ V6.cell? ⟨w.heap.size + 1, 0, none⟩ = some (.int .i64 (r : Int)) ∧ V6.cell? ⟨w.heap.size + 1, 1, none⟩ = some (.int .i64 (q : Int)) ∧ V6.cell? ⟨w.heap.size + 1, 2, none⟩ = some (.int .i64 g) from ⟨by rw [← HC.out]; exact RS.out.cell (i := 1) (by omega), RT.out.cell (i := 0) (by omega), RT.out.cell (i := 1) (by omega), RT.out.cell (i := 2) (by omega)⟩) (fun hHeld => ?_)
  clear hK K
  try simp only [Act.put, List.setIfInBounds_toArray, List.set_cons_zero, List.set_cons_succ, List.getElem_toArray, List.getElem_cons_zero, List.getElem_cons_succ]
  refine wpAnyH_done (by kernel_rfl) ?_ _
  clear hHeld xs xt0 xt1 xt2 HOP HS hwc
  replace OG := hik (show ((rdP z R C r q k)).G.Own V6 V1.heap.size C1.heap.size (.slice ((⟨some ⟨V1.heap.size, 0, none⟩, R, some ⟨V3.heap.size, 0, none⟩, C, some ⟨bR, 0, none⟩, C - 1, some ⟨bT, 0, none⟩, C - 1 - 1, some ⟨bQ, 0, none⟩, q⟩ : PA)).cG ((rdP z R C r q k)).ng ((⟨some ⟨V1.heap.size, 0, none⟩, R, some ⟨V3.heap.size, 0, none⟩, C, some ⟨bR, 0, none⟩, C - 1, some ⟨bT, 0, none⟩, C - 1 - 1, some ⟨bQ, 0, none⟩, q⟩ : PA)).pG) from OG.out)
  replace OW := hik (show ((rdP z R C r q k)).W.Own V6 V3.heap.size C2.heap.size (.slice ((⟨some ⟨V1.heap.size, 0, none⟩, R, some ⟨V3.heap.size, 0, none⟩, C, some ⟨bR, 0, none⟩, C - 1, some ⟨bT, 0, none⟩, C - 1 - 1, some ⟨bQ, 0, none⟩, q⟩ : PA)).cW ((rdP z R C r q k)).nw ((⟨some ⟨V1.heap.size, 0, none⟩, R, some ⟨V3.heap.size, 0, none⟩, C, some ⟨bR, 0, none⟩, C - 1, some ⟨bT, 0, none⟩, C - 1 - 1, some ⟨bQ, 0, none⟩, q⟩ : PA)).pW) from OW.out)
  replace OO := hik (show OpW V6 V5.heap.size C3.heap.size ((rdP z R C r q k)).op ((⟨some ⟨V1.heap.size, 0, none⟩, R, some ⟨V3.heap.size, 0, none⟩, C, some ⟨bR, 0, none⟩, C - 1, some ⟨bT, 0, none⟩, C - 1 - 1, some ⟨bQ, 0, none⟩, q⟩ : PA)).cR ((⟨some ⟨V1.heap.size, 0, none⟩, R, some ⟨V3.heap.size, 0, none⟩, C, some ⟨bR, 0, none⟩, C - 1, some ⟨bT, 0, none⟩, C - 1 - 1, some ⟨bQ, 0, none⟩, q⟩ : PA)).pR ((⟨some ⟨V1.heap.size, 0, none⟩, R, some ⟨V3.heap.size, 0, none⟩, C, some ⟨bR, 0, none⟩, C - 1, some ⟨bT, 0, none⟩, C - 1 - 1, some ⟨bQ, 0, none⟩, q⟩ : PA)).cT ((⟨some ⟨V1.heap.size, 0, none⟩, R, some ⟨V3.heap.size, 0, none⟩, C, some ⟨bR, 0, none⟩, C - 1, some ⟨bT, 0, none⟩, C - 1 - 1, some ⟨bQ, 0, none⟩, q⟩ : PA)).pT ((⟨some ⟨V1.heap.size, 0, none⟩, R, some ⟨V3.heap.size, 0, none⟩, C, some ⟨bR, 0, none⟩, C - 1, some ⟨bT, 0, none⟩, C - 1 - 1, some ⟨bQ, 0, none⟩, q⟩ : PA)).cQ ((⟨some ⟨V1.heap.size, 0, none⟩, R, some ⟨V3.heap.size, 0, none⟩, C, some ⟨bR, 0, none⟩, C - 1, some ⟨bT, 0, none⟩, C - 1 - 1, some ⟨bQ, 0, none⟩, q⟩ : PA)).pQ from OO.out)
  replace RP := hik (World.rowIs.congr RP.out (g := pfv (rdP z R C r q k) (⟨some ⟨V1.heap.size, 0, none⟩, R, some ⟨V3.heap.size, 0, none⟩, C, some ⟨bR, 0, none⟩, C - 1, some ⟨bT, 0, none⟩, C - 1 - 1, some ⟨bQ, 0, none⟩, q⟩ : PA)) (fun i hi => by
    have hi' : i < 17 := hi
    rcases (show i = 0 ∨ i = 1 ∨ i = 2 ∨ i = 3 ∨ i = 4 ∨ i = 5 ∨ i = 6 ∨ i = 7 ∨ i = 8 ∨ i = 9 ∨ i = 10 ∨ i = 11 ∨ i = 12 ∨ i = 13 ∨ i = 14 ∨ i = 15 ∨ i = 16 by omega) with rfl | rfl | rfl | rfl | rfl | rfl | rfl | rfl | rfl | rfl | rfl | rfl | rfl | rfl | rfl | rfl | rfl <;> rfl))
  generalize (⟨some ⟨V1.heap.size, 0, none⟩, R, some ⟨V3.heap.size, 0, none⟩, C, some ⟨bR, 0, none⟩, C - 1, some ⟨bT, 0, none⟩, C - 1 - 1, some ⟨bQ, 0, none⟩, q⟩ : PA) = a at OG OW OO RP
  generalize hp9 : (rdP z R C r q k) = p at OG OW OO RP HSM
  have KOK := hik (fun (W : World) (kW : Chg nob V6 W) => proofOK_row p a s y (r : Int) (q : Int) g W (hik (PrV.keep (PrO.rep (PrO.lay (lo := w.heap.size) (hi := C3.heap.size) (by omega) OG.out (by omega) OW.out (by omega) OO.out (by omega) (by omega) (by omega) (by omega))) kW)) HSM (hik (HVW.out W (K0.out.trans (Chg.wide kW)))) hsy)
  have xs0 : V6.cell? ⟨w.heap.size, 0, none⟩ = some (.int .i64 s.r) := RS.out.cell (i := 0) (by omega)
  have xs1 : V6.cell? ⟨w.heap.size, 1, none⟩ = some (.int .i64 s.q) := RS.out.cell (i := 1) (by omega)
  have xs2 : V6.cell? ⟨w.heap.size, 2, none⟩ = some (.int .i64 s.p) := RS.out.cell (i := 2) (by omega)
  have xs3 : V6.cell? ⟨w.heap.size, 3, none⟩ = some (.slice y.cA s.nA y.pA) := RS.out.cell (i := 3) (by omega)
  have xs4 : V6.cell? ⟨w.heap.size, 4, none⟩ = some (.slice y.cB s.nB y.pB) := RS.out.cell (i := 4) (by omega)
  have xs5 : V6.cell? ⟨w.heap.size, 5, none⟩ = some (.slice y.cC s.nC y.pC) := RS.out.cell (i := 5) (by omega)
  have xt0 : V6.cell? ⟨w.heap.size + 1, 0, none⟩ = some (.int .i64 (r : Int)) := RT.out.cell (i := 0) (by omega)
  have xt1 : V6.cell? ⟨w.heap.size + 1, 1, none⟩ = some (.int .i64 (q : Int)) := RT.out.cell (i := 1) (by omega)
  have xt2 : V6.cell? ⟨w.heap.size + 1, 2, none⟩ = some (.int .i64 g) := RT.out.cell (i := 2) (by omega)
  go_wp2_with (first | ((with_reducible refine wpList_load_row rfl 37 (.tmp 6) rfl (w.heap.size + 1 + 1) ?hx 37 (rowA 17 (pfv p a)) (0, 0) _ (rowA_of RP.out) Tryz.underlying37 rfl (by rw [rowA_size]; exact infoPf) ?_); (case hx => rfl)))
  clear xs0 xs1 xs2 xs3 xs4 xs5 xt0 xt1 xt2
  refine (KOK.out _ (Chg.refl _ _)).mono ?_
  rintro e W7 ⟨rfl, kk⟩
  replace K0 := hik (K0.out.trans (Chg.wide kk))
  replace RP := hik (rowIs_keep RP.out kk)
  replace OG := hik (OG.out.keep kk)
  replace OW := hik (OW.out.keep kk)
  replace OO := hik (OO.out.keep kk)
  have hW7 := kk.size
  clear kk KOK RS RT
  go_wp2_with (first | ((with_reducible refine wpList_load_row rfl 37 (.tmp 6) rfl (w.heap.size + 1 + 1) ?hx 37 (rowA 17 (pfv p a)) (0, 0) _ (rowA_of RP.out) Tryz.underlying37 rfl (by rw [rowA_size]; exact infoPf) ?_); (case hx => rfl)) | ((with_reducible refine wpList_store_all 37 (.tmp 6) (.tmp 57) rfl rfl (w.heap.size + 1 + 1) 17 (pfv p a) ?hx ?hy 37 _ RP.out infoPf (pfv_one p _) ?_); (case hx => rfl); (case hy => rfl); intro WE r9 g9))
  replace OG := hik (OG.out.chg g9 (fun y h1 h2 e => by have e' : y = w.heap.size + 1 + 1 := e; omega))
  replace OW := hik (OW.out.chg g9 (fun y h1 h2 e => by have e' : y = w.heap.size + 1 + 1 := e; omega))
  replace OO := hik (OO.out.chg g9 (fun y h1 h2 e => by have e' : y = w.heap.size + 1 + 1 := e; omega))
  have KE := hik (K0.out.nearR g9 (fun y e => .inr (by have e' : y = w.heap.size + 1 + 1 := e; omega)))
  have HSE := g9.size
  subst hp9
  exact bodyPost_ret (results_row_tmp Tryz.results23 _ _ (w.heap.size + 1 + 1) 37 (rowA 17 (pfv (rdP z R C r q k) a)) (0, 0) _ rfl (rowA_of r9) Tryz.underlying37 rfl (by rw [rowA_size]; exact infoPf)) rfl ⟨a, rfl, PrO.lay (by omega) OG.out (by omega) OW.out (by omega) OO.out (by omega) (by omega) (by omega) (by omega), KE.out⟩

end Go.Proofs.YtppiilbcnkphbaaGreat

namespace Go.Proofs.YtppiilbcnkphbaaGreat
open Go.ChangeShapes Go.WideShapes Go.ChangeAt Go.RowKit
set_option linter.unusedVariables false
set_option maxRecDepth 100000
set_option linter.unusedSimpArgs false


end Go.Proofs.YtppiilbcnkphbaaGreat
