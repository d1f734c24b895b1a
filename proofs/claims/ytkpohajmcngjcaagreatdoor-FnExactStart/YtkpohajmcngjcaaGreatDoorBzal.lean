/- Several texts in one: Trees of hashes as plain functions on texts. No program is named here but by what is imported. · What Keccak256 answers: a contract. Conditions: bytes that can be read; the tables hold the shifts and the rounds' constants. · What the program's hash of a text is: a contract. Conditions: a text of at most 65536 bytes; the tables hold the shifts and the rounds' constants. · What ExtBytes answers: a contract. Condition: a row that can be read. -/
import Derived.Test.YtkpohajmcngjcaaGreatDoorBzak
import Derived.Test.YtkpohajmcngjcaaGreatDoorBzaj
import Derived.Deep.RegionWith
import Derived.Deep.RegionHeld3
import Derived.Deep.DeepCutAuto
import Derived.Deep.CutBlock
import Derived.Deep.DrawnRows
import Derived.Test.YtkpohajmcngjcaaGreatDoorBzae
namespace Go.Proofs.YtkpohajmcngjcaaGreatDoor

/-- The hash of a text. -/
def hsh (s : ByteArray) : ByteArray := bt (lb (hst (pd (zs s) s.size) (s.size / 136 + 1))) 32
theorem hsh_size (s : ByteArray) : (hsh s).size = 32 := bt_size _ _
/-- What is hashed of a leaf, of a node. -/
def lfT (t : ByteArray) : ByteArray := ⟨#[0]⟩ ++ t
def lf (t : ByteArray) : ByteArray := hsh (lfT t)

end Go.Proofs.YtkpohajmcngjcaaGreatDoor

namespace Go.Proofs.YtkpohajmcngjcaaGreatDoor
open Go.ChangeShapes Go.WideShapes Go.ChangeAt Go.RowKit
set_option linter.unusedVariables false
set_option linter.unusedSimpArgs false

/-- The hash of a message. -/
def kh (z : Nat → Int) (n : Nat) : ByteArray := if 65536 < n then ⟨#[]⟩ else bt (lb (hst (pd z n) (n / 136 + 1))) 32
theorem run_load_all {P : Program} {w : World} {g n : Nat} {t e : TypeId} {f : Nat → Value} (hr : w.rowIs g t n f) (hu : P.underlying t = some (.array n e)) (hi : (P.info? t).map (·.size) = some n) :
    (Instr.loadAt t (.pointer (some ⟨g, 0, none⟩))).run P w = .ok (.agg (rowA n f)) w := by
  simp only [Instr.loadAt, Instr.sureAddr, Sem.run_bind, Sem.run_pure, Result.andThen]
  exact run_loadVar_row w g t t (rowA n f) (0, 0) (.array n e) (rowA_of hr) hu rfl (by rw [rowA_size]; exact hi)
theorem run_store_all {P : Program} {w : World} {g n : Nat} {t : TypeId} {f f0 : Nat → Value} (hr : w.rowIs g t n f0) (hi : (P.info? t).map (·.size) = some n) (h1 : ∀ i, i < n → (f i).oneCell' = true) :
    (Instr.storeAt t (.pointer (some ⟨g, 0, none⟩)) (.agg (rowA n f))).run P w = .ok () (w.setRow g (rowA n f)) := by
  simp only [Instr.storeAt, Instr.sureAddr, Sem.run_bind, Sem.run_pure, Result.andThen]
  refine run_storeVar_row w g t t (rowA n f0) (rowA n f) (rowA_of hr) (by rw [rowA_size]; exact hi) (by rw [rowA_size, rowA_size]) ?_
  rw [Array.all_eq_true_iff_forall_mem]
  intro v hv
  simp only [rowA, List.mem_toArray, List.mem_map, List.mem_range] at hv
  obtain ⟨i, hi, rfl⟩ := hv
  exact h1 i hi
theorem rowIs_setRow {w : World} {g n : Nat} {t : TypeId} {f f0 : Nat → Value} (hr : w.rowIs g t n f0) : (w.setRow g (rowA n f)).rowIs g t n f := rowIs_of (setRow_row (rowA_of hr) _)
theorem chg_setRow (w : World) (g : Nat) (c : Array Value) : Chg (fun b => b = g) w (w.setRow g c) :=
  ⟨rfl, rfl, rfl, by simp [World.setRow], fun k hk hp => by
    simp only [World.setRow, Array.getElem?_modify]
    rw [if_neg (fun e => hp e.symm)]⟩

/-- A whole state out of memory, into memory. -/
def loadLn (v : Value) : Sem Value := Instr.loadAt 171 v
def storeLn (v x : Value) : Sem Unit := Instr.storeAt 171 v x
theorem exec_loadLn (a : Act) (dst : Option Tmp) (x : Operand) (ty : TypeId) (pos : String) (after : Array Edge) (guard : Option (Nat × Bool)) :
    execOp a.eval { dst, op := .load 171 x, type := ty, pos, after, guard } = (do pure (.value (← loadLn (a.eval x)))) := rfl
theorem exec_storeLn (a : Act) (dst : Option Tmp) (x y : Operand) (ty : TypeId) (pos : String) (after : Array Edge) (guard : Option (Nat × Bool)) :
    execOp a.eval { dst, op := .store 171 x y, type := ty, pos, after, guard } = (do storeLn (a.eval x) (a.eval y); pure .skip) := rfl
attribute [local go_sem ↓] exec_loadLn exec_storeLn Go.wp_at_zero Go.wp_at_succ

theorem pd_mid (z : Nat → Int) (n j i : Nat) (h : 136 * j + i < n) : z (136 * j + i) = blk (pd z n) j i := by
  have := pn_gt n
  unfold blk pd pz
  rw [if_neg (by omega), if_pos h]

theorem lbz_B (z : Nat → Int) (j k i : Nat) (hz : isB z) (hk : k < 136) : 0 ≤ lbz (fun i => z (136 * j + i)) k i ∧ lbz (fun i => z (136 * j + i)) k i < 256 := by
  have h := hz (136 * j + i)
  unfold lbz
  dsimp only
  repeat' split
  all_goals omega

set_option maxRecDepth 100000 in
set_option maxHeartbeats 4000000 in
theorem keccak_any (c : Option Addr) (n cap : Nat) (z : Nat → Int) (w : World) (hv : Hid (RowV w c n (bb z))) (hz : Hid (isB z)) (ht : Hid (Tabs w)) (hn : n ≤ 1099511627776) (hcap : n ≤ cap) (hcm : (cap : Int) ≤ 9223372036854775807) :
    Calls Tryz.prog 119 #[.slice c n cap] w fun e w' => e = .returned (.string (bt (lb (hst (pd z n) (n / 136 + 1))) 32)) ∧ Chg nob w w' := by
  have HI := hik infoL
  have HP := hik (pd_B z n hz.out)
  go_enter Tryz.func119, Tryz.ntmps119
  go_wp2
  go_loopw [0] (fun v W => ∃ (j k cap' : Nat) (c' : Option Addr), n = 136 * j + k ∧ k ≤ cap' ∧ (cap' : Int) ≤ 9223372036854775807 ∧ v = .slice c' k cap' ∧ Hid (RowV w c' k (bb (fun i => z (136 * j + i)))) ∧ Hid (W.rowIs w.heap.size 171 25 (lv (hst (pd z n) j))) ∧ Hid (Chg nob w W)) (fun v _ => match v with | .slice _ k _ => k | _ => 0)
  case atStart => exact ⟨0, n, cap, c, by omega, hcap, hcm, rfl, hik (hv.out.congr (fun i _ => by unfold bb; simp)), hik (rowIs_at _ _ rfl 25 _ _ _ rfl), hik ((Chg.refl _ _).alloc _)⟩
  case round =>
    obtain ⟨j, k, cap', c', hnk, hkc, hcm', rfl, HV, HS, HG⟩ := hrel
    have HN := hik hnk
    by_cases hlt : 136 ≤ k
    · have hlt' : (136 : Int) ≤ (k : Int) := by omega
      have hkc' : (k : Int) ≤ (cap' : Int) := by omega
      have hc136 : (136 : Int) ≤ (cap' : Int) := by omega
      obtain ⟨xb, xo, rfl, hxb, hcell⟩ := HV.out.all (by omega)
      have HX := hik hcell
      clear hcell hnk
      have hld : (loadLn (.pointer (some ⟨w.heap.size, 0, none⟩))).run Tryz.prog wr.drew = .ok (.agg (rowA 25 (lv (hst (pd z n) j)))) wr.drew := run_load_all (P := Tryz.prog) (w := wr.drew) HS.out Tryz.underlying171 HI.out
      have hcv := convB (some ⟨xb, xo, none⟩) 136 cap' (fun i => z (136 * j + i)) wr.drew (RowV.keep (show RowV w (some ⟨xb, xo, none⟩) 136 _ from fun i hi => ⟨xb, xo, rfl, hxb, HX.out i (by omega)⟩) HG.out.drew1)
      go_wp2
      go_region_with (first | (go_at_call 129; refine (taking_any (hst (pd z n) j) (bt (fun i => z (136 * j + i)) 136) _ (by rw [bt_size]; omega)).mono ?_; rintro e W1 ⟨rfl, k1⟩; have G1 := hik (HG.out.drew1.trans k1); have S1 := hik (rowIs_keep HS.out.drew k1); clear k1) | (go_at_call 130; refine (permuted_any _ _ (hik (ht.out.keep G1.out))).mono ?_; rintro e W2 ⟨rfl, k2⟩; have G2 := hik (G1.out.trans k2); have S2 := hik (rowIs_keep S1.out k2); clear k2; have hst2 : (storeLn (.pointer (some ⟨w.heap.size, 0, none⟩)) (.agg (la (prm (tk (hst (pd z n) j) (zs (bt (fun i => z (136 * j + i)) 136)) (bt (fun i => z (136 * j + i)) 136).size) 24)))).run Tryz.prog W2 = .ok () (W2.setRow w.heap.size (la (prm (tk (hst (pd z n) j) (zs (bt (fun i => z (136 * j + i)) 136)) (bt (fun i => z (136 * j + i)) 136).size) 24))) := run_store_all (P := Tryz.prog) S2.out HI.out (fun i _ => lv_one _ i)))
      all_goals
        have HR := hik ((rowIs_setRow (f := lv (prm (tk (hst (pd z n) j) (zs (bt (fun i => z (136 * j + i)) 136)) (bt (fun i => z (136 * j + i)) 136).size) 24)) S2.out).congr (g := lv (hst (pd z n) (j + 1))) (fun i hi => by
          unfold lv
          rw [bt_size, hst_take (pd z n) HP.out j (zs (bt (fun i => z (136 * j + i)) 136)) (fun i hi => (bt_zs (fun i => z (136 * j + i)) 136 i hi (hz.out _).1 (hz.out _).2).trans (pd_mid z n j i (by have := HN.out; omega))) i hi]))
        have HG2 := hik (G2.out.near (chg_setRow W2 w.heap.size (la (prm (tk (hst (pd z n) j) (zs (bt (fun i => z (136 * j + i)) 136)) (bt (fun i => z (136 * j + i)) 136).size) 24))) (fun i e => by omega))
        clear hst2 S2 G2 S1 G1
        by_cases hq : cap' = 136
        · have hq' : (cap' : Int) = 136 := by omega
          have hk6 : k = 136 := by omega
          subst hk6
          subst hq
          go_wp2
          go_roundw
          case rel => exact ⟨j + 1, 0, 0, _, by have := HN.out; omega, by omega, by omega, rfl, hik (fun i hi => absurd hi (by omega)), HR, HG2⟩
          case measure => simp
        · have hq' : (136 : Int) < (cap' : Int) := by omega
          have hq2 : ¬ (cap' : Int) - 136 = 0 := by omega
          have hq3 : ¬ cap' - 136 = 0 := by omega
          go_wp2
          go_roundw
          case rel => exact ⟨j + 1, k - 136, cap' - 136, some ⟨xb, xo + 136, none⟩, by have := HN.out; omega, by omega, by omega, rfl, hik (fun i hi => ⟨xb, xo + 136, rfl, hxb, by
            have q := HX.out (136 + i) (by omega)
            rw [← Nat.add_assoc] at q
            rw [q]
            show some (Value.int .u8 (z (136 * j + (136 + i)))) = some (Value.int .u8 (z (136 * (j + 1) + i)))
            rw [show 136 * j + (136 + i) = 136 * (j + 1) + i by omega]⟩), HR, HG2⟩
          case measure => simp; omega
    · have hlt' : ¬ (136 : Int) ≤ (k : Int) := by omega
      have hj : j = n / 136 := by omega
      have hk : k = n - 136 * (n / 136) := by omega
      have HJ := hik hj
      have HKK := hik hk
      clear hnk hj hk
      have hld : (loadLn (.pointer (some ⟨w.heap.size, 0, none⟩))).run Tryz.prog wr.drew = .ok (.agg (rowA 25 (lv (hst (pd z n) j)))) wr.drew := run_load_all (P := Tryz.prog) (w := wr.drew) HS.out Tryz.underlying171 HI.out
      go_wp2
      go_region_with (first | (go_at_call 131; refine (lastBlock_any c' k cap' (fun i => z (136 * j + i)) _ (hik (HV.out.keep HG.out.drew1)) (by omega)).mono ?_; rintro e W1 ⟨rfl, k1⟩; have G1 := hik (HG.out.drew1.trans k1); have hld1 : (loadLn (.pointer (some ⟨w.heap.size, 0, none⟩))).run Tryz.prog W1 = .ok (.agg (rowA 25 (lv (hst (pd z n) j)))) W1 := run_load_all (P := Tryz.prog) (w := W1) (rowIs_keep HS.out.drew k1) Tryz.underlying171 HI.out; clear k1) | (go_at_call 129; refine (taking_any (hst (pd z n) j) (bt (lbz (fun i => z (136 * j + i)) k) 136) _ (by rw [bt_size]; omega)).mono ?_; rintro e W2 ⟨rfl, k2⟩; have G2 := hik (G1.out.trans k2); clear k2) | (go_at_call 130; refine (permuted_any _ _ (hik (ht.out.keep G2.out))).mono ?_; rintro e W3 ⟨rfl, k3⟩; have G3 := hik (G2.out.trans k3); clear k3) | (go_at_call 132; refine (firstBytes_any _ 32 _ (by omega)).mono ?_; rintro e W4 ⟨rfl, k4⟩; have G4 := hik (G3.out.trans k4); clear k4))
      all_goals
        go_wp2
        go_ret
        refine ⟨ret_of (congrArg Value.string ?_), G4.out⟩
        rw [bt_size]
        apply bt_congr
        intro i hi
        have hs := hst_take (pd z n) HP.out j (zs (bt (lbz (fun i => z (136 * j + i)) k) 136)) (fun i hi => (bt_zs (lbz (fun i => z (136 * j + i)) k) 136 i hi (lbz_B z j k i hz.out (by omega)).1 (lbz_B z j k i hz.out (by omega)).2).trans (by rw [HJ.out, HKK.out]; exact lbz_blk z n i hi))
        unfold lb by8
        rw [hs (i / 8) (by omega), HJ.out]

set_option maxHeartbeats 1000000 in
theorem keccak256_any (c : Option Addr) (n cap : Nat) (z : Nat → Int) (w : World) (hv : Hid (RowV w c n (bb z))) (hz : Hid (isB z)) (ht : Hid (Tabs w)) (hn : n ≤ 1099511627776) (hcap : n ≤ cap) (hcm : (cap : Int) ≤ 9223372036854775807) :
    Calls Tryz.prog 122 #[.slice c n cap] w fun e w' => e = .returned (.string (kh z n)) ∧ Chg nob w w' := by
  by_cases h1 : 65536 < n
  · have h1' : 65536 < (n : Int) := by omega
    have hp : kh z n = ⟨#[]⟩ := by unfold kh; rw [if_pos h1]
    rw [hp]
    go_enter Tryz.func122, Tryz.ntmps122
    go_wp2
    go_ret
    exact ⟨rfl, Chg.refl _ _⟩
  have h1' : ¬ 65536 < (n : Int) := by omega
  have hp : kh z n = bt (lb (hst (pd z n) (n / 136 + 1))) 32 := by unfold kh; rw [if_neg h1]
  rw [hp]
  clear hp h1
  go_enter Tryz.func122, Tryz.ntmps122
  go_wp2_with (go_at_call 119; refine (keccak_any c n cap z _ hv hz ht hn hcap hcm).mono ?_; rintro e W1 ⟨rfl, k1⟩)
  go_ret
  exact ⟨rfl, k1⟩

end Go.Proofs.YtkpohajmcngjcaaGreatDoor

namespace Go.Proofs.YtkpohajmcngjcaaGreatDoor
open Go.ChangeShapes Go.WideShapes Go.ChangeAt Go.RowKit
set_option linter.unusedVariables false
set_option maxRecDepth 100000
set_option linter.unusedSimpArgs false

theorem kh_text (s : ByteArray) (h : s.size ≤ 65536) : kh (zs s) s.size = hsh s := by unfold kh hsh; rw [if_neg (by omega)]


end Go.Proofs.YtkpohajmcngjcaaGreatDoor

namespace Go.Proofs.YtkpohajmcngjcaaGreatDoor
open Go.ChangeShapes Go.WideShapes Go.ChangeAt Go.RowKit
set_option linter.unusedVariables false
set_option linter.unusedSimpArgs false


end Go.Proofs.YtkpohajmcngjcaaGreatDoor
