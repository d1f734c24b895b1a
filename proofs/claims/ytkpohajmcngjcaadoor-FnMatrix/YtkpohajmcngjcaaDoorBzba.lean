/- Several texts in one: The answers of the calls on tables, plain: codes, lengths, values. No condition but those that each theorem states. · What the model's MatrixAt answers: a contract. Conditions: rows that can be read, lengths of at most 2 to the 40. -/
import Derived.Test.YtkpohajmcngjcaaDoorBzaz
import Derived.Test.YtkpohajmcngjcaaDoorBzay
import Derived.Test.YtkpohajmcngjcaaDoorBzav
namespace Go.Proofs.YtkpohajmcngjcaaDoor
open Go.ChangeShapes Go.WideShapes Go.ChangeAt Go.RowKit
set_option linter.unusedVariables false
set_option linter.unusedSimpArgs false

/-- A slice of elements of a call's own, or none, and a code. -/
def TbC (w : World) (code : Int) (m : Nat) (t : Nat → El) (e : Ending) (w' : World) : Prop :=
  ∃ (c : Option Addr) (cap : Nat), e = .returned (.tuple #[.slice c m cap, .int .i64 code]) ∧ m ≤ cap ∧ (cap : Int) ≤ 9223372036854775807 ∧ OwnE w' w.heap.size c m (cA t) (cB t) ∧ Chg nob w w'
theorem TbC.none {w w' : World} {code k : Int} {m : Nat} {t : Nat → El} (hc : code = k) (hm : m = 0) (kk : Chg nob w w') : TbC w code m t (.returned (.tuple #[.slice .none 0 0, .int .i64 k])) w' := by
  subst hc; subst hm
  exact ⟨.none, 0, rfl, Nat.le_refl _, by omega, OwnE.zero, kk⟩
theorem TbC.some {w w' : World} {code : Int} {m n cap : Nat} {c : Option Addr} {t : Nat → El} (hc : code = 0) (hm : m = n) (h1 : n ≤ cap) (h2 : (cap : Int) ≤ 9223372036854775807) (ho : OwnE w' w.heap.size c n (cA t) (cB t)) (kk : Chg nob w w') : TbC w code m t (.returned (.tuple #[.slice c n cap, .int .i64 0])) w' := by
  subst hc; subst hm
  exact ⟨c, cap, rfl, h1, h2, ho, kk⟩
/-- An empty slice that lies somewhere. -/
theorem TbC.empty {w w' : World} {code k : Int} {m : Nat} {c : Option Addr} {cap : Nat} {t : Nat → El} (hc : code = k) (hm : m = 0) (h2 : (cap : Int) ≤ 9223372036854775807) (kk : Chg nob w w') : TbC w code m t (.returned (.tuple #[.slice c 0 cap, .int .i64 k])) w' := by
  subst hc; subst hm
  exact ⟨c, cap, rfl, Nat.zero_le _, h2, OwnE.zero, kk⟩
/-- CoefsOf's and TableOf's. -/
def l2 (n : Nat) : Nat := ((List.range 7).find? fun j => decide (n = 2 ^ j)).getD 0

end Go.Proofs.YtkpohajmcngjcaaDoor

namespace Go.Proofs.YtkpohajmcngjcaaDoor
open Go.ChangeShapes Go.WideShapes Go.ChangeAt Go.RowKit
set_option linter.unusedVariables false
set_option maxRecDepth 100000
set_option linter.unusedSimpArgs false

/-- What is told of a matrix and two points. -/
def mac (n : Nat) (X : Nat → En) (rx : Nat) (f g : Nat → Int) (ry : Nat) (f' g' : Nat → Int) : Int := if 4096 < n ∨ 4096 < rx ∨ 4096 < ry then 2 else if lgb rx = false ∨ lgb ry = false then 4 else if elm (2 ^ rx) (2 ^ ry) n X = false ∨ okP f g rx = false ∨ okP f' g' ry = false then 1 else 0
def mav (n : Nat) (X : Nat → En) (rx : Nat) (f g : Nat → Int) (ry : Nat) (f' g' : Nat → Int) : El := if mac n X rx f g ry f' g' = 0 then mte X (El.eqp (elF f g) rx) (El.eqp (elF f' g') ry) n else El.zr

set_option maxHeartbeats 4000000 in
theorem sMatX_any (c : Option Addr) (n cap : Nat) (X : Nat → En) (cx : Option Addr) (rx capx : Nat) (f g : Nat → Int) (cy : Option Addr) (ry capy : Nat) (f' g' : Nat → Int) (w : World) (hv : Hid (EntV w c n X)) (hp : Hid (PairV w cx rx f g)) (hq : Hid (PairV w cy ry f' g')) (hn : n ≤ 1099511627776) (hrx : rx ≤ 1099511627776) (hry : ry ≤ 1099511627776) :
    Calls Tryd.prog 14 #[.slice c n cap, .slice cx rx capx, .slice cy ry capy] w fun e w' => e = .returned (.tuple #[.agg #[.int .i64 (mav n X rx f g ry f' g').v.1, .int .i64 (mav n X rx f g ry f' g').v.2], .int .i64 (mac n X rx f g ry f' g')]) ∧ Chg nob w w' := by
  by_cases h1 : 4096 < n
  · have h1' : (4096 : Int) < n := by omega
    have HC := hik (show mac n X rx f g ry f' g' = 2 by simp [mac, h1])
    have HV := hik (show mav n X rx f g ry f' g' = El.zr by unfold mav; rw [HC.out]; rfl)
    rw [HC.out, HV.out]
    go_enter Tryd.func14, Tryd.ntmps14
    go_wp2
    exact bodyPost_ret (v := .tuple #[.agg #[.int .i64 0, .int .i64 0], .int .i64 2]) (by simp [results, Tryd.results14, go_sem]) rfl ⟨rfl, (Chg.refl nob w).alloc _⟩
  have h1' : ¬ (4096 : Int) < n := by omega
  by_cases h2 : 4096 < rx
  · have h2' : (4096 : Int) < rx := by omega
    have HC := hik (show mac n X rx f g ry f' g' = 2 by simp [mac, h2])
    have HV := hik (show mav n X rx f g ry f' g' = El.zr by unfold mav; rw [HC.out]; rfl)
    rw [HC.out, HV.out]
    go_enter Tryd.func14, Tryd.ntmps14
    go_wp2
    exact bodyPost_ret (v := .tuple #[.agg #[.int .i64 0, .int .i64 0], .int .i64 2]) (by simp [results, Tryd.results14, go_sem]) rfl ⟨rfl, (Chg.refl nob w).alloc _⟩
  have h2' : ¬ (4096 : Int) < rx := by omega
  by_cases h3 : 4096 < ry
  · have h3' : (4096 : Int) < ry := by omega
    have HC := hik (show mac n X rx f g ry f' g' = 2 by simp [mac, h3])
    have HV := hik (show mav n X rx f g ry f' g' = El.zr by unfold mav; rw [HC.out]; rfl)
    rw [HC.out, HV.out]
    go_enter Tryd.func14, Tryd.ntmps14
    go_wp2
    exact bodyPost_ret (v := .tuple #[.agg #[.int .i64 0, .int .i64 0], .int .i64 2]) (by simp [results, Tryd.results14, go_sem]) rfl ⟨rfl, (Chg.refl nob w).alloc _⟩
  have h3' : ¬ (4096 : Int) < ry := by omega
  have hC : mac n X rx f g ry f' g' = if lgb rx = false ∨ lgb ry = false then 4 else if elm (2 ^ rx) (2 ^ ry) n X = false ∨ okP f g rx = false ∨ okP f' g' ry = false then 1 else 0 := by unfold mac; rw [if_neg (by omega)]
  have RB := hik (ElB.zero w)
  have KB := hik ((Chg.refl nob w).alloc (.cells #[.int .i64 0, .int .i64 0] 40))
  have hi1 := l01In_any (rx : Int) 1 5 (w.alloc (.cells #[.int .i64 0, .int .i64 0] 40))
  have hi2 := l01In_any (ry : Int) 1 5 (w.alloc (.cells #[.int .i64 0, .int .i64 0] 40))
  rw [show inW (rx : Int) 1 5 = lgb rx from rfl] at hi1
  rw [show inW (ry : Int) 1 5 = lgb ry from rfl] at hi2
  cases h4 : lgb rx with
  | false =>
    have HC := hik (show mac n X rx f g ry f' g' = 4 by rw [hC, if_pos (.inl h4)])
    have HV := hik (show mav n X rx f g ry f' g' = El.zr by unfold mav; rw [HC.out]; rfl)
    rw [HC.out, HV.out]
    rw [h4] at hi1
    clear hC
    go_enter Tryd.func14, Tryd.ntmps14
    go_wp2_with fail
    refine hi1.mono ?_
    rintro e W2 ⟨rfl, hw⟩
    have hw := hw.symm
    subst hw
    go_wp2
    exact bodyPost_ret (v := .tuple #[.agg #[.int .i64 0, .int .i64 0], .int .i64 4]) (by simp [results, Tryd.results14, go_sem]) rfl ⟨rfl, KB.out⟩
  | true =>
  rw [h4] at hi1
  cases h5 : lgb ry with
  | false =>
    have HC := hik (show mac n X rx f g ry f' g' = 4 by rw [hC, if_pos (.inr h5)])
    have HV := hik (show mav n X rx f g ry f' g' = El.zr by unfold mav; rw [HC.out]; rfl)
    rw [HC.out, HV.out]
    rw [h5] at hi2
    clear hC
    go_enter Tryd.func14, Tryd.ntmps14
    go_wp2_with fail
    refine hi1.mono ?_
    rintro e W2 ⟨rfl, hw⟩
    have hw := hw.symm
    subst hw
    go_wp2_with fail
    refine hi2.mono ?_
    rintro e W3 ⟨rfl, hw⟩
    have hw := hw.symm
    subst hw
    go_wp2
    exact bodyPost_ret (v := .tuple #[.agg #[.int .i64 0, .int .i64 0], .int .i64 4]) (by simp [results, Tryd.results14, go_sem]) rfl ⟨rfl, KB.out⟩
  | true =>
  rw [h5] at hi2
  rw [if_neg (by rw [h4, h5]; simp)] at hC
  have hr5 : 1 ≤ (rx : Int) ∧ (rx : Int) ≤ 5 := by simpa [lgb] using h4
  have hq5 : 1 ≤ (ry : Int) ∧ (ry : Int) ≤ 5 := by simpa [lgb] using h5
  have hli := sList_any c n cap X rx ry (by omega) (by omega) (w.alloc (.cells #[.int .i64 0, .int .i64 0] 40)) (hik (hv.out.keep KB.out)) hn
  have ho1 := fun W (k : Hid (Chg nob w W)) => l02List_any cx rx capx f g W (hik (PairV.keep hp.out k.out)) hrx
  have ho2 := fun W (k : Hid (Chg nob w W)) => l02List_any cy ry capy f' g' W (hik (PairV.keep hq.out k.out)) hry
  clear h4 h5
  cases h6 : elm (2 ^ rx) (2 ^ ry) n X with
  | false =>
    have HC := hik (show mac n X rx f g ry f' g' = 1 by rw [hC, if_pos (.inl h6)])
    have HV := hik (show mav n X rx f g ry f' g' = El.zr by unfold mav; rw [HC.out]; rfl)
    rw [HC.out, HV.out]
    rw [h6] at hli
    clear hC
    go_enter Tryd.func14, Tryd.ntmps14
    go_wp2_with fail
    refine hi1.mono ?_
    rintro e W2 ⟨rfl, hw⟩
    have hw := hw.symm
    subst hw
    go_wp2_with fail
    refine hi2.mono ?_
    rintro e W3 ⟨rfl, hw⟩
    have hw := hw.symm
    subst hw
    go_wp2_with fail
    refine hli.mono ?_
    rintro e W4 ⟨rfl, k4⟩
    replace RB := hik (RB.out.keep k4)
    replace KB := hik (KB.out.trans k4)
    clear k4
    have c0 : W4.cell? ⟨w.heap.size, 0, none⟩ = some (.int .i64 0) := RB.out.c0
    have c1 : W4.cell? ⟨w.heap.size, 1, none⟩ = some (.int .i64 0) := RB.out.c1
    have f0 := RB.out.fz 0
    have f1 := RB.out.fz 1
    go_wp2
    have u0 : ((W4.setCell ⟨w.heap.size, 0, none⟩ (.int .i64 0)).setCell ⟨w.heap.size, 1, none⟩ (.int .i64 0)).cell? ⟨w.heap.size, 0, none⟩ = some (.int .i64 0) := (RB.out.set El.zr).c0
    have u1 : ((W4.setCell ⟨w.heap.size, 0, none⟩ (.int .i64 0)).setCell ⟨w.heap.size, 1, none⟩ (.int .i64 0)).cell? ⟨w.heap.size, 1, none⟩ = some (.int .i64 0) := (RB.out.set El.zr).c1
    exact bodyPost_ret (v := .tuple #[.agg #[.int .i64 0, .int .i64 0], .int .i64 1]) (by simp [results, Tryd.results14, go_sem, u0, u1]) rfl ⟨rfl, chg2_at KB.out w.heap.size (fun l => absurd l (by omega)) 0 1 (.int .i64 0) (.int .i64 0)⟩
  | true =>
  rw [h6] at hli
  cases h7 : okP f g rx with
  | false =>
    have HC := hik (show mac n X rx f g ry f' g' = 1 by rw [hC, if_pos (.inr (.inl h7))])
    have HV := hik (show mav n X rx f g ry f' g' = El.zr by unfold mav; rw [HC.out]; rfl)
    rw [HC.out, HV.out]
    rw [h7] at ho1
    clear hC
    go_enter Tryd.func14, Tryd.ntmps14
    go_wp2_with fail
    refine hi1.mono ?_
    rintro e W2 ⟨rfl, hw⟩
    have hw := hw.symm
    subst hw
    go_wp2_with fail
    refine hi2.mono ?_
    rintro e W3 ⟨rfl, hw⟩
    have hw := hw.symm
    subst hw
    go_wp2_with fail
    refine hli.mono ?_
    rintro e W4 ⟨rfl, k4⟩
    replace RB := hik (RB.out.keep k4)
    replace KB := hik (KB.out.trans k4)
    clear k4
    go_wp2_with fail
    refine (ho1 _ KB).mono ?_
    rintro e W5 ⟨rfl, k5⟩
    replace RB := hik (RB.out.keep k5)
    replace KB := hik (KB.out.trans k5)
    clear k5
    have c0 : W5.cell? ⟨w.heap.size, 0, none⟩ = some (.int .i64 0) := RB.out.c0
    have c1 : W5.cell? ⟨w.heap.size, 1, none⟩ = some (.int .i64 0) := RB.out.c1
    have f0 := RB.out.fz 0
    have f1 := RB.out.fz 1
    go_wp2
    have u0 : ((W5.setCell ⟨w.heap.size, 0, none⟩ (.int .i64 0)).setCell ⟨w.heap.size, 1, none⟩ (.int .i64 0)).cell? ⟨w.heap.size, 0, none⟩ = some (.int .i64 0) := (RB.out.set El.zr).c0
    have u1 : ((W5.setCell ⟨w.heap.size, 0, none⟩ (.int .i64 0)).setCell ⟨w.heap.size, 1, none⟩ (.int .i64 0)).cell? ⟨w.heap.size, 1, none⟩ = some (.int .i64 0) := (RB.out.set El.zr).c1
    exact bodyPost_ret (v := .tuple #[.agg #[.int .i64 0, .int .i64 0], .int .i64 1]) (by simp [results, Tryd.results14, go_sem, u0, u1]) rfl ⟨rfl, chg2_at KB.out w.heap.size (fun l => absurd l (by omega)) 0 1 (.int .i64 0) (.int .i64 0)⟩
  | true =>
  rw [h7] at ho1
  cases h8 : okP f' g' ry with
  | false =>
    have HC := hik (show mac n X rx f g ry f' g' = 1 by rw [hC, if_pos (.inr (.inr h8))])
    have HV := hik (show mav n X rx f g ry f' g' = El.zr by unfold mav; rw [HC.out]; rfl)
    rw [HC.out, HV.out]
    rw [h8] at ho2
    clear hC
    go_enter Tryd.func14, Tryd.ntmps14
    go_wp2_with fail
    refine hi1.mono ?_
    rintro e W2 ⟨rfl, hw⟩
    have hw := hw.symm
    subst hw
    go_wp2_with fail
    refine hi2.mono ?_
    rintro e W3 ⟨rfl, hw⟩
    have hw := hw.symm
    subst hw
    go_wp2_with fail
    refine hli.mono ?_
    rintro e W4 ⟨rfl, k4⟩
    replace RB := hik (RB.out.keep k4)
    replace KB := hik (KB.out.trans k4)
    clear k4
    go_wp2_with fail
    refine (ho1 _ KB).mono ?_
    rintro e W5 ⟨rfl, k5⟩
    replace RB := hik (RB.out.keep k5)
    replace KB := hik (KB.out.trans k5)
    clear k5
    go_wp2_with fail
    refine (ho2 _ KB).mono ?_
    rintro e W6 ⟨rfl, k6⟩
    replace RB := hik (RB.out.keep k6)
    replace KB := hik (KB.out.trans k6)
    clear k6
    have c0 : W6.cell? ⟨w.heap.size, 0, none⟩ = some (.int .i64 0) := RB.out.c0
    have c1 : W6.cell? ⟨w.heap.size, 1, none⟩ = some (.int .i64 0) := RB.out.c1
    have f0 := RB.out.fz 0
    have f1 := RB.out.fz 1
    go_wp2
    have u0 : ((W6.setCell ⟨w.heap.size, 0, none⟩ (.int .i64 0)).setCell ⟨w.heap.size, 1, none⟩ (.int .i64 0)).cell? ⟨w.heap.size, 0, none⟩ = some (.int .i64 0) := (RB.out.set El.zr).c0
    have u1 : ((W6.setCell ⟨w.heap.size, 0, none⟩ (.int .i64 0)).setCell ⟨w.heap.size, 1, none⟩ (.int .i64 0)).cell? ⟨w.heap.size, 1, none⟩ = some (.int .i64 0) := (RB.out.set El.zr).c1
    exact bodyPost_ret (v := .tuple #[.agg #[.int .i64 0, .int .i64 0], .int .i64 1]) (by simp [results, Tryd.results14, go_sem, u0, u1]) rfl ⟨rfl, chg2_at KB.out w.heap.size (fun l => absurd l (by omega)) 0 1 (.int .i64 0) (.int .i64 0)⟩
  | true =>
  rw [h8] at ho2
  have HC := hik (show mac n X rx f g ry f' g' = 0 by rw [hC, if_neg (by rw [h6, h7, h8]; simp)])
  have HV := hik (show mav n X rx f g ry f' g' = mte X (El.eqp (elF f g) rx) (El.eqp (elF f' g') ry) n by unfold mav; rw [HC.out]; rfl)
  rw [HC.out, HV.out]
  obtain ⟨n2, wX⟩ := elm_parts h6
  have HP := hik (PairE.of hp.out h7)
  have HQ := hik (PairE.of hq.out h8)
  have hat := fun W (k : Hid (Chg nob w W)) => sMat_el c n cap X cx rx capx (elF f g) cy ry capy (elF f' g') W (hik (hv.out.keep k.out)) (hik (HP.out.keep k.out)) (hik (HQ.out.keep k.out)) (by omega) (by omega) n2 (hik wX)
  generalize mte X (El.eqp (elF f g) rx) (El.eqp (elF f' g') ry) n = V at hat ⊢
  clear hC wX h6 h7 h8
  go_enter Tryd.func14, Tryd.ntmps14
  go_wp2_with fail
  refine hi1.mono ?_
  rintro e W2 ⟨rfl, hw⟩
  have hw := hw.symm
  subst hw
  go_wp2_with fail
  refine hi2.mono ?_
  rintro e W3 ⟨rfl, hw⟩
  have hw := hw.symm
  subst hw
  go_wp2_with fail
  refine hli.mono ?_
  rintro e W4 ⟨rfl, k4⟩
  replace RB := hik (RB.out.keep k4)
  replace KB := hik (KB.out.trans k4)
  clear k4
  go_wp2_with fail
  refine (ho1 _ KB).mono ?_
  rintro e W5 ⟨rfl, k5⟩
  replace RB := hik (RB.out.keep k5)
  replace KB := hik (KB.out.trans k5)
  clear k5
  go_wp2_with fail
  refine (ho2 _ KB).mono ?_
  rintro e W6 ⟨rfl, k6⟩
  replace RB := hik (RB.out.keep k6)
  replace KB := hik (KB.out.trans k6)
  clear k6
  go_wp2_with fail
  refine (hat _ KB).mono ?_
  rintro e W7 ⟨rfl, k7⟩
  replace RB := hik (RB.out.keep k7)
  replace KB := hik (KB.out.trans k7)
  clear k7
  have c0 : W7.cell? ⟨w.heap.size, 0, none⟩ = some (.int .i64 0) := RB.out.c0
  have c1 : W7.cell? ⟨w.heap.size, 1, none⟩ = some (.int .i64 0) := RB.out.c1
  have f0 := RB.out.fz 0
  have f1 := RB.out.fz 1
  go_wp2
  have u0 : ((W7.setCell ⟨w.heap.size, 0, none⟩ (.int .i64 V.v.1)).setCell ⟨w.heap.size, 1, none⟩ (.int .i64 V.v.2)).cell? ⟨w.heap.size, 0, none⟩ = some (.int .i64 V.v.1) := (RB.out.set V).c0
  have u1 : ((W7.setCell ⟨w.heap.size, 0, none⟩ (.int .i64 V.v.1)).setCell ⟨w.heap.size, 1, none⟩ (.int .i64 V.v.2)).cell? ⟨w.heap.size, 1, none⟩ = some (.int .i64 V.v.2) := (RB.out.set V).c1
  exact bodyPost_ret (v := .tuple #[.agg #[.int .i64 V.v.1, .int .i64 V.v.2], .int .i64 0]) (by simp [results, Tryd.results14, go_sem, u0, u1]) rfl ⟨rfl, chg2_at KB.out w.heap.size (fun l => absurd l (by omega)) 0 1 (.int .i64 V.v.1) (.int .i64 V.v.2)⟩

end Go.Proofs.YtkpohajmcngjcaaDoor
