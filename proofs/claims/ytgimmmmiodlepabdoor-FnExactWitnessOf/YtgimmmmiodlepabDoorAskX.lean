/- What is told of a circuit and what it is handed: the program's contract. -/
import Derived.Test.YtgimmmmiodlepabDoorCirX
import Derived.Test.YtgimmmmiodlepabDoorRsmX
import Derived.Test.YtgimmmmiodlepabDoorRunM
namespace Go.Proofs.YtgimmmmiodlepabDoor
open Go.ChangeShapes Go.WideShapes Go.ChangeAt Go.RowKit
set_option linter.unusedVariables false
set_option maxRecDepth 100000
set_option linter.unusedSimpArgs false

set_option maxHeartbeats 4000000 in
theorem runCode_any (c : Option Addr) (n cap : Nat) (G : Nat → Gt) (cp : Option Addr) (np capp : Nat) (P : Nat → Int) (ci : Option Addr) (ni capi : Nat) (I : Nat → Int) (w : World) (hv : Hid (GatV w c n G)) (h : Hid (Shp w)) (hp : Hid (RowV w cp np (iv P))) (hi : Hid (RowV w ci ni (iv I))) (hn : n ≤ 1099511627776) (hnp : np ≤ 1099511627776) (hni : ni ≤ 1099511627776) :
    Calls Tryd.prog 86 #[.agg #[.slice c n cap], .slice cp np capp, .slice ci ni capi] w fun e w' => e = .returned (.int .i64 (akr n G np P ni I)) ∧ Chg nob w w' := by
  have KB := hik ((Chg.refl nob w).alloc (.cells #[.slice c n cap] 33))
  have x0 : World.cell? (w.alloc (.cells #[.slice c n cap] 33)) ⟨w.heap.size, 0, none⟩ = some (.slice c n cap) := by go_simp
  by_cases h1 : 4096 < np
  · have h1' : (4096 : Int) < np := by omega
    have HC := hik (show akr n G np P ni I = 2 by unfold akr; rw [if_pos (.inl h1)])
    go_enter Tryd.func86, Tryd.ntmps86
    go_wp2
    go_ret
    exact ⟨ret_int HC.out.symm, KB.out⟩
  have h1' : ¬ (4096 : Int) < np := by omega
  by_cases h2 : 4096 < ni
  · have h2' : (4096 : Int) < ni := by omega
    have HC := hik (show akr n G np P ni I = 2 by unfold akr; rw [if_pos (.inr h2)])
    go_enter Tryd.func86, Tryd.ntmps86
    go_wp2
    go_ret
    exact ⟨ret_int HC.out.symm, KB.out⟩
  have h2' : ¬ (4096 : Int) < ni := by omega
  have hA : akr n G np P ni I = if crb n G = false then 19 else if fds np P = false ∨ fds ni I = false then 1 else if ¬ np = ctg 2 n G ∨ ¬ ni = ctg 1 n G then 8 else 0 := by unfold akr; rw [if_neg (by omega)]
  have hok := circuitOK_any c n cap G (w.alloc (.cells #[.slice c n cap] 33)) (hik (hv.out.keep KB.out)) (hik (h.out.keep KB.out)) hn
  cases h3 : crb n G with
  | false =>
    rw [h3] at hok
    have HC := hik (show akr n G np P ni I = 19 by rw [hA, if_pos h3])
    go_enter Tryd.func86, Tryd.ntmps86
    go_wp2_with (go_at_call 32; refine hok.mono ?_; rintro e W1 ⟨rfl, k1⟩; have K1 := hik (KB.out.trans k1); have x1 := k1.look x0; clear k1)
    go_ret
    exact ⟨ret_int HC.out.symm, K1.out⟩
  | true =>
  rw [h3] at hok
  rw [if_neg (by rw [h3]; simp)] at hA
  have hn1 := fun W (k : Hid (Chg nob w W)) => numsOK_any cp np capp P W (hik (hp.out.keep k.out)) hnp
  have hn2 := fun W (k : Hid (Chg nob w W)) => numsOK_any ci ni capi I W (hik (hi.out.keep k.out)) hni
  cases h4 : fds np P with
  | false =>
    rw [h4] at hn1
    have HC := hik (show akr n G np P ni I = 1 by rw [hA, if_pos (.inl h4)])
    go_enter Tryd.func86, Tryd.ntmps86
    go_wp2_with (first | (go_at_call 32; refine hok.mono ?_; rintro e W1 ⟨rfl, k1⟩; have K1 := hik (KB.out.trans k1); have x1 := k1.look x0; clear k1) | (go_at_call 104; first | (refine (hn1 _ K1).mono ?_; rintro e w' ⟨rfl, hw⟩; have hw := hw.symm; subst hw) ))
    go_ret
    exact ⟨ret_int HC.out.symm, K1.out⟩
  | true =>
  rw [h4] at hn1
  cases h5 : fds ni I with
  | false =>
    rw [h5] at hn2
    have HC := hik (show akr n G np P ni I = 1 by rw [hA, if_pos (.inr h5)])
    clear hA
    go_enter Tryd.func86, Tryd.ntmps86
    go_wp2_with (go_at_call 32; refine hok.mono ?_; rintro e W1 ⟨rfl, k1⟩; have K1 := hik (KB.out.trans k1); have x1 := k1.look x0; clear k1)
    refine (hn1 _ K1).mono ?_
    rintro e w' ⟨rfl, hw⟩
    have hw := hw.symm
    subst hw
    go_wp2_with fail
    refine (hn2 _ K1).mono ?_
    rintro e w' ⟨rfl, hw⟩
    have hw := hw.symm
    subst hw
    go_wp2
    go_ret
    exact ⟨ret_int HC.out.symm, K1.out⟩
  | true =>
  rw [h5] at hn2
  rw [if_neg (by rw [h4, h5]; simp)] at hA
  have hc2 := fun W (k : Hid (Chg nob w W)) => count_any c n cap G 2 W (hik (hv.out.keep k.out)) hn
  have hc1 := fun W (k : Hid (Chg nob w W)) => count_any c n cap G 1 W (hik (hv.out.keep k.out)) hn
  have hb2 := ctg_le 2 G n
  have hb1 := ctg_le 1 G n
  have HA := hik hA
  clear hA
  generalize ctg 2 n G = C2 at hc2 hb2 HA
  generalize ctg 1 n G = C1 at hc1 hb1 HA
  go_enter Tryd.func86, Tryd.ntmps86
  go_wp2_with (go_at_call 32; refine hok.mono ?_; rintro e W1 ⟨rfl, k1⟩; have K1 := hik (KB.out.trans k1); have x1 := k1.look x0; clear k1)
  refine (hn1 _ K1).mono ?_
  rintro e w' ⟨rfl, hw⟩
  have hw := hw.symm
  subst hw
  go_wp2_with fail
  refine (hn2 _ K1).mono ?_
  rintro e w' ⟨rfl, hw⟩
  have hw := hw.symm
  subst hw
  go_wp2_with fail
  refine (hc2 _ K1).mono ?_
  rintro e W2 ⟨rfl, k2⟩
  have K2 := hik (K1.out.trans k2)
  have x2 := k2.look x1
  clear k2
  by_cases e2 : np = C2
  · have e2' : ((np : Int) != (C2 : Int)) = false := by simp [e2]
    go_wp2_with fail
    refine (hc1 _ K2).mono ?_
    rintro e W3 ⟨rfl, k3⟩
    have K3 := hik (K2.out.trans k3)
    clear k3
    by_cases e1 : ni = C1
    · have e1' : ((ni : Int) != (C1 : Int)) = false := by simp [e1]
      go_wp2
      go_ret
      exact ⟨ret_int (by rw [HA.out, if_neg (fun q => q.elim (fun q => q e2) (fun q => q e1))]), K3.out⟩
    · have e1' : ((ni : Int) != (C1 : Int)) = true := by simp; omega
      go_wp2
      go_ret
      exact ⟨ret_int (by rw [HA.out, if_pos (.inr e1)]), K3.out⟩
  · have e2' : ((np : Int) != (C2 : Int)) = true := by simp; omega
    go_wp2
    go_ret
    exact ⟨ret_int (by rw [HA.out, if_pos (.inl e2)]), K2.out⟩
end Go.Proofs.YtgimmmmiodlepabDoor
