/- What the program's RunCircuit answers: a contract. -/
import Derived.Test.YtgimmmmiodlepabDoorRunX
import Derived.Test.YtgimmmmiodlepabDoorAskX
import Derived.Test.YtgimmmmiodlepabDoorAskO
namespace Go.Proofs.YtgimmmmiodlepabDoor
open Go.ChangeShapes Go.WideShapes Go.ChangeAt Go.RowKit
set_option linter.unusedVariables false
set_option maxRecDepth 100000
set_option linter.unusedSimpArgs false

set_option maxHeartbeats 4000000 in
theorem runX_any (c : Option Addr) (n cap : Nat) (G : Nat → Gt) (cp : Option Addr) (np capp : Nat) (P : Nat → Int) (ci : Option Addr) (ni capi : Nat) (I : Nat → Int) (w : World) (hv : Hid (GatV w c n G)) (h : Hid (Shp w)) (hp : Hid (RowV w cp np (iv P))) (hi : Hid (RowV w ci ni (iv I))) (hn : n ≤ 1099511627776) (hnp : np ≤ 1099511627776) (hni : ni ≤ 1099511627776) (lp : np ≤ capp) (lp2 : capp ≤ 1099511627776) (li : ni ≤ capi) (li2 : capi ≤ 1099511627776) :
    Calls Tryd.prog 50 #[.agg #[.slice c n cap], .slice cp np capp, .slice ci ni capi] w fun e w' => RnAns w (rcc n G np P ni I) n (rvl G P I n) e w' := by
  have KB := hik ((Chg.refl nob w).alloc (.cells #[.slice c n cap] 33))
  have x0 : World.cell? (w.alloc (.cells #[.slice c n cap] 33)) ⟨w.heap.size, 0, none⟩ = some (.slice c n cap) := by go_simp
  have hask := runCode_any c n cap G cp np capp P ci ni capi I (w.alloc (.cells #[.slice c n cap] 33)) (hik (hv.out.keep KB.out)) (hik (h.out.keep KB.out)) (hik (hp.out.keep KB.out)) (hik (hi.out.keep KB.out)) hn hnp hni
  by_cases h0 : akr n G np P ni I = 0
  · obtain ⟨hcr, hfp, hfi, ep, ei⟩ := akr_ok h0
    obtain ⟨h1n, h15, hg, _⟩ := crb_ok hcr
    have HC := hik (show rcc n G np P ni I = if fts G (rvl G P I n) n = true then 0 else 15 by unfold rcc; rw [if_pos h0])
    rw [h0] at hask
    have hval := fun W (k : Hid (Chg nob w W)) => values_any c n cap G cp np capp P ci ni capi I W (hik (hv.out.keep k.out)) (hik (hp.out.keep k.out)) (hik (hi.out.keep k.out)) h1n h15 (hik hg) (hik ep) (hik ei) (hik hfp) (hik hfi) lp lp2 li li2
    rw [← HC.out] at hval
    clear h0 hg ep ei hfp hfi hcr
    generalize rcc n G np P ni I = cd at hval
    clear HC
    generalize rvl G P I n = V at hval ⊢
    unfold RnAns at hval ⊢
    generalize (if cd = 0 then n else 0) = M at hval ⊢
    go_enter Tryd.func50, Tryd.ntmps50
    go_wp2_with (first | (go_at_call 86; refine hask.mono ?_; rintro e W1 ⟨rfl, k1⟩; have K1 := hik (KB.out.trans k1); have x1 := k1.look x0; clear k1) | (go_at_call 87; refine (hval _ K1).mono ?_; rintro e W2 ⟨c2, p2, rfl, o2, k2⟩; have K2 := hik (K1.out.trans k2); have O2 := hik (o2.mono (g := V) K1.out.size (fun _ _ => rfl)); clear k2 o2))
    go_ret2
    exact ⟨c2, p2, rfl, O2.out, K2.out⟩
  · have HC := hik (show rcc n G np P ni I = akr n G np P ni I by unfold rcc; rw [if_neg h0])
    generalize rcc n G np P ni I = cd at HC ⊢
    generalize akr n G np P ni I = ak at hask h0 HC
    have h0' : (ak != 0) = true := by simpa using h0
    go_enter Tryd.func50, Tryd.ntmps50
    go_wp2_with (go_at_call 86; refine hask.mono ?_; rintro e W1 ⟨rfl, k1⟩; have K1 := hik (KB.out.trans k1); clear k1)
    go_ret2
    exact RnAns.no HC.out h0 rfl K1.out
end Go.Proofs.YtgimmmmiodlepabDoor
