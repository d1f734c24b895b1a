/- What the program's tables by value answer: cubeFrom, list, onTheWayTo, bound: contracts. Conditions: elements of the greater field, rows that can be read, sizes of at most 64. -/
import Derived.Test.YtabioonijjibnaoCubM
import Derived.Laws.Cover3
namespace Go.Proofs.Ytabioonijjibnao
open Go.ChangeShapes Go.WideShapes Go.ChangeAt Go.RowKit
set_option linter.unusedVariables false
set_option maxRecDepth 100000
set_option linter.unusedSimpArgs false

set_option maxHeartbeats 1000000 in
theorem cubeFrom_any (c : Option Addr) (n cap : Nat) (t : Nat → El) (w : World) (h : Hid (PairE w c n t)) (hn : n ≤ 64) : Calls Try.prog 30 #[.slice c n cap] w fun e w' => e = .returned (.agg (cb n (fitE t n zE))) ∧ Chg nob w w' := by
  have hz := (zero_of_info infoC).1
  go_enter Try.func30, Try.ntmps30
  go_wp2_with (first
    | ((with_reducible refine wpList_build_cub (.tmp 5) rfl rfl n ?hx ?_); (case hx => rfl))
    | ((with_reducible refine wpList_store_cub (s := n) (t := zE) (.tmp 3) (.tmp 6) rfl rfl (w.heap.size + 1) ?hx ?hy (Cub.at_ (w.alloc (.cells (cb 0 zE) 47)) (w.heap.size + 1) (by simp) 0 zE) ?_); (case hx => rfl); (case hy => rfl); intro W1 r1 g1; have R1 := hik r1; have Z1 := hik (Cub.chg ((Cub.new w 0 zE).keep ((Chg.refl nob _).alloc (.cells (cb 0 zE) 47))) g1 (by omega)); have G1 := hik (Chg.near (((Chg.refl nob w).alloc (.cells (cb 0 zE) 47)).alloc (.cells (cb 0 zE) 47)) g1 (fun i e => by omega)); clear r1 g1)
    | ((with_reducible refine wpList_copy_cub (.tmp 8) (.tmp 9) rfl rfl (w.heap.size + 1) 64 64 c n cap ?hd ?hs R1.out (PairE.keep h.out G1.out) hn (by omega) ?_); (case hd => rfl); (case hs => rfl); intro W2 r2 g2; have R2 := hik r2; have Z2 := hik (Cub.chg Z1.out g2 (by omega)); have G2 := hik (Chg.near G1.out g2 (fun i e => by omega)); clear r2 g2 Z1 G1)
    | ((with_reducible refine wpList_load_cub (.tmp 3) rfl rfl (w.heap.size + 1) ?hx R2.out ?_); (case hx => rfl))
    | ((with_reducible refine wpList_store_cub (s := n) (t := fitE t n zE) (.tmp 2) (.tmp 11) rfl rfl w.heap.size ?hx ?hy Z2.out ?_); (case hx => rfl); (case hy => rfl); intro W3 r3 g3; have R3 := hik r3; have G3 := hik (Chg.near G2.out g3 (fun i e => by omega)); clear r3 g3))
  exact bodyPost_ret (results_cub rfl _ _ w.heap.size rfl R3.out) rfl ⟨rfl, G3.out⟩

set_option maxHeartbeats 1000000 in
theorem clone_any (b o n cap : Nat) (t : Nat → El) (w : World) (h : Hid (PairE w (some ⟨b, o, none⟩) n t)) (hn : n ≤ 64) : Calls Try.prog 54 #[.slice (some ⟨b, o, none⟩) n cap] w fun e w' => SlAns w n t e w' := by
  obtain ⟨i0, hi, hz0, hz1, hz2⟩ := info_parts infoExt
  have HI := hik hi
  have HZ0 := hik hz0
  have HZ1 := hik hz1
  have HZ2 := hik hz2
  clear hi hz0 hz1 hz2
  have hnil : ∀ W, (binOp .eql 28 (.slice (some ⟨b, o, none⟩) n cap) (.slice none 0 0)).run Try.prog W = .ok (.bool false) W := fun W => by
    have := run_equal_slice_nil (P := Try.prog) W 28 25 (some ⟨b, o, none⟩) n cap Try.underlying28
    simp [binOp, this]
  go_enter Try.func54, Try.ntmps54
  go_wp2_with (at_builtin; refine wpList_append_pairs _ (.tmp 5) (.tmp 6) 28 rfl rfl i0 Try.underlying28 HI.out HZ0.out HZ1.out HZ2.out w.heap.size (by simp) rfl (some ⟨b, o, none⟩) n cap (cA t) (cB t) rfl (PairE.keep h.out ((Chg.refl nob w).alloc _)) (by omega) ?_)
  intro c' cap' W1 ho hc hcm k1
  have O1 := hik (OwnE.low ho (B' := w.heap.size) (by simp))
  have G1 := hik (((Chg.refl nob w).alloc _).trans k1)
  clear ho k1
  go_wp2
  go_ret
  exact ⟨c', cap', rfl, hc, hcm, O1.out, G1.out⟩

set_option maxHeartbeats 1000000 in
theorem list_any (s : Nat) (t : Nat → El) (w : World) (hs : s ≤ 64) : Calls Try.prog 36 #[.agg (cb s t)] w fun e w' => SlAns w s t e w' := by
  have hs' : (s : Int) ≤ 64 := by omega
  have hs0 : ¬ (s : Int) < 0 := by omega
  have HC := hik (Cub.new w s t)
  have c0 := HC.out.c
  go_enter Try.func36, Try.ntmps36
  go_wp2_with fail
  refine (clone_any _ _ _ _ t _ (hik (Cub.pairs HC.out hs)) hs).mono ?_
  rintro e W1 ⟨c, cap, rfl, h1, h2, ho, k1⟩
  have O1 := hik (OwnE.low ho (B' := w.heap.size) (by simp))
  have G1 := hik (((Chg.refl nob w).alloc _).trans k1)
  clear ho k1
  go_wp2
  go_ret
  exact ⟨c, cap, rfl, h1, h2, O1.out, G1.out⟩
end Go.Proofs.Ytabioonijjibnao
