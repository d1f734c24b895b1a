/- What the program's tables by value answer: cubeFrom, list, onTheWayTo, bound: contracts. Conditions: elements of the greater field, rows that can be read, sizes of at most 64. -/
import Derived.Test.YtgiefpipflcbgaqCubM
import Derived.Laws.Cover3
namespace Go.Proofs.Ytgiefpipflcbgaq
open Go.ChangeShapes Go.WideShapes Go.ChangeAt Go.RowKit
set_option linter.unusedVariables false
set_option maxRecDepth 100000
set_option linter.unusedSimpArgs false

set_option maxHeartbeats 1000000 in
theorem cubeFrom_any (c : Option Addr) (n cap : Nat) (t : Nat → El) (w : World) (h : Hid (PairE w c n t)) (hn : n ≤ 64) : Calls Try.prog 58 #[.slice c n cap] w fun e w' => e = .returned (.agg (cb n (fitE t n zE))) ∧ Chg nob w w' := by
  have hz := (zero_of_info infoQb).1
  go_enter Try.func58, Try.ntmps58
  go_wp2_with (first
    | ((with_reducible refine wpList_build_cub (.tmp 5) rfl rfl n ?hx ?_); (case hx => rfl))
    | ((with_reducible refine wpList_store_cub (s := n) (t := zE) (.tmp 3) (.tmp 6) rfl rfl (w.heap.size + 1) ?hx ?hy (Cub.at_ (w.alloc (.cells (cb 0 zE) 59)) (w.heap.size + 1) (by simp) 0 zE) ?_); (case hx => rfl); (case hy => rfl); intro W1 r1 g1; have R1 := hik r1; have Z1 := hik (Cub.chg ((Cub.new w 0 zE).keep ((Chg.refl nob _).alloc (.cells (cb 0 zE) 59))) g1 (by omega)); have G1 := hik (Chg.near (((Chg.refl nob w).alloc (.cells (cb 0 zE) 59)).alloc (.cells (cb 0 zE) 59)) g1 (fun i e => by omega)); clear r1 g1)
    | ((with_reducible refine wpList_copy_cub (.tmp 8) (.tmp 9) rfl rfl (w.heap.size + 1) 64 64 c n cap ?hd ?hs R1.out (PairE.keep h.out G1.out) hn (by omega) ?_); (case hd => rfl); (case hs => rfl); intro W2 r2 g2; have R2 := hik r2; have Z2 := hik (Cub.chg Z1.out g2 (by omega)); have G2 := hik (Chg.near G1.out g2 (fun i e => by omega)); clear r2 g2 Z1 G1)
    | ((with_reducible refine wpList_load_cub (.tmp 3) rfl rfl (w.heap.size + 1) ?hx R2.out ?_); (case hx => rfl))
    | ((with_reducible refine wpList_store_cub (s := n) (t := fitE t n zE) (.tmp 2) (.tmp 11) rfl rfl w.heap.size ?hx ?hy Z2.out ?_); (case hx => rfl); (case hy => rfl); intro W3 r3 g3; have R3 := hik r3; have G3 := hik (Chg.near G2.out g3 (fun i e => by omega)); clear r3 g3))
  exact bodyPost_ret (results_cub rfl _ _ w.heap.size rfl R3.out) rfl ⟨rfl, G3.out⟩