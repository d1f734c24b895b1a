/- A step of the hash by texts: plain facts. No program is named here but by what is imported. -/
import Derived.Test.YtmnakafplpmphabDoorKecG
import Derived.Test.YtmnakafplpmphabDoorKecO
namespace Go.Proofs.YtmnakafplpmphabDoor

/-- What the permutation makes of a state's bytes with a block's in them. -/
theorem pt_step (P : Nat → Int) (hP : isB P) (j : Nat) : pt (bt (sxb (hst P j) (blk P j) 136) 200) = bt (lb (hst P (j + 1))) 200 := by
  unfold pt
  rw [if_pos (bt_size _ _)]
  apply bt_congr
  intro i hi
  have hY := blk_B P hP j
  have hB := sxb_B (hst P j) (blk P j) hY 136
  have h1 : same (tk l0 (zs (bt (sxb (hst P j) (blk P j) 136) 200)) 200) (fun l => hst P j l ^^^ ln (blk P j) 136 l) := by
    intro l hl
    rw [tk_congr l0 (y := zs (bt (sxb (hst P j) (blk P j) 136) 200)) (z := sxb (hst P j) (blk P j) 136) (fun k hk => bt_zs _ 200 k hk (hB k).1 (hB k).2) l, tk_zero _ hB]
    exact ln_sxb (hst P j) (blk P j) hY l hl
  have h2 := prm_same h1 24
  unfold lb by8
  rw [h2 (i / 8) (by omega)]
  rfl
end Go.Proofs.YtmnakafplpmphabDoor
