/- Several texts in one: What the model's ReadProof answers: a contract. Conditions: bytes that can be read, numbers from 0 to 255, of at most 2 to the 40; a system that can be read. · The walk of the law of ReadProof. Conditions: bytes that can be read; a system that can be read. -/
import Derived.Test.YtppiilbcnkphbaaGreatBzau
import Derived.Test.YtppiilbcnkphbaaGreatBzap
import Derived.Test.YtppiilbcnkphbaaGreatBzbl
import Derived.Test.YtppiilbcnkphbaaGreatBzbm
import Derived.Test.YtppiilbcnkphbaaGreatBzbo
import Derived.Test.YtppiilbcnkphbaaGreatBzad
import Derived.Test.YtppiilbcnkphbaaGreatBzbp
import Derived.Test.YtppiilbcnkphbaaGreatBzbq
import Derived.Test.YtppiilbcnkphbaaGreatBzac
import Derived.Test.YtppiilbcnkphbaaGreatBzal
import Derived.Test.YtppiilbcnkphbaaGreatBzan
import Derived.Test.YtppiilbcnkphbaaGreatBzah
import Derived.Deep.DeepCutAuto
import Derived.Deep.RegionHeld3
namespace Go.Proofs.YtppiilbcnkphbaaGreat
open Go.ChangeShapes Go.WideShapes Go.ChangeAt Go.RowKit
set_option linter.unusedVariables false
set_option maxRecDepth 100000
set_option linter.unusedSimpArgs false

set_option maxHeartbeats 8000000 in
theorem sReadProof_any (c : Option Addr) (n cap : Nat) (z : Nat → Int) (s : Sy) (y : SyA) (r q g : Int) (w : World) (h : Hid (RowV w c n (bw z))) (hz : Hid (∀ j, 0 ≤ z j ∧ z j < 256)) (hn : n ≤ 1099511627776) (hv : Hid (SyV w s y)) (hsy : s.small) :
    Calls Tryz.prog 5 #[.slice c n cap, .agg #[.int .i64 s.r, .int .i64 s.q, .int .i64 s.p, .slice y.cA s.nA y.pA, .slice y.cB s.nB y.pB, .slice y.cC s.nC y.pC], .agg #[.int .i64 r, .int .i64 q, .int .i64 g]] w fun e w' => RpAns w (prv n z s r q g) (prc n z s r q g) e w' := by
  have K0 := hik ((((Chg.refl nob w).alloc (.cells #[.int .i64 s.r, .int .i64 s.q, .int .i64 s.p, .slice y.cA s.nA y.pA, .slice y.cB s.nB y.pB, .slice y.cC s.nC y.pC] 43)).alloc (.cells #[.int .i64 r, .int .i64 q, .int .i64 g] 45)).alloc (.cells #[.string ⟨#[]⟩, .slice none 0 0, .int .i64 0, .int .i64 0, .int .i64 0, .int .i64 0, .int .i64 0, .int .i64 0, .slice none 0 0, .int .i64 0, .int .i64 0, .slice none 0 0, .slice none 0 0, .int .i64 0, .int .i64 0, .int .i64 0, .slice none 0 0] 37))
  have RS := hik (rowIs_keep (rowN_new w 6 #[.int .i64 s.r, .int .i64 s.q, .int .i64 s.p, .slice y.cA s.nA y.pA, .slice y.cB s.nB y.pB, .slice y.cC s.nC y.pC] 43 rfl) (((Chg.refl nob _).alloc (.cells #[.int .i64 r, .int .i64 q, .int .i64 g] 45)).alloc (.cells #[.string ⟨#[]⟩, .slice none 0 0, .int .i64 0, .int .i64 0, .int .i64 0, .int .i64 0, .int .i64 0, .int .i64 0, .slice none 0 0, .int .i64 0, .int .i64 0, .slice none 0 0, .slice none 0 0, .int .i64 0, .int .i64 0, .int .i64 0, .slice none 0 0] 37)))
  have RT := hik (rowIs_keep (rowN_new (w.alloc (.cells #[.int .i64 s.r, .int .i64 s.q, .int .i64 s.p, .slice y.cA s.nA y.pA, .slice y.cB s.nB y.pB, .slice y.cC s.nC y.pC] 43)) 3 #[.int .i64 r, .int .i64 q, .int .i64 g] 45 rfl) ((Chg.refl nob _).alloc (.cells #[.string ⟨#[]⟩, .slice none 0 0, .int .i64 0, .int .i64 0, .int .i64 0, .int .i64 0, .int .i64 0, .int .i64 0, .slice none 0 0, .int .i64 0, .int .i64 0, .slice none 0 0, .slice none 0 0, .int .i64 0, .int .i64 0, .int .i64 0, .slice none 0 0] 37)))
  have RX := hik (rowN_new ((w.alloc (.cells #[.int .i64 s.r, .int .i64 s.q, .int .i64 s.p, .slice y.cA s.nA y.pA, .slice y.cB s.nB y.pB, .slice y.cC s.nC y.pC] 43)).alloc (.cells #[.int .i64 r, .int .i64 q, .int .i64 g] 45)) 17 #[.string ⟨#[]⟩, .slice none 0 0, .int .i64 0, .int .i64 0, .int .i64 0, .int .i64 0, .int .i64 0, .int .i64 0, .slice none 0 0, .int .i64 0, .int .i64 0, .slice none 0 0, .slice none 0 0, .int .i64 0, .int .i64 0, .int .i64 0, .slice none 0 0] 37 rfl)
  rw [asz] at RT
  rw [asz, asz] at RX
  by_cases hlen : 65536 < n
  · have HB := hik (show prc n z s r q g = 2 by unfold prc; rw [if_pos hlen])
    have hl2 : (65536 : Int) < (n : Int) := by omega
    go_enter Tryz.func5, Tryz.ntmps5
    go_upto_region 1 with fail
    generalize hW : ((w.alloc (.cells #[.int .i64 s.r, .int .i64 s.q, .int .i64 s.p, .slice y.cA s.nA y.pA, .slice y.cB s.nB y.pB, .slice y.cC s.nC y.pC] 43)).alloc (.cells #[.int .i64 r, .int .i64 q, .int .i64 g] 45)).alloc (.cells #[.string ⟨#[]⟩, .slice none 0 0, .int .i64 0, .int .i64 0, .int .i64 0, .int .i64 0, .int .i64 0, .int .i64 0, .slice none 0 0, .int .i64 0, .int .i64 0, .slice none 0 0, .slice none 0 0, .int .i64 0, .int .i64 0, .int .i64 0, .slice none 0 0] 37) = W0 at K0 RS RT RX ⊢
    clear hW
    go_wp2_with ((with_reducible refine wpList_store_all 37 (.tmp 6) (.tmp 13) rfl rfl (w.heap.size + 1 + 1) 17 (pfv noP noA) ?hx ?hy 37 _ RX.out infoPf (pfv_one noP _) ?_); (case hx => rfl); (case hy => rfl); intro WE r9 g9)
    exact bodyPost_ret (results_row_tmp Tryz.results5 _ _ (w.heap.size + 1 + 1) 37 (rowA 17 (pfv noP noA)) (0, 0) _ rfl (rowA_of r9) Tryz.underlying37 rfl (by rw [rowA_size]; exact infoPf)) rfl (RpAns.no HB.out (by decide) rfl (K0.out.near g9 (fun b e => by have e' : b = w.heap.size + 1 + 1 := e; omega)))
  have hl2 : ¬ (65536 : Int) < (n : Int) := by omega
  cases b1 : sysb s
  · have HB := hik (show prc n z s r q g = 1 by unfold prc; rw [if_neg hlen, b1]; rfl)
    have HB1 := hik b1
    clear b1
    go_enter Tryz.func5, Tryz.ntmps5
    go_upto_region 3 with fail
    generalize hW : ((w.alloc (.cells #[.int .i64 s.r, .int .i64 s.q, .int .i64 s.p, .slice y.cA s.nA y.pA, .slice y.cB s.nB y.pB, .slice y.cC s.nC y.pC] 43)).alloc (.cells #[.int .i64 r, .int .i64 q, .int .i64 g] 45)).alloc (.cells #[.string ⟨#[]⟩, .slice none 0 0, .int .i64 0, .int .i64 0, .int .i64 0, .int .i64 0, .int .i64 0, .int .i64 0, .slice none 0 0, .int .i64 0, .int .i64 0, .slice none 0 0, .slice none 0 0, .int .i64 0, .int .i64 0, .int .i64 0, .slice none 0 0] 37) = W0 at K0 RS RT RX ⊢
    clear hW
    have xs0 : W0.cell? ⟨w.heap.size, 0, none⟩ = some (.int .i64 s.r) := RS.out.cell (i := 0) (by omega)
    have xs1 : W0.cell? ⟨w.heap.size, 1, none⟩ = some (.int .i64 s.q) := RS.out.cell (i := 1) (by omega)
    have xs2 : W0.cell? ⟨w.heap.size, 2, none⟩ = some (.int .i64 s.p) := RS.out.cell (i := 2) (by omega)
    have xs3 : W0.cell? ⟨w.heap.size, 3, none⟩ = some (.slice y.cA s.nA y.pA) := RS.out.cell (i := 3) (by omega)
    have xs4 : W0.cell? ⟨w.heap.size, 4, none⟩ = some (.slice y.cB s.nB y.pB) := RS.out.cell (i := 4) (by omega)
    have xs5 : W0.cell? ⟨w.heap.size, 5, none⟩ = some (.slice y.cC s.nC y.pC) := RS.out.cell (i := 5) (by omega)
    go_wp2_with fail
    clear xs0 xs1 xs2 xs3 xs4 xs5
    refine (sSysOK_any s y _ (hik (hv.out.keep K0.out)) hsy).mono ?_
    rintro e W1 ⟨rfl, kk⟩
    replace K0 := hik (K0.out.trans kk)
    replace RS := hik (rowIs_keep RS.out kk)
    replace RT := hik (rowIs_keep RT.out kk)
    replace RX := hik (rowIs_keep RX.out kk)
    clear kk
    rw [HB1.out]
    go_wp2_with ((with_reducible refine wpList_store_all 37 (.tmp 6) (.tmp 22) rfl rfl (w.heap.size + 1 + 1) 17 (pfv noP noA) ?hx ?hy 37 _ RX.out infoPf (pfv_one noP _) ?_); (case hx => rfl); (case hy => rfl); intro WE r9 g9)
    exact bodyPost_ret (results_row_tmp Tryz.results5 _ _ (w.heap.size + 1 + 1) 37 (rowA 17 (pfv noP noA)) (0, 0) _ rfl (rowA_of r9) Tryz.underlying37 rfl (by rw [rowA_size]; exact infoPf)) rfl (RpAns.no HB.out (by decide) rfl (K0.out.near g9 (fun b e => by have e' : b = w.heap.size + 1 + 1 := e; omega)))
  cases b2 : stb r q g
  · have HB := hik (show prc n z s r q g = 1 by unfold prc; rw [if_neg hlen, b1, b2]; rfl)
    have HB1 := hik b1
    have HB2 := hik b2
    clear b1 b2
    go_enter Tryz.func5, Tryz.ntmps5
    go_upto_region 3 with fail
    generalize hW : ((w.alloc (.cells #[.int .i64 s.r, .int .i64 s.q, .int .i64 s.p, .slice y.cA s.nA y.pA, .slice y.cB s.nB y.pB, .slice y.cC s.nC y.pC] 43)).alloc (.cells #[.int .i64 r, .int .i64 q, .int .i64 g] 45)).alloc (.cells #[.string ⟨#[]⟩, .slice none 0 0, .int .i64 0, .int .i64 0, .int .i64 0, .int .i64 0, .int .i64 0, .int .i64 0, .slice none 0 0, .int .i64 0, .int .i64 0, .slice none 0 0, .slice none 0 0, .int .i64 0, .int .i64 0, .int .i64 0, .slice none 0 0] 37) = W0 at K0 RS RT RX ⊢
    clear hW
    have xs0 : W0.cell? ⟨w.heap.size, 0, none⟩ = some (.int .i64 s.r) := RS.out.cell (i := 0) (by omega)
    have xs1 : W0.cell? ⟨w.heap.size, 1, none⟩ = some (.int .i64 s.q) := RS.out.cell (i := 1) (by omega)
    have xs2 : W0.cell? ⟨w.heap.size, 2, none⟩ = some (.int .i64 s.p) := RS.out.cell (i := 2) (by omega)
    have xs3 : W0.cell? ⟨w.heap.size, 3, none⟩ = some (.slice y.cA s.nA y.pA) := RS.out.cell (i := 3) (by omega)
    have xs4 : W0.cell? ⟨w.heap.size, 4, none⟩ = some (.slice y.cB s.nB y.pB) := RS.out.cell (i := 4) (by omega)
    have xs5 : W0.cell? ⟨w.heap.size, 5, none⟩ = some (.slice y.cC s.nC y.pC) := RS.out.cell (i := 5) (by omega)
    go_wp2_with fail
    clear xs0 xs1 xs2 xs3 xs4 xs5
    refine (sSysOK_any s y _ (hik (hv.out.keep K0.out)) hsy).mono ?_
    rintro e W1 ⟨rfl, kk⟩
    replace K0 := hik (K0.out.trans kk)
    replace RS := hik (rowIs_keep RS.out kk)
    replace RT := hik (rowIs_keep RT.out kk)
    replace RX := hik (rowIs_keep RX.out kk)
    clear kk
    rw [HB1.out]
    have xt0 : W1.cell? ⟨w.heap.size + 1, 0, none⟩ = some (.int .i64 r) := RT.out.cell (i := 0) (by omega)
    have xt1 : W1.cell? ⟨w.heap.size + 1, 1, none⟩ = some (.int .i64 q) := RT.out.cell (i := 1) (by omega)
    have xt2 : W1.cell? ⟨w.heap.size + 1, 2, none⟩ = some (.int .i64 g) := RT.out.cell (i := 2) (by omega)
    go_wp2_with fail
    clear xt0 xt1 xt2
    refine (sSettingOK_any r q g _).mono ?_
    rintro e W2 ⟨rfl, kk⟩
    replace K0 := hik (K0.out.trans kk)
    replace RS := hik (rowIs_keep RS.out kk)
    replace RT := hik (rowIs_keep RT.out kk)
    replace RX := hik (rowIs_keep RX.out kk)
    clear kk
    rw [HB2.out]
    go_wp2_with ((with_reducible refine wpList_store_all 37 (.tmp 6) (.tmp 22) rfl rfl (w.heap.size + 1 + 1) 17 (pfv noP noA) ?hx ?hy 37 _ RX.out infoPf (pfv_one noP _) ?_); (case hx => rfl); (case hy => rfl); intro WE r9 g9)
    exact bodyPost_ret (results_row_tmp Tryz.results5 _ _ (w.heap.size + 1 + 1) 37 (rowA 17 (pfv noP noA)) (0, 0) _ rfl (rowA_of r9) Tryz.underlying37 rfl (by rw [rowA_size]; exact infoPf)) rfl (RpAns.no HB.out (by decide) rfl (K0.out.near g9 (fun b e => by have e' : b = w.heap.size + 1 + 1 := e; omega)))
  have HRC := hik (show prc n z s r q g = (if (n : Int) = psv s r q g ∧ pfb (rdP z s.r.toNat s.q.toNat r.toNat q.toNat 0) s r q g = true then 0 else 3) by unfold prc; rw [if_neg hlen, b1, b2]; rfl)
  have HRV := hik (show prv n z s r q g = if prc n z s r q g = 0 then (rdP z s.r.toNat s.q.toNat r.toNat q.toNat 0) else noP from rfl)
  have hb9 := sysb_b9 b1
  have ht9 := stb_parts b2
  have HPV := hik (show psv s r q g = 64 + 32 * s.r + 24 * s.q + osn (s.q - 1) r q by unfold psv; rw [b1, b2]; rfl)
  have HB1 := hik b1
  have HB2 := hik b2
  have hlen' : n ≤ 65536 := by omega
  clear hlen b1 b2
  obtain ⟨R, hR⟩ : ∃ R : Nat, R = s.r.toNat := ⟨_, rfl⟩
  obtain ⟨C, hC⟩ : ∃ C : Nat, C = s.q.toNat := ⟨_, rfl⟩
  rw [← hR, ← hC] at HRC HRV
  obtain ⟨r', rfl⟩ : ∃ r' : Nat, r = (r' : Int) := ⟨r.toNat, by omega⟩
  obtain ⟨q', rfl⟩ : ∃ q' : Nat, q = (q' : Int) := ⟨q.toNat, by omega⟩
  rw [Int.toNat_natCast, Int.toNat_natCast] at HRC HRV
  have hR2 : s.r = (R : Int) := by omega
  have hC2 : s.q = (C : Int) := by omega
  have bR : 1 ≤ R ∧ R ≤ 5 ∧ 2 ≤ C ∧ C ≤ 5 ∧ 1 ≤ r' ∧ r' ≤ 3 ∧ 1 ≤ q' ∧ q' ≤ 8 := by omega
  have H3 := hik (show (n : Int) = psv s (r' : Int) (q' : Int) g ↔ n = prN R C r' q' by
    have a := osN_osn (C - 1) r' q' (by omega) (by omega)
    rw [HPV.out, hR2, hC2, show ((C : Int) - 1) = ((C - 1 : Nat) : Int) by omega, ← a]
    unfold prN
    omega)
  have HR2 := hik hR2
  have HC2 := hik hC2
  have BR := hik bR
  clear hR hC hb9 ht9 HPV hR2 hC2 bR
  go_enter Tryz.func5, Tryz.ntmps5
  go_upto_region 3 with fail
  generalize hW : ((w.alloc (.cells #[.int .i64 s.r, .int .i64 s.q, .int .i64 s.p, .slice y.cA s.nA y.pA, .slice y.cB s.nB y.pB, .slice y.cC s.nC y.pC] 43)).alloc (.cells #[.int .i64 (r' : Int), .int .i64 (q' : Int), .int .i64 g] 45)).alloc (.cells #[.string ⟨#[]⟩, .slice none 0 0, .int .i64 0, .int .i64 0, .int .i64 0, .int .i64 0, .int .i64 0, .int .i64 0, .slice none 0 0, .int .i64 0, .int .i64 0, .slice none 0 0, .slice none 0 0, .int .i64 0, .int .i64 0, .int .i64 0, .slice none 0 0] 37) = W0 at K0 RS RT RX ⊢
  clear hW
  have xs0 : W0.cell? ⟨w.heap.size, 0, none⟩ = some (.int .i64 s.r) := RS.out.cell (i := 0) (by omega)
  have xs1 : W0.cell? ⟨w.heap.size, 1, none⟩ = some (.int .i64 s.q) := RS.out.cell (i := 1) (by omega)
  have xs2 : W0.cell? ⟨w.heap.size, 2, none⟩ = some (.int .i64 s.p) := RS.out.cell (i := 2) (by omega)
  have xs3 : W0.cell? ⟨w.heap.size, 3, none⟩ = some (.slice y.cA s.nA y.pA) := RS.out.cell (i := 3) (by omega)
  have xs4 : W0.cell? ⟨w.heap.size, 4, none⟩ = some (.slice y.cB s.nB y.pB) := RS.out.cell (i := 4) (by omega)
  have xs5 : W0.cell? ⟨w.heap.size, 5, none⟩ = some (.slice y.cC s.nC y.pC) := RS.out.cell (i := 5) (by omega)
  go_wp2_with fail
  clear xs0 xs1 xs2 xs3 xs4 xs5
  refine (sSysOK_any s y _ (hik (hv.out.keep K0.out)) hsy).mono ?_
  rintro e W1 ⟨rfl, kk⟩
  replace K0 := hik (K0.out.trans kk)
  replace RS := hik (rowIs_keep RS.out kk)
  replace RT := hik (rowIs_keep RT.out kk)
  replace RX := hik (rowIs_keep RX.out kk)
  clear kk
  rw [HB1.out]
  have xt0 : W1.cell? ⟨w.heap.size + 1, 0, none⟩ = some (.int .i64 (r' : Int)) := RT.out.cell (i := 0) (by omega)
  have xt1 : W1.cell? ⟨w.heap.size + 1, 1, none⟩ = some (.int .i64 (q' : Int)) := RT.out.cell (i := 1) (by omega)
  have xt2 : W1.cell? ⟨w.heap.size + 1, 2, none⟩ = some (.int .i64 g) := RT.out.cell (i := 2) (by omega)
  go_wp2_with fail
  clear xt0 xt1 xt2
  refine (sSettingOK_any (r' : Int) (q' : Int) g _).mono ?_
  rintro e W2 ⟨rfl, kk⟩
  replace K0 := hik (K0.out.trans kk)
  replace RS := hik (rowIs_keep RS.out kk)
  replace RT := hik (rowIs_keep RT.out kk)
  replace RX := hik (rowIs_keep RX.out kk)
  clear kk
  rw [HB2.out]
  obtain ⟨tx, hcv, htx, hsz⟩ : ∃ t : ByteArray, (∀ W : World, Chg nob w W → (convert 22 9 (.slice c n cap)).run Tryz.prog W = .ok (.string t) W) ∧ t.size = n ∧ ∀ i, i < n → sz t i = z i :=
    ⟨_, fun W k => conv_bytes c n cap z W (h.out.keep k), by rw [strOfNums_size]; simp, fun i hi => sz_nums z n i hi (hz.out i).1 (hz.out i).2⟩
  have HTX := hik htx
  have HSZ := hik hsz
  have hcv1 := hcv W2 K0.out
  clear htx hsz hcv
  have xs0 : W2.cell? ⟨w.heap.size, 0, none⟩ = some (.int .i64 s.r) := RS.out.cell (i := 0) (by omega)
  have xs1 : W2.cell? ⟨w.heap.size, 1, none⟩ = some (.int .i64 s.q) := RS.out.cell (i := 1) (by omega)
  have xs2 : W2.cell? ⟨w.heap.size, 2, none⟩ = some (.int .i64 s.p) := RS.out.cell (i := 2) (by omega)
  have xs3 : W2.cell? ⟨w.heap.size, 3, none⟩ = some (.slice y.cA s.nA y.pA) := RS.out.cell (i := 3) (by omega)
  have xs4 : W2.cell? ⟨w.heap.size, 4, none⟩ = some (.slice y.cB s.nB y.pB) := RS.out.cell (i := 4) (by omega)
  have xs5 : W2.cell? ⟨w.heap.size, 5, none⟩ = some (.slice y.cC s.nC y.pC) := RS.out.cell (i := 5) (by omega)
  have xt0 : W2.cell? ⟨w.heap.size + 1, 0, none⟩ = some (.int .i64 (r' : Int)) := RT.out.cell (i := 0) (by omega)
  have xt1 : W2.cell? ⟨w.heap.size + 1, 1, none⟩ = some (.int .i64 (q' : Int)) := RT.out.cell (i := 1) (by omega)
  have xt2 : W2.cell? ⟨w.heap.size + 1, 2, none⟩ = some (.int .i64 g) := RT.out.cell (i := 2) (by omega)
  go_wp2_with fail
  clear xs0 xs1 xs2 xs3 xs4 xs5 xt0 xt1 xt2 hcv1
  refine (l14Read_any tx n R C r' q' g z s y _ HTX hlen' HSZ (hik (hv.out.keep K0.out)) hsy HR2.out HC2.out BR.out.1 BR.out.2.1 BR.out.2.2.1 BR.out.2.2.2.1 BR.out.2.2.2.2.1 BR.out.2.2.2.2.2.1 BR.out.2.2.2.2.2.2.1 BR.out.2.2.2.2.2.2.2).mono ?_
  rintro e W3 ⟨d, a, b, rfl, oo, kk, hb1, hb2⟩
  have OO := hik oo
  have HQ1 := hik hb1
  have HQ2 := hik hb2
  have hx2 : w.heap.size + 1 + 1 < W2.heap.size := RX.out.lt
  replace K0 := hik (K0.out.trans kk)
  replace RX := hik (rowIs_keep RX.out kk)
  have hW3 := kk.size
  clear kk oo RS RT hb1 hb2
  generalize hP : rdP z R C r' q' 0 = p at HRC HRV HQ1 HQ2
  clear hP
  have RB := hik (rowN_new W3 17 #[.string ⟨#[]⟩, .slice none 0 0, .int .i64 0, .int .i64 0, .int .i64 0, .int .i64 0, .int .i64 0, .int .i64 0, .slice none 0 0, .int .i64 0, .int .i64 0, .slice none 0 0, .slice none 0 0, .int .i64 0, .int .i64 0, .int .i64 0, .slice none 0 0] 37 rfl)
  have ka := (Chg.refl nob W3).alloc (.cells #[.string ⟨#[]⟩, .slice none 0 0, .int .i64 0, .int .i64 0, .int .i64 0, .int .i64 0, .int .i64 0, .int .i64 0, .slice none 0 0, .int .i64 0, .int .i64 0, .slice none 0 0, .slice none 0 0, .int .i64 0, .int .i64 0, .int .i64 0, .slice none 0 0] 37)
  have K1 := hik (K0.out.trans ka)
  have RX1 := hik (rowIs_keep RX.out ka)
  have OO1 := hik (OO.out.keep ka)
  clear ka
  have hx3 : w.heap.size + 1 + 1 < W3.heap.size := RX.out.lt
  have hA3 : (W3.alloc (.cells #[.string ⟨#[]⟩, .slice none 0 0, .int .i64 0, .int .i64 0, .int .i64 0, .int .i64 0, .int .i64 0, .int .i64 0, .slice none 0 0, .int .i64 0, .int .i64 0, .slice none 0 0, .slice none 0 0, .int .i64 0, .int .i64 0, .int .i64 0, .slice none 0 0] 37)).heap.size = W3.heap.size + 1 := by simp
  have HZ0 := hik (show w.heap.size + 1 + 1 < W2.heap.size ∧ W2.heap.size ≤ W3.heap.size by omega)
  clear OO K0
  cases b
  · have HB := hik (show prc n z s (r' : Int) (q' : Int) g = 3 by rw [HRC.out, if_neg (fun x => by have h9 := HQ2.out ⟨H3.out.1 x.1, x.2⟩; exact absurd h9 (by decide))])
    go_wp2_with (first | ((with_reducible refine wpList_store_all 37 (.tmp 8) (.tmp 29) rfl rfl (W3.heap.size) 17 (pfv d a) ?hx ?hy 37 _ RB.out infoPf (pfv_one d _) ?_); (case hx => rfl); (case hy => rfl); intro WB rB gB; have RX2 := hik (rowIs_chg RX1.out gB (fun e => by have e' : w.heap.size + 1 + 1 = W3.heap.size := e; omega)); have K2 := hik (K1.out.near gB (fun b e => by have e' : b = W3.heap.size := e; omega)); have OO2 := hik (OO1.out.chg gB (fun b h1 h2 e => by have e' : b = W3.heap.size := e; omega)); have RB1 := hik rB; have HZ := hik (show w.heap.size + 1 + 1 < W2.heap.size ∧ W2.heap.size ≤ W3.heap.size ∧ W3.heap.size < WB.heap.size by have h1 := HZ0.out; have h2 := gB.size; omega); clear gB rB RX1 K1 OO1 RB) | ((with_reducible refine wpList_store_all 37 (.tmp 6) (.tmp 33) rfl rfl (w.heap.size + 1 + 1) 17 (pfv noP noA) ?hx ?hy 37 _ RX2.out infoPf (pfv_one noP _) ?_); (case hx => rfl); (case hy => rfl); intro WE r9 g9))
    exact bodyPost_ret (results_row_tmp Tryz.results5 _ _ (w.heap.size + 1 + 1) 37 (rowA 17 (pfv noP noA)) (0, 0) _ rfl (rowA_of r9) Tryz.underlying37 rfl (by rw [rowA_size]; exact infoPf)) rfl (RpAns.no HB.out (by decide) rfl (K2.out.near g9 (fun b e => by have e' : b = w.heap.size + 1 + 1 := e; omega)))
  · have hq := HQ1.out rfl
    have HB := hik (show prc n z s (r' : Int) (q' : Int) g = 0 by rw [HRC.out, if_pos ⟨H3.out.2 hq.2.1, hq.2.2⟩])
    have HPE := hik hq.1
    clear hq
    go_wp2_with (first | ((with_reducible refine wpList_store_all 37 (.tmp 8) (.tmp 29) rfl rfl (W3.heap.size) 17 (pfv d a) ?hx ?hy 37 _ RB.out infoPf (pfv_one d _) ?_); (case hx => rfl); (case hy => rfl); intro WB rB gB; have RX2 := hik (rowIs_chg RX1.out gB (fun e => by have e' : w.heap.size + 1 + 1 = W3.heap.size := e; omega)); have K2 := hik (K1.out.near gB (fun b e => by have e' : b = W3.heap.size := e; omega)); have OO2 := hik (OO1.out.chg gB (fun b h1 h2 e => by have e' : b = W3.heap.size := e; omega)); have RB1 := hik rB; have HZ := hik (show w.heap.size + 1 + 1 < W2.heap.size ∧ W2.heap.size ≤ W3.heap.size ∧ W3.heap.size < WB.heap.size by have h1 := HZ0.out; have h2 := gB.size; omega); clear gB rB RX1 K1 OO1 RB) | ((with_reducible refine wpList_load_row rfl 37 (.tmp 8) rfl (W3.heap.size) ?hx 37 (rowA 17 (pfv d a)) (0, 0) _ (rowA_of RB1.out) Tryz.underlying37 rfl (by rw [rowA_size]; exact infoPf) ?_); (case hx => rfl)) | ((with_reducible refine wpList_store_all 37 (.tmp 6) (.tmp 34) rfl rfl (w.heap.size + 1 + 1) 17 (pfv d a) ?hx ?hy 37 _ RX2.out infoPf (pfv_one d _) ?_); (case hx => rfl); (case hy => rfl); intro WE r9 g9))
    have KE := K2.out.near g9 (fun b e => by have e' : b = w.heap.size + 1 + 1 := e; omega)
    have HSE := g9.size
    have OE := (OO2.out.chg g9 (fun b h1 h2 e => by have e' : b = w.heap.size + 1 + 1 := e; have := HZ.out; omega)).wide9 (lo' := w.heap.size) (hi' := WE.heap.size) (by have := HZ.out; omega) (by have := HZ.out; omega)
    refine bodyPost_ret (results_row_tmp Tryz.results5 _ _ (w.heap.size + 1 + 1) 37 (rowA 17 (pfv d a)) (0, 0) _ rfl (rowA_of r9) Tryz.underlying37 rfl (by rw [rowA_size]; exact infoPf)) rfl ?_
    rw [HRV.out, HB.out, if_pos rfl, show pfv d a = pfv p a from funext (fun i => pfv_eq HPE.out a i)]
    exact ⟨a, rfl, PrO.eq9 HPE.out OE, KE⟩

end Go.Proofs.YtppiilbcnkphbaaGreat

namespace Go.Proofs.YtppiilbcnkphbaaGreat
open Go.ChangeShapes Go.WideShapes Go.ChangeAt Go.RowKit
set_option linter.unusedVariables false
set_option maxRecDepth 100000
set_option linter.unusedSimpArgs false
set_option maxHeartbeats 8000000 in
theorem walkReadProof (c0 : Option Addr) (len0 cap0 : Nat) (z0 : Nat → Int) (s1 : Sy) (y1 : SyA) (a2 b2 d2 : Int) (w : World) (w0 : RowV w c0 len0 (bw z0)) (bg0 : (∀ j, 0 ≤ z0 j ∧ z0 j < 256) ∧ len0 ≤ 9223372036854775807) (w1 : SyV w s1 y1) (bg1 : s1.nA ≤ 9223372036854775807 ∧ s1.nB ≤ 9223372036854775807 ∧ s1.nC ≤ 9223372036854775807) :
    Calls Tryz.prog 3 #[.slice c0 len0 cap0, .agg #[.int .i64 s1.r, .int .i64 s1.q, .int .i64 s1.p, .slice y1.cA s1.nA y1.pA, .slice y1.cB s1.nB y1.pB, .slice y1.cC s1.nC y1.pC], .agg #[.int .i64 a2, .int .i64 b2, .int .i64 d2]] w fun e w' => e = .returned (.bool true) ∧ Below w.heap.size w w' := by
  have V0 := hik w0
  have V1 := hik w1
  have HZ := hik bg0.1
  have hl0 := bg0.2
  obtain ⟨bb1, bb2, bb3⟩ := bg1
  clear w0 bg0 w1
  have K0 := hik (((Chg.refl nob w).alloc (.cells #[.int .i64 s1.r, .int .i64 s1.q, .int .i64 s1.p, .slice y1.cA s1.nA y1.pA, .slice y1.cB s1.nB y1.pB, .slice y1.cC s1.nC y1.pC] 25)).alloc (.cells #[.int .i64 a2, .int .i64 b2, .int .i64 d2] 27))
  have RS := hik (rowIs_keep (rowN_new w 6 #[.int .i64 s1.r, .int .i64 s1.q, .int .i64 s1.p, .slice y1.cA s1.nA y1.pA, .slice y1.cB s1.nB y1.pB, .slice y1.cC s1.nC y1.pC] 25 rfl) ((Chg.refl nob _).alloc (.cells #[.int .i64 a2, .int .i64 b2, .int .i64 d2] 27)))
  have RT := hik (rowN_new (w.alloc (.cells #[.int .i64 s1.r, .int .i64 s1.q, .int .i64 s1.p, .slice y1.cA s1.nA y1.pA, .slice y1.cB s1.nB y1.pB, .slice y1.cC s1.nC y1.pC] 25)) 3 #[.int .i64 a2, .int .i64 b2, .int .i64 d2] 27 rfl)
  rw [asz] at RT
  have zs0 := hik (show w.heap.size + 1 + 1 ≤ ((w.alloc (.cells #[.int .i64 s1.r, .int .i64 s1.q, .int .i64 s1.p, .slice y1.cA s1.nA y1.pA, .slice y1.cB s1.nB y1.pB, .slice y1.cC s1.nC y1.pC] 25)).alloc (.cells #[.int .i64 a2, .int .i64 b2, .int .i64 d2] 27)).heap.size by simp)
  by_cases hm : 1048576 < len0
  · have hm' : (1048576 : Int) < (len0 : Int) := by omega
    go_enter Tryz.func3, Tryz.ntmps3
    go_wp2_with fail
    go_ret
    exact ⟨rfl, K0.out.toBelow⟩
  have hm' : ¬ (1048576 : Int) < (len0 : Int) := by omega
  have HN := hik (show len0 ≤ 1048576 by omega)
  by_cases hm1 : (1048576 : Int) < ((s1.nA + s1.nB + s1.nC : Nat) : Int)
  · go_enter Tryz.func3, Tryz.ntmps3
    go_wp2_with fail
    refine (szSystem_no s1 y1 1048576 _ hm1 (by omega) (by omega) (by omega) (by omega) (by omega)).mono ?_
    rintro e W1 ⟨rfl, kk⟩
    replace K0 := hik (K0.out.trans kk)
    clear kk
    as_aux_lemma =>
      go_wp2
      go_ret
      exact ⟨rfl, K0.out.toBelow⟩
  have hs1 : s1.small := ⟨by omega, by omega, by omega⟩
  have hn1 : s1.nA + s1.nB + s1.nC ≤ 1048576 := by omega
  have HSC := hik (fun (c : Option Addr) (cap : Nat) (w' : World) (h : Hid (RowV w' c len0 (bw z0))) (a : SyA) (h' : Hid (SyV w' s1 a)) => sReadProof_any c len0 cap z0 s1 a a2 b2 d2 w' h HZ (by omega) h' hs1)
  have HI := hik (fun (c : Option Addr) (cap : Nat) (w' : World) (h : Hid (RowV w' c len0 (bw z0))) (hcap : len0 ≤ cap) (hc : (cap : Int) ≤ 9223372036854775807) (a : SyA) (h' : Hid (SyV w' s1 a)) => readProof_any c len0 cap z0 s1 a a2 b2 d2 w' h HZ (by omega) hcap hc h' hs1)
  have hsm := prv_small len0 z0 s1 a2 b2 d2
  generalize prc len0 z0 s1 a2 b2 d2 = cd at HSC HI
  generalize prv len0 z0 s1 a2 b2 d2 = D at HSC HI hsm
  have HSM := hik hsm.1
  have hmc := hsm.2
  have HMC := hik hmc
  clear hsm hmc
  go_enter Tryz.func3, Tryz.ntmps3
  go_wp2_with fail
  refine (szSystem_ok s1 y1 1048576 _ (by omega) (by omega)).mono ?_
  rintro e W0 ⟨rfl, kk⟩
  replace K0 := hik (K0.out.trans kk)
  replace RS := hik (rowIs_keep RS.out kk)
  replace RT := hik (rowIs_keep RT.out kk)
  replace zs0 := hik (Nat.le_trans zs0.out kk.size)
  have hp1 : ¬ (1048576 : Int) - (s1.nA : Int) - (s1.nB : Int) - (s1.nC : Int) < 0 := by omega
  clear kk hm hm' hm1 bb1 bb2 bb3
  go_upto_region 7 with fail
  go_cut [8, 9] (fun pp qq W => ∃ (aS : PA) (gZ lo hi : Nat), pp = .pointer (some ⟨gZ, 0, none⟩) ∧ qq = .int .i64 cd ∧ Hid (PrO W lo hi D aS) ∧ Hid (W.rowIs gZ 37 17 (pfv D aS)) ∧ Hid (Chg nob W0 W) ∧ Hid (W0.heap.size ≤ gZ ∧ W0.heap.size ≤ lo ∧ ¬ (lo ≤ gZ ∧ gZ < hi) ∧ lo ≤ hi ∧ hi ≤ W.heap.size))
  case first =>
    as_aux_lemma =>
      have xRT0 : W0.cell? ⟨w.heap.size + 1, 0, none⟩ = some (.int .i64 a2) := RT.out.cell (i := 0) (by omega)
      have xRT1 : W0.cell? ⟨w.heap.size + 1, 1, none⟩ = some (.int .i64 b2) := RT.out.cell (i := 1) (by omega)
      have xRT2 : W0.cell? ⟨w.heap.size + 1, 2, none⟩ = some (.int .i64 d2) := RT.out.cell (i := 2) (by omega)
      have zRT := RT.out.lt
      have xRS0 : W0.cell? ⟨w.heap.size, 0, none⟩ = some (.int .i64 s1.r) := RS.out.cell (i := 0) (by omega)
      have xRS1 : W0.cell? ⟨w.heap.size, 1, none⟩ = some (.int .i64 s1.q) := RS.out.cell (i := 1) (by omega)
      have xRS2 : W0.cell? ⟨w.heap.size, 2, none⟩ = some (.int .i64 s1.p) := RS.out.cell (i := 2) (by omega)
      have xRS3 : W0.cell? ⟨w.heap.size, 3, none⟩ = some (.slice y1.cA s1.nA y1.pA) := RS.out.cell (i := 3) (by omega)
      have xRS4 : W0.cell? ⟨w.heap.size, 4, none⟩ = some (.slice y1.cB s1.nB y1.pB) := RS.out.cell (i := 4) (by omega)
      have xRS5 : W0.cell? ⟨w.heap.size, 5, none⟩ = some (.slice y1.cC s1.nC y1.pC) := RS.out.cell (i := 5) (by omega)
      have zRS := RS.out.lt
      have SA := hik (fun (WW : World) (kW : Chg nob W0 WW) => (show (WW.cell? ⟨w.heap.size + 1, 0, none⟩ = some (.int .i64 a2) ∧ WW.cell? ⟨w.heap.size + 1, 1, none⟩ = some (.int .i64 b2) ∧ WW.cell? ⟨w.heap.size + 1, 2, none⟩ = some (.int .i64 d2) ∧ WW.cell? ⟨w.heap.size, 0, none⟩ = some (.int .i64 s1.r) ∧ WW.cell? ⟨w.heap.size, 1, none⟩ = some (.int .i64 s1.q) ∧ WW.cell? ⟨w.heap.size, 2, none⟩ = some (.int .i64 s1.p) ∧ WW.cell? ⟨w.heap.size, 3, none⟩ = some (.slice y1.cA s1.nA y1.pA) ∧ WW.cell? ⟨w.heap.size, 4, none⟩ = some (.slice y1.cB s1.nB y1.pB) ∧ WW.cell? ⟨w.heap.size, 5, none⟩ = some (.slice y1.cC s1.nC y1.pC)) from ⟨kW.see xRT0, kW.see xRT1, kW.see xRT2, kW.see xRS0, kW.see xRS1, kW.see xRS2, kW.see xRS3, kW.see xRS4, kW.see xRS5⟩))
      refine wp_regionC [⟨10, 8, .cells #[.string ⟨#[]⟩, .slice none 0 0, .int .i64 0, .int .i64 0, .int .i64 0, .int .i64 0, .int .i64 0, .int .i64 0, .slice none 0 0, .int .i64 0, .int .i64 0, .slice none 0 0, .slice none 0 0, .int .i64 0, .int .i64 0, .int .i64 0, .slice none 0 0] 37, fun b => .pointer (some ⟨b, 0, none⟩)⟩] 12 (by kernel_rfl) (by rfl) (by rfl) (by kernel_rfl) ?_
      refine wpC_take (i := 0) (v := ?_) rfl (by kernel_rfl) (by kernel_rfl) (by rfl) (fun _ _ _ h => h) (fun u => Or.inl ⟨by rfl, ?_⟩) ?_
      rotate_left 1
      · (intro w' hSw; have hSw := SA.out _ hSw; (try dsimp only at hSw); try simp only [putF, Act.put, List.setIfInBounds_toArray, List.set_cons_zero, List.set_cons_succ, List.getElem_toArray, List.getElem_cons_zero, List.getElem_cons_succ]; go_simp; try with_reducible rfl)
      try simp only [Act.put, List.setIfInBounds_toArray, List.set_cons_zero, List.set_cons_succ, List.getElem_toArray, List.getElem_cons_zero, List.getElem_cons_succ]
      as_aux_lemma =>
        refine wpC_take (i := 2) (v := ?_) rfl (by kernel_rfl) (by kernel_rfl) (by rfl) (fun _ _ _ h => h) (fun u => Or.inl ⟨by rfl, ?_⟩) ?_
        rotate_left 1
        · (intro w' hSw; have hSw := SA.out _ hSw; (try dsimp only at hSw); try simp only [putF, Act.put, List.setIfInBounds_toArray, List.set_cons_zero, List.set_cons_succ, List.getElem_toArray, List.getElem_cons_zero, List.getElem_cons_succ]; go_simp; try with_reducible rfl)
        try simp only [Act.put, List.setIfInBounds_toArray, List.set_cons_zero, List.set_cons_succ, List.getElem_toArray, List.getElem_cons_zero, List.getElem_cons_succ]
        as_aux_lemma =>
          refine wpC_take (i := 4) (v := ?_) rfl (by kernel_rfl) (by kernel_rfl) (by rfl) (fun _ _ _ h => h) (fun u => Or.inl ⟨by rfl, ?_⟩) ?_
          rotate_left 1
          · (intro w' hSw; have hSw := SA.out _ hSw; (try dsimp only at hSw); try simp only [putF, Act.put, List.setIfInBounds_toArray, List.set_cons_zero, List.set_cons_succ, List.getElem_toArray, List.getElem_cons_zero, List.getElem_cons_succ]; go_simp; try with_reducible rfl)
          try simp only [Act.put, List.setIfInBounds_toArray, List.set_cons_zero, List.set_cons_succ, List.getElem_toArray, List.getElem_cons_zero, List.getElem_cons_succ]
          as_aux_lemma =>
            refine wpC_step (i := 1) rfl (by kernel_rfl) (by rfl) (List.forall_mem_cons.2 ⟨FloOK.alloc rfl 37 rfl rfl rfl (fun w => by go_simp), (fun _ h => absurd h List.not_mem_nil)⟩) (by rfl) ?_
            intro bb gg uu U1' hrd hB k0 kW K' hK
            clear hrd hB
            have KW := hik k0
            clear kW k0
            refine stepL_callN 6 #[.tmp 28] #[22] (by rfl) (by rfl) #[.slice c0 len0 cap0] (by (try simp only [putF, Act.put, List.setIfInBounds_toArray, List.set_cons_zero, List.set_cons_succ, List.getElem_toArray, List.getElem_cons_zero, List.getElem_cons_succ]); simp only [List.map_toArray, List.map_cons, List.map_nil] <;> rfl) (run_go Tryz.func6 (by kernel_rfl) (by kernel_rfl) _ _) (toByteS_any c0 len0 cap0 z0 _ (hik (V0.out.keep (K0.out.trans KW.out))) (by have := HN.out; omega)) ?_
            rintro e U1 ⟨he, ri, kk⟩
            generalize hxb : (U1').heap.size = xb at he ri
            clear hxb
            have IY := hik (RowV.of_row ri (Nat.le_refl _))
            clear ri
            refine ⟨_, he, hK _ _ kk ?_⟩
            have hsU1 := hik kk.size
            clear he kk hK K' KW bb gg uu
            try simp only [Act.put, List.setIfInBounds_toArray, List.set_cons_zero, List.set_cons_succ, List.getElem_toArray, List.getElem_cons_zero, List.getElem_cons_succ]
            refine wpC_step (i := 3) rfl (by kernel_rfl) (by rfl) (List.forall_mem_cons.2 ⟨FloOK.alloc rfl 37 rfl rfl rfl (fun w => by go_simp), (fun _ h => absurd h List.not_mem_nil)⟩) (by rfl) ?_
            intro bb gg uu U2' hrd hB k0 kW K' hK
            clear hrd hB
            have KW := hik k0
            replace IY := hik (IY.out.keep kW)
            clear kW k0
            refine stepL_callN 7 #[.tmp 30] #[25] (by rfl) (by rfl) #[.agg #[.int .i64 s1.r, .int .i64 s1.q, .int .i64 s1.p, .slice y1.cA s1.nA y1.pA, .slice y1.cB s1.nB y1.pB, .slice y1.cC s1.nC y1.pC]] (by (try simp only [putF, Act.put, List.setIfInBounds_toArray, List.set_cons_zero, List.set_cons_succ, List.getElem_toArray, List.getElem_cons_zero, List.getElem_cons_succ]); simp only [List.map_toArray, List.map_cons, List.map_nil] <;> rfl) (run_go Tryz.func7 (by kernel_rfl) (by kernel_rfl) _ _) (toSystem_o s1 y1 _ (hik (V1.out.keep (K0.out.trans KW.out))) hs1) ?_
            rintro e U2 ⟨yj, he, oy, kk⟩
            replace IY := hik (IY.out.keep kk)
            have TY := hik oy.rep
            clear oy
            refine ⟨_, he, hK _ _ kk ?_⟩
            have hsU2 := hik kk.size
            clear he kk hK K' KW bb gg uu
            try simp only [Act.put, List.setIfInBounds_toArray, List.set_cons_zero, List.set_cons_succ, List.getElem_toArray, List.getElem_cons_zero, List.getElem_cons_succ]
            refine wpC_step (i := 5) rfl (by kernel_rfl) (by rfl) (List.forall_mem_cons.2 ⟨FloOK.alloc rfl 37 rfl rfl rfl (fun w => by go_simp), (fun _ h => absurd h List.not_mem_nil)⟩) (by rfl) ?_
            intro bb gg uu U3' hrd hB k0 kW K' hK
            clear hrd hB
            have KW := hik k0
            replace IY := hik (IY.out.keep kW)
            replace TY := hik (TY.out.keep kW)
            clear kW k0
            refine stepL_callN 8 #[.tmp 32] #[27] (by rfl) (by rfl) #[.agg #[.int .i64 a2, .int .i64 b2, .int .i64 d2]] (by (try simp only [putF, Act.put, List.setIfInBounds_toArray, List.set_cons_zero, List.set_cons_succ, List.getElem_toArray, List.getElem_cons_zero, List.getElem_cons_succ]); simp only [List.map_toArray, List.map_cons, List.map_nil] <;> rfl) (run_go Tryz.func8 (by kernel_rfl) (by kernel_rfl) _ _) (toSetting_any a2 b2 d2 _) ?_
            rintro e U3 ⟨he, kk⟩
            replace IY := hik (IY.out.keep kk)
            replace TY := hik (TY.out.keep kk)
            refine ⟨_, he, hK _ _ kk ?_⟩
            have hsU3 := hik kk.size
            clear he kk hK K' KW bb gg uu
            try simp only [Act.put, List.setIfInBounds_toArray, List.set_cons_zero, List.set_cons_succ, List.getElem_toArray, List.getElem_cons_zero, List.getElem_cons_succ]
            refine wpC_step (i := 6) rfl (by kernel_rfl) (by rfl) (List.forall_mem_cons.2 ⟨FloOK.alloc rfl 37 rfl rfl rfl (fun w => by go_simp), (fun _ h => absurd h List.not_mem_nil)⟩) (by rfl) ?_
            intro bb gg uu U4' hrd hB k0 kW K' hK
            clear hrd hB
            have KW := hik k0
            replace IY := hik (IY.out.keep kW)
            replace TY := hik (TY.out.keep kW)
            clear kW k0
            refine stepL_callN 5 #[.tmp 29, .tmp 31, .tmp 33] #[22, 43, 45] (by rfl) (by rfl) #[.slice (some ⟨xb, 0, none⟩) len0 len0, .agg #[.int .i64 s1.r, .int .i64 s1.q, .int .i64 s1.p, .slice yj.cA s1.nA yj.pA, .slice yj.cB s1.nB yj.pB, .slice yj.cC s1.nC yj.pC], .agg #[.int .i64 a2, .int .i64 b2, .int .i64 d2]] (by (try simp only [putF, Act.put, List.setIfInBounds_toArray, List.set_cons_zero, List.set_cons_succ, List.getElem_toArray, List.getElem_cons_zero, List.getElem_cons_succ]); simp only [List.map_toArray, List.map_cons, List.map_nil] <;> rfl) (run_go Tryz.func5 (by kernel_rfl) (by kernel_rfl) _ _) (HSC.out (some ⟨xb, 0, none⟩) len0 _ IY yj TY) ?_
            rintro e U4 ⟨aS, he, rS, kk⟩
            replace IY := hik (IY.out.keep kk)
            replace TY := hik (TY.out.keep kk)
            have OS := hik rS
            have HLO := hik (show W0.heap.size ≤ U4'.heap.size from KW.out.size)
            clear rS
            refine ⟨_, he, hK _ _ kk ?_⟩
            have hsU4 := hik kk.size
            clear he kk hK K' KW bb gg uu
            try simp only [Act.put, List.setIfInBounds_toArray, List.set_cons_zero, List.set_cons_succ, List.getElem_toArray, List.getElem_cons_zero, List.getElem_cons_succ]
            refine wpC_take (i := 7) (v := ?_) rfl (by kernel_rfl) (by kernel_rfl) (by rfl) (fun _ _ _ h => h) (fun u => Or.inl ⟨by rfl, ?_⟩) ?_
            rotate_left 1
            · (intro w' hSw; have hSw := SA.out _ hSw; (try dsimp only at hSw); try simp only [putF, Act.put, List.setIfInBounds_toArray, List.set_cons_zero, List.set_cons_succ, List.getElem_toArray, List.getElem_cons_zero, List.getElem_cons_succ]; go_simp; try with_reducible rfl)
            try simp only [Act.put, List.setIfInBounds_toArray, List.set_cons_zero, List.set_cons_succ, List.getElem_toArray, List.getElem_cons_zero, List.getElem_cons_succ]
            as_aux_lemma =>
              refine wpC_take (i := 8) (v := ?_) rfl (by kernel_rfl) (by kernel_rfl) (by rfl) (fun _ _ _ h => h) (fun u => Or.inl ⟨by rfl, ?_⟩) ?_
              rotate_left 1
              · (intro w' hSw; have hSw := SA.out _ hSw; (try dsimp only at hSw); try simp only [putF, Act.put, List.setIfInBounds_toArray, List.set_cons_zero, List.set_cons_succ, List.getElem_toArray, List.getElem_cons_zero, List.getElem_cons_succ]; go_simp; try with_reducible rfl)
              try simp only [Act.put, List.setIfInBounds_toArray, List.set_cons_zero, List.set_cons_succ, List.getElem_toArray, List.getElem_cons_zero, List.getElem_cons_succ]
              as_aux_lemma =>
                refine wpC_take (i := 9) (v := ?_) rfl (by kernel_rfl) (by kernel_rfl) (by rfl) (fun _ _ _ h => h) (fun u => Or.inl ⟨by rfl, ?_⟩) ?_
                rotate_left 1
                · (intro w' hSw; have hSw := SA.out _ hSw; (try dsimp only at hSw); try simp only [putF, Act.put, List.setIfInBounds_toArray, List.set_cons_zero, List.set_cons_succ, List.getElem_toArray, List.getElem_cons_zero, List.getElem_cons_succ]; go_simp; try with_reducible rfl)
                try simp only [Act.put, List.setIfInBounds_toArray, List.set_cons_zero, List.set_cons_succ, List.getElem_toArray, List.getElem_cons_zero, List.getElem_cons_succ]
                as_aux_lemma =>
                  refine wpC_all (by kernel_rfl) (by rfl) (List.forall_mem_cons.2 ⟨FloOK.alloc rfl 37 rfl rfl rfl (fun w => by go_simp), (fun _ h => absurd h List.not_mem_nil)⟩) ?_
                  intro gg uu Uz hB k0 kW
                  have KW := hik k0
                  have HTOP := hik kW.size
                  replace IY := hik (IY.out.keep kW)
                  replace TY := hik (TY.out.keep kW)
                  replace OS := hik (OS.out.keep kW)
                  obtain ⟨eu0, hg0, hl0, hc0, ha0, hd0⟩ := hB 0 _ rfl rfl
                  have eu0 : uu 0 = .pointer (some ⟨gg 0, 0, none⟩) := eu0
                  have BX0 := hik (rowN_at (n := 17) hc0 rfl)
                  clear hd0 hc0 hl0
                  clear hB kW
                  generalize gg 0 = g0 at eu0 hg0 ha0 BX0
                  refine wpAnyH_as (fuel' := 2) rfl (listed' := #[true, true, true, true, true, true, true, true, true, true, true, false, false]) (by kernel_rfl) ?_
                  simp only [putF, eu0, Act.put, List.setIfInBounds_toArray, List.set_cons_zero, List.set_cons_succ, List.getElem_toArray, List.getElem_cons_zero, List.getElem_cons_succ]
                  clear eu0
                  have hHeld := k0
                  clear k0
                  refine wpAnyH_ready (rs := [11]) (by kernel_rfl) (by simp) ?_
                  refine AllReadyH.cons rfl (fun K hK => ?_) AllReadyH.nil
                  refine stepL_store_row 37 (.tmp 8) (.tmp 35) rfl (by rfl) g0 17 (pfv D aS) (by rfl) (by rfl) 37 _ BX0.out infoPf (fun i hi => pfv_one _ _ i hi) ?_
                  intro US1 r9 g9
                  have RB0 := hik r9
                  have C7 := hik g9
                  clear r9 g9
                  replace KW : Hid (Chg nob W0 US1) := hik (KW.out.near C7.out (fun b e => by have e' : b = g0 := e; omega))
                  refine hK.out _ _ KW.out (fun hHeld => ?_)
                  clear hK K
                  try simp only [Act.put, List.setIfInBounds_toArray, List.set_cons_zero, List.set_cons_succ, List.getElem_toArray, List.getElem_cons_zero, List.getElem_cons_succ]
                  replace OS := hik (OS.out.chg C7.out (fun c h1 h2 e => ha0 (.inr ⟨by rw [← show c = g0 from e]; exact h1, by rw [← show c = g0 from e]; exact h2⟩)))
                  replace HTOP := hik (Nat.le_trans HTOP.out C7.out.size)
                  clear C7 BX0
                  refine wpAnyH_take (i := 12) (v := ?_) rfl (by kernel_rfl) (by kernel_rfl) (by kernel_rfl) (fun _ _ _ h => h) (Or.inl ⟨by rfl, ?_⟩) (by assumption) ?_
                  rotate_left 1
                  · (intro w' hSw; (try dsimp only at hSw); go_simp; try with_reducible rfl)
                  try simp only [Act.put, List.setIfInBounds_toArray, List.set_cons_zero, List.set_cons_succ, List.getElem_toArray, List.getElem_cons_zero, List.getElem_cons_succ]
                  as_aux_lemma =>
                    refine wpAnyH_done (by kernel_rfl) ?_ _
                    clear SA
                    go_wp2_with fail
                    go_meet
                    exact ⟨aS, g0, U4'.heap.size, U4.heap.size, rfl, rfl, OS, RB0, KW, hik ⟨hg0, HLO.out, fun x => ha0 (.inr x), hsU4.out, HTOP.out⟩⟩
  case rest =>
    as_aux_lemma =>
      obtain ⟨aw, gw, low, hiw, rfl, rfl, Ow, Rw, KW, Bw⟩ := hcut
      rename World => W1
      have zs1 := hik KW.out.size
      replace K0 := hik (K0.out.trans KW.out)
      replace RS := hik (rowIs_keep RS.out KW.out)
      replace RT := hik (rowIs_keep RT.out KW.out)
      clear KW
      have lw := hik Rw.out.lt
      go_wp2_with fail
      refine (toByteS_any c0 len0 cap0 z0 _ (hik (V0.out.keep K0.out)) (by have := HN.out; omega)).mono ?_
      rintro e W2 ⟨rfl, ri, kk⟩
      have zs2 := hik kk.size
      replace K0 := hik (K0.out.trans kk)
      replace RS := hik (rowIs_keep RS.out kk)
      replace RT := hik (rowIs_keep RT.out kk)
      replace Ow := hik (Ow.out.keep kk)
      replace Rw := hik (rowIs_keep Rw.out kk)
      have IX := hik ri
      have li := hik ri.lt
      clear ri
      clear kk
      as_aux_lemma =>
        generalize hgi : W1.heap.size = gi at IX li ⊢
        have HGI := hik hgi
        clear hgi
        have xRS0 : W2.cell? ⟨w.heap.size, 0, none⟩ = some (.int .i64 s1.r) := RS.out.cell (i := 0) (by omega)
        have xRS1 : W2.cell? ⟨w.heap.size, 1, none⟩ = some (.int .i64 s1.q) := RS.out.cell (i := 1) (by omega)
        have xRS2 : W2.cell? ⟨w.heap.size, 2, none⟩ = some (.int .i64 s1.p) := RS.out.cell (i := 2) (by omega)
        have xRS3 : W2.cell? ⟨w.heap.size, 3, none⟩ = some (.slice y1.cA s1.nA y1.pA) := RS.out.cell (i := 3) (by omega)
        have xRS4 : W2.cell? ⟨w.heap.size, 4, none⟩ = some (.slice y1.cB s1.nB y1.pB) := RS.out.cell (i := 4) (by omega)
        have xRS5 : W2.cell? ⟨w.heap.size, 5, none⟩ = some (.slice y1.cC s1.nC y1.pC) := RS.out.cell (i := 5) (by omega)
        have zRS := RS.out.lt
        go_wp2_with fail
        refine (toSystem_o s1 y1 _ (hik (V1.out.keep K0.out)) hs1).mono ?_
        rintro e W3 ⟨ya, rfl, oy, kk⟩
        clear xRS0 xRS1 xRS2 xRS3 xRS4 xRS5 zRS
        have zs3 := hik kk.size
        replace K0 := hik (K0.out.trans kk)
        replace RS := hik (rowIs_keep RS.out kk)
        replace RT := hik (rowIs_keep RT.out kk)
        replace Ow := hik (Ow.out.keep kk)
        replace Rw := hik (rowIs_keep Rw.out kk)
        replace IX := hik (rowIs_keep IX.out kk)
        have OY := hik oy
        clear oy
        clear kk
        as_aux_lemma =>
          obtain ⟨loy, hly⟩ : ∃ x, x = W2.heap.size := ⟨_, rfl⟩
          obtain ⟨hiy, hhy⟩ : ∃ x, x = W3.heap.size := ⟨_, rfl⟩
          rw [← hly, ← hhy] at OY
          have HLY := hik (And.intro hly hhy)
          clear hly hhy
          go_upto_region 10 with fail
          have kk := (Chg.refl nob W3).alloc (.cells #[.int .i64 s1.r, .int .i64 s1.q, .int .i64 s1.p, .slice ya.cA s1.nA ya.pA, .slice ya.cB s1.nB ya.pB, .slice ya.cC s1.nC ya.pC] 43)
          have RY := hik (rowN_new W3 6 #[.int .i64 s1.r, .int .i64 s1.q, .int .i64 s1.p, .slice ya.cA s1.nA ya.pA, .slice ya.cB s1.nB ya.pB, .slice ya.cC s1.nC ya.pC] 43 rfl)
          have zs4 := hik (show W3.heap.size + 1 = (W3.alloc (.cells #[.int .i64 s1.r, .int .i64 s1.q, .int .i64 s1.p, .slice ya.cA s1.nA ya.pA, .slice ya.cB s1.nB ya.pB, .slice ya.cC s1.nC ya.pC] 43)).heap.size by simp)
          replace K0 := hik (K0.out.trans kk)
          replace RS := hik (rowIs_keep RS.out kk)
          replace RT := hik (rowIs_keep RT.out kk)
          replace Ow := hik (Ow.out.keep kk)
          replace Rw := hik (rowIs_keep Rw.out kk)
          replace IX := hik (rowIs_keep IX.out kk)
          replace OY := hik (OY.out.keep kk)
          clear kk
          as_aux_lemma =>
            generalize hE : W3.alloc (.cells #[.int .i64 s1.r, .int .i64 s1.q, .int .i64 s1.p, .slice ya.cA s1.nA ya.pA, .slice ya.cB s1.nB ya.pB, .slice ya.cC s1.nC ya.pC] 43) = W4 at K0 RS RT Ow Rw IX OY RY zs4 ⊢
            clear hE
            obtain ⟨gy, hg_⟩ : ∃ x, x = W3.heap.size := ⟨_, rfl⟩
            rw [← hg_] at RY
            rw [← hg_]
            have Hgy := hik hg_
            clear hg_
            go_upto_region 10 with fail
            go_cut [12, 13] (fun pp qq W => ∃ (aS : PA) (gZ lo hi : Nat), pp = .pointer (some ⟨gZ, 0, none⟩) ∧ qq = .int .i64 cd ∧ Hid (PrO W lo hi D aS) ∧ Hid (W.rowIs gZ 37 17 (pfv D aS)) ∧ Hid (Chg nob W4 W) ∧ Hid (W4.heap.size ≤ gZ ∧ W4.heap.size ≤ lo ∧ ¬ (lo ≤ gZ ∧ gZ < hi) ∧ lo ≤ hi ∧ hi ≤ W.heap.size))
            case first =>
              as_aux_lemma =>
                have xRT0 : W4.cell? ⟨w.heap.size + 1, 0, none⟩ = some (.int .i64 a2) := RT.out.cell (i := 0) (by omega)
                have xRT1 : W4.cell? ⟨w.heap.size + 1, 1, none⟩ = some (.int .i64 b2) := RT.out.cell (i := 1) (by omega)
                have xRT2 : W4.cell? ⟨w.heap.size + 1, 2, none⟩ = some (.int .i64 d2) := RT.out.cell (i := 2) (by omega)
                have zRT := RT.out.lt
                have xRY0 : W4.cell? ⟨gy, 0, none⟩ = some (.int .i64 s1.r) := RY.out.cell (i := 0) (by omega)
                have xRY1 : W4.cell? ⟨gy, 1, none⟩ = some (.int .i64 s1.q) := RY.out.cell (i := 1) (by omega)
                have xRY2 : W4.cell? ⟨gy, 2, none⟩ = some (.int .i64 s1.p) := RY.out.cell (i := 2) (by omega)
                have xRY3 : W4.cell? ⟨gy, 3, none⟩ = some (.slice ya.cA s1.nA ya.pA) := RY.out.cell (i := 3) (by omega)
                have xRY4 : W4.cell? ⟨gy, 4, none⟩ = some (.slice ya.cB s1.nB ya.pB) := RY.out.cell (i := 4) (by omega)
                have xRY5 : W4.cell? ⟨gy, 5, none⟩ = some (.slice ya.cC s1.nC ya.pC) := RY.out.cell (i := 5) (by omega)
                have zRY := RY.out.lt
                have SA := hik (fun (WW : World) (kW : Chg nob W4 WW) => (show (WW.cell? ⟨w.heap.size + 1, 0, none⟩ = some (.int .i64 a2) ∧ WW.cell? ⟨w.heap.size + 1, 1, none⟩ = some (.int .i64 b2) ∧ WW.cell? ⟨w.heap.size + 1, 2, none⟩ = some (.int .i64 d2) ∧ WW.cell? ⟨gy, 0, none⟩ = some (.int .i64 s1.r) ∧ WW.cell? ⟨gy, 1, none⟩ = some (.int .i64 s1.q) ∧ WW.cell? ⟨gy, 2, none⟩ = some (.int .i64 s1.p) ∧ WW.cell? ⟨gy, 3, none⟩ = some (.slice ya.cA s1.nA ya.pA) ∧ WW.cell? ⟨gy, 4, none⟩ = some (.slice ya.cB s1.nB ya.pB) ∧ WW.cell? ⟨gy, 5, none⟩ = some (.slice ya.cC s1.nC ya.pC)) from ⟨kW.see xRT0, kW.see xRT1, kW.see xRT2, kW.see xRY0, kW.see xRY1, kW.see xRY2, kW.see xRY3, kW.see xRY4, kW.see xRY5⟩))
                refine wp_regionC [⟨8, 12, .cells #[.string ⟨#[]⟩, .slice none 0 0, .int .i64 0, .int .i64 0, .int .i64 0, .int .i64 0, .int .i64 0, .int .i64 0, .slice none 0 0, .int .i64 0, .int .i64 0, .slice none 0 0, .slice none 0 0, .int .i64 0, .int .i64 0, .int .i64 0, .slice none 0 0] 37, fun b => .pointer (some ⟨b, 0, none⟩)⟩] 10 (by kernel_rfl) (by rfl) (by rfl) (by kernel_rfl) ?_
                refine wpC_take (i := 0) (v := ?_) rfl (by kernel_rfl) (by kernel_rfl) (by rfl) (fun _ _ _ h => h) (fun u => Or.inl ⟨by rfl, ?_⟩) ?_
                rotate_left 1
                · (intro w' hSw; have hSw := SA.out _ hSw; (try dsimp only at hSw); try simp only [putF, Act.put, List.setIfInBounds_toArray, List.set_cons_zero, List.set_cons_succ, List.getElem_toArray, List.getElem_cons_zero, List.getElem_cons_succ]; go_simp; try with_reducible rfl)
                try simp only [Act.put, List.setIfInBounds_toArray, List.set_cons_zero, List.set_cons_succ, List.getElem_toArray, List.getElem_cons_zero, List.getElem_cons_succ]
                as_aux_lemma =>
                  refine wpC_take (i := 1) (v := ?_) rfl (by kernel_rfl) (by kernel_rfl) (by rfl) (fun _ _ _ h => h) (fun u => Or.inl ⟨by rfl, ?_⟩) ?_
                  rotate_left 1
                  · (intro w' hSw; have hSw := SA.out _ hSw; (try dsimp only at hSw); try simp only [putF, Act.put, List.setIfInBounds_toArray, List.set_cons_zero, List.set_cons_succ, List.getElem_toArray, List.getElem_cons_zero, List.getElem_cons_succ]; go_simp; try with_reducible rfl)
                  try simp only [Act.put, List.setIfInBounds_toArray, List.set_cons_zero, List.set_cons_succ, List.getElem_toArray, List.getElem_cons_zero, List.getElem_cons_succ]
                  as_aux_lemma =>
                    refine wpC_take (i := 2) (v := ?_) rfl (by kernel_rfl) (by kernel_rfl) (by rfl) (fun _ _ _ h => h) (fun u => Or.inl ⟨by rfl, ?_⟩) ?_
                    rotate_left 1
                    · (intro w' hSw; have hSw := SA.out _ hSw; (try dsimp only at hSw); try simp only [putF, Act.put, List.setIfInBounds_toArray, List.set_cons_zero, List.set_cons_succ, List.getElem_toArray, List.getElem_cons_zero, List.getElem_cons_succ]; go_simp; try with_reducible rfl)
                    try simp only [Act.put, List.setIfInBounds_toArray, List.set_cons_zero, List.set_cons_succ, List.getElem_toArray, List.getElem_cons_zero, List.getElem_cons_succ]
                    as_aux_lemma =>
                      refine wpC_step (i := 3) rfl (by kernel_rfl) (by rfl) (List.forall_mem_cons.2 ⟨FloOK.alloc rfl 37 rfl rfl rfl (fun w => by go_simp), (fun _ h => absurd h List.not_mem_nil)⟩) (by rfl) ?_
                      intro bb gg uu V1' hrd hB k0 kW K' hK
                      clear hrd hB
                      have KW := hik k0
                      clear kW k0
                      refine stepL_callN 8 #[.tmp 44] #[27] (by rfl) (by rfl) #[.agg #[.int .i64 a2, .int .i64 b2, .int .i64 d2]] (by (try simp only [putF, Act.put, List.setIfInBounds_toArray, List.set_cons_zero, List.set_cons_succ, List.getElem_toArray, List.getElem_cons_zero, List.getElem_cons_succ]); simp only [List.map_toArray, List.map_cons, List.map_nil] <;> rfl) (run_go Tryz.func8 (by kernel_rfl) (by kernel_rfl) _ _) (toSetting_any a2 b2 d2 _) ?_
                      rintro e V1 ⟨he, kk⟩
                      refine ⟨_, he, hK _ _ kk ?_⟩
                      have hsV1 := hik kk.size
                      clear he kk hK K' KW bb gg uu
                      try simp only [Act.put, List.setIfInBounds_toArray, List.set_cons_zero, List.set_cons_succ, List.getElem_toArray, List.getElem_cons_zero, List.getElem_cons_succ]
                      refine wpC_step (i := 4) rfl (by kernel_rfl) (by rfl) (List.forall_mem_cons.2 ⟨FloOK.alloc rfl 37 rfl rfl rfl (fun w => by go_simp), (fun _ h => absurd h List.not_mem_nil)⟩) (by rfl) ?_
                      intro bb gg uu V2' hrd hB k0 kW K' hK
                      clear hrd hB
                      have KW := hik k0
                      clear kW k0
                      refine stepL_callN 9 #[.tmp 42, .tmp 43, .tmp 45] #[22, 43, 45] (by rfl) (by rfl) #[.slice (some ⟨gi, 0, none⟩) len0 len0, .agg #[.int .i64 s1.r, .int .i64 s1.q, .int .i64 s1.p, .slice ya.cA s1.nA ya.pA, .slice ya.cB s1.nB ya.pB, .slice ya.cC s1.nC ya.pC], .agg #[.int .i64 a2, .int .i64 b2, .int .i64 d2]] (by (try simp only [putF, Act.put, List.setIfInBounds_toArray, List.set_cons_zero, List.set_cons_succ, List.getElem_toArray, List.getElem_cons_zero, List.getElem_cons_succ]); simp only [List.map_toArray, List.map_cons, List.map_nil] <;> rfl) (run_go Tryz.func9 (by kernel_rfl) (by kernel_rfl) _ _) (HI.out (some ⟨gi, 0, none⟩) len0 _ (hik (RowV.keep (RowV.of_row IX.out (Nat.le_refl _)) KW.out)) (Nat.le_refl _) (by have := HN.out; omega) ya (hik (SyV.keep (SyO.rep OY.out) KW.out))) ?_
                      rintro e V2 ⟨aS, he, rS, kk⟩
                      have OS := hik rS
                      have HLO := hik (show W4.heap.size ≤ V2'.heap.size from KW.out.size)
                      clear rS
                      refine ⟨_, he, hK _ _ kk ?_⟩
                      have hsV2 := hik kk.size
                      clear he kk hK K' KW bb gg uu
                      try simp only [Act.put, List.setIfInBounds_toArray, List.set_cons_zero, List.set_cons_succ, List.getElem_toArray, List.getElem_cons_zero, List.getElem_cons_succ]
                      refine wpC_take (i := 5) (v := ?_) rfl (by kernel_rfl) (by kernel_rfl) (by rfl) (fun _ _ _ h => h) (fun u => Or.inl ⟨by rfl, ?_⟩) ?_
                      rotate_left 1
                      · (intro w' hSw; have hSw := SA.out _ hSw; (try dsimp only at hSw); try simp only [putF, Act.put, List.setIfInBounds_toArray, List.set_cons_zero, List.set_cons_succ, List.getElem_toArray, List.getElem_cons_zero, List.getElem_cons_succ]; go_simp; try with_reducible rfl)
                      try simp only [Act.put, List.setIfInBounds_toArray, List.set_cons_zero, List.set_cons_succ, List.getElem_toArray, List.getElem_cons_zero, List.getElem_cons_succ]
                      as_aux_lemma =>
                        refine wpC_take (i := 6) (v := ?_) rfl (by kernel_rfl) (by kernel_rfl) (by rfl) (fun _ _ _ h => h) (fun u => Or.inl ⟨by rfl, ?_⟩) ?_
                        rotate_left 1
                        · (intro w' hSw; have hSw := SA.out _ hSw; (try dsimp only at hSw); try simp only [putF, Act.put, List.setIfInBounds_toArray, List.set_cons_zero, List.set_cons_succ, List.getElem_toArray, List.getElem_cons_zero, List.getElem_cons_succ]; go_simp; try with_reducible rfl)
                        try simp only [Act.put, List.setIfInBounds_toArray, List.set_cons_zero, List.set_cons_succ, List.getElem_toArray, List.getElem_cons_zero, List.getElem_cons_succ]
                        as_aux_lemma =>
                          refine wpC_take (i := 7) (v := ?_) rfl (by kernel_rfl) (by kernel_rfl) (by rfl) (fun _ _ _ h => h) (fun u => Or.inl ⟨by rfl, ?_⟩) ?_
                          rotate_left 1
                          · (intro w' hSw; have hSw := SA.out _ hSw; (try dsimp only at hSw); try simp only [putF, Act.put, List.setIfInBounds_toArray, List.set_cons_zero, List.set_cons_succ, List.getElem_toArray, List.getElem_cons_zero, List.getElem_cons_succ]; go_simp; try with_reducible rfl)
                          try simp only [Act.put, List.setIfInBounds_toArray, List.set_cons_zero, List.set_cons_succ, List.getElem_toArray, List.getElem_cons_zero, List.getElem_cons_succ]
                          as_aux_lemma =>
                            refine wpC_all (by kernel_rfl) (by rfl) (List.forall_mem_cons.2 ⟨FloOK.alloc rfl 37 rfl rfl rfl (fun w => by go_simp), (fun _ h => absurd h List.not_mem_nil)⟩) ?_
                            intro gg uu Vz hB k0 kW
                            have KW := hik k0
                            have HTOP := hik kW.size
                            replace OS := hik (OS.out.keep kW)
                            obtain ⟨eu0, hg0, hl0, hc0, ha0, hd0⟩ := hB 0 _ rfl rfl
                            have eu0 : uu 0 = .pointer (some ⟨gg 0, 0, none⟩) := eu0
                            have BX0 := hik (rowN_at (n := 17) hc0 rfl)
                            clear hd0 hc0 hl0
                            clear hB kW
                            generalize gg 0 = g0 at eu0 hg0 ha0 BX0
                            refine wpAnyH_as (fuel' := 2) rfl (listed' := #[true, true, true, true, true, true, true, true, true, false, false]) (by kernel_rfl) ?_
                            simp only [putF, eu0, Act.put, List.setIfInBounds_toArray, List.set_cons_zero, List.set_cons_succ, List.getElem_toArray, List.getElem_cons_zero, List.getElem_cons_succ]
                            clear eu0
                            have hHeld := k0
                            clear k0
                            refine wpAnyH_ready (rs := [9]) (by kernel_rfl) (by simp) ?_
                            refine AllReadyH.cons rfl (fun K hK => ?_) AllReadyH.nil
                            refine stepL_store_row 37 (.tmp 12) (.tmp 47) rfl (by rfl) g0 17 (pfv D aS) (by rfl) (by rfl) 37 _ BX0.out infoPf (fun i hi => pfv_one _ _ i hi) ?_
                            intro US1 r9 g9
                            have RB0 := hik r9
                            have C7 := hik g9
                            clear r9 g9
                            replace KW : Hid (Chg nob W4 US1) := hik (KW.out.near C7.out (fun b e => by have e' : b = g0 := e; omega))
                            refine hK.out _ _ KW.out (fun hHeld => ?_)
                            clear hK K
                            try simp only [Act.put, List.setIfInBounds_toArray, List.set_cons_zero, List.set_cons_succ, List.getElem_toArray, List.getElem_cons_zero, List.getElem_cons_succ]
                            replace OS := hik (OS.out.chg C7.out (fun c h1 h2 e => ha0 (.inr ⟨by rw [← show c = g0 from e]; exact h1, by rw [← show c = g0 from e]; exact h2⟩)))
                            replace HTOP := hik (Nat.le_trans HTOP.out C7.out.size)
                            clear C7 BX0
                            refine wpAnyH_take (i := 10) (v := ?_) rfl (by kernel_rfl) (by kernel_rfl) (by kernel_rfl) (fun _ _ _ h => h) (Or.inl ⟨by rfl, ?_⟩) (by assumption) ?_
                            rotate_left 1
                            · (intro w' hSw; (try dsimp only at hSw); go_simp; try with_reducible rfl)
                            try simp only [Act.put, List.setIfInBounds_toArray, List.set_cons_zero, List.set_cons_succ, List.getElem_toArray, List.getElem_cons_zero, List.getElem_cons_succ]
                            as_aux_lemma =>
                              refine wpAnyH_done (by kernel_rfl) ?_ _
                              clear SA
                              go_wp2_with fail
                              go_meet
                              exact ⟨aS, g0, V2'.heap.size, V2.heap.size, rfl, rfl, OS, RB0, KW, hik ⟨hg0, HLO.out, fun x => ha0 (.inr x), hsV2.out, HTOP.out⟩⟩
            case rest =>
              as_aux_lemma =>
                obtain ⟨az, gz, loz, hiz, rfl, rfl, Oz, Rz, KW, Bz⟩ := hcut
                rename World => W5
                have zs5 := hik KW.out.size
                replace K0 := hik (K0.out.trans KW.out)
                replace RS := hik (rowIs_keep RS.out KW.out)
                replace RT := hik (rowIs_keep RT.out KW.out)
                replace Ow := hik (Ow.out.keep KW.out)
                replace Rw := hik (rowIs_keep Rw.out KW.out)
                replace IX := hik (rowIs_keep IX.out KW.out)
                replace OY := hik (OY.out.keep KW.out)
                replace RY := hik (rowIs_keep RY.out KW.out)
                clear KW
                have lz := hik Rz.out.lt
                go_wp2_with (first | ((with_reducible refine wpList_load_row rfl 37 (.tmp 12) rfl gz ?hx 37 (rowA 17 (pfv D az)) (0, 0) _ (rowA_of Rz.out) Tryz.underlying37 rfl (by rw [rowA_size]; exact infoPf) ?_); (case hx => rfl)) | ((with_reducible refine wpList_load_row rfl 37 (.tmp 8) rfl gw ?hx 37 (rowA 17 (pfv D aw)) (0, 0) _ (rowA_of Rw.out) Tryz.underlying37 rfl (by rw [rowA_size]; exact infoPf) ?_); (case hx => rfl)))
                refine (eqProof_row D az aw _ (hik Oz.out.rep) (hik Ow.out.rep) HSM).mono ?_
                rintro e W6 ⟨rfl, kk⟩
                have zs6 := hik kk.size
                replace K0 := hik (K0.out.trans kk)
                replace RS := hik (rowIs_keep RS.out kk)
                replace RT := hik (rowIs_keep RT.out kk)
                replace Ow := hik (Ow.out.keep kk)
                replace Rw := hik (rowIs_keep Rw.out kk)
                replace IX := hik (rowIs_keep IX.out kk)
                replace OY := hik (OY.out.keep kk)
                replace RY := hik (rowIs_keep RY.out kk)
                replace Oz := hik (Oz.out.keep kk)
                replace Rz := hik (rowIs_keep Rz.out kk)
                clear kk
                as_aux_lemma =>
                  go_wp2_with fail
                  refine (toByteS_any c0 len0 cap0 z0 _ (hik (V0.out.keep K0.out)) (by have := HN.out; omega)).mono ?_
                  rintro e W7 ⟨rfl, ry, kk⟩
                  have zs7 := hik kk.size
                  replace K0 := hik (K0.out.trans kk)
                  replace RS := hik (rowIs_keep RS.out kk)
                  replace RT := hik (rowIs_keep RT.out kk)
                  replace Ow := hik (Ow.out.keep kk)
                  replace Rw := hik (rowIs_keep Rw.out kk)
                  replace IX := hik (rowIs_keep IX.out kk)
                  replace OY := hik (OY.out.keep kk)
                  replace RY := hik (rowIs_keep RY.out kk)
                  replace Oz := hik (Oz.out.keep kk)
                  replace Rz := hik (rowIs_keep Rz.out kk)
                  have IB := hik ry
                  clear ry
                  clear kk
                  as_aux_lemma =>
                    go_wp2_with fail
                    refine (eqByteS_any (some ⟨gi, 0, none⟩) _ len0 len0 len0 len0 z0 z0 _ (hik (RowV.of_row IX.out (Nat.le_refl _))) (hik (RowV.of_row IB.out (Nat.le_refl _))) rfl (fun _ _ => rfl) (by have := HN.out; omega)).mono ?_
                    rintro e W8 ⟨rfl, kk⟩
                    have zs8 := hik kk.size
                    replace K0 := hik (K0.out.trans kk)
                    replace RS := hik (rowIs_keep RS.out kk)
                    replace RT := hik (rowIs_keep RT.out kk)
                    replace Ow := hik (Ow.out.keep kk)
                    replace Rw := hik (rowIs_keep Rw.out kk)
                    replace IX := hik (rowIs_keep IX.out kk)
                    replace OY := hik (OY.out.keep kk)
                    replace RY := hik (rowIs_keep RY.out kk)
                    replace Oz := hik (Oz.out.keep kk)
                    replace Rz := hik (rowIs_keep Rz.out kk)
                    clear IB
                    clear kk
                    as_aux_lemma =>
                      go_upto_region 15 with fail
                      go_cut [67] (fun pp W => pp = .bool false ∧ Hid (Chg nob W8 W))
                      case first =>
                        as_aux_lemma =>
                          have xRS0 : W8.cell? ⟨w.heap.size, 0, none⟩ = some (.int .i64 s1.r) := RS.out.cell (i := 0) (by omega)
                          have xRS1 : W8.cell? ⟨w.heap.size, 1, none⟩ = some (.int .i64 s1.q) := RS.out.cell (i := 1) (by omega)
                          have xRS2 : W8.cell? ⟨w.heap.size, 2, none⟩ = some (.int .i64 s1.p) := RS.out.cell (i := 2) (by omega)
                          have xRS3 : W8.cell? ⟨w.heap.size, 3, none⟩ = some (.slice y1.cA s1.nA y1.pA) := RS.out.cell (i := 3) (by omega)
                          have xRS4 : W8.cell? ⟨w.heap.size, 4, none⟩ = some (.slice y1.cB s1.nB y1.pB) := RS.out.cell (i := 4) (by omega)
                          have xRS5 : W8.cell? ⟨w.heap.size, 5, none⟩ = some (.slice y1.cC s1.nC y1.pC) := RS.out.cell (i := 5) (by omega)
                          have zRS := RS.out.lt
                          have xRY0 : W8.cell? ⟨gy, 0, none⟩ = some (.int .i64 s1.r) := RY.out.cell (i := 0) (by omega)
                          have xRY1 : W8.cell? ⟨gy, 1, none⟩ = some (.int .i64 s1.q) := RY.out.cell (i := 1) (by omega)
                          have xRY2 : W8.cell? ⟨gy, 2, none⟩ = some (.int .i64 s1.p) := RY.out.cell (i := 2) (by omega)
                          have xRY3 : W8.cell? ⟨gy, 3, none⟩ = some (.slice ya.cA s1.nA ya.pA) := RY.out.cell (i := 3) (by omega)
                          have xRY4 : W8.cell? ⟨gy, 4, none⟩ = some (.slice ya.cB s1.nB ya.pB) := RY.out.cell (i := 4) (by omega)
                          have xRY5 : W8.cell? ⟨gy, 5, none⟩ = some (.slice ya.cC s1.nC ya.pC) := RY.out.cell (i := 5) (by omega)
                          have zRY := RY.out.lt
                          have KW := hik ((Chg.refl nob W8).drew1)
                          have SA := hik (fun (WW : World) (kW : Chg nob W8 WW) => (show (WW.cell? ⟨w.heap.size, 0, none⟩ = some (.int .i64 s1.r) ∧ WW.cell? ⟨w.heap.size, 1, none⟩ = some (.int .i64 s1.q) ∧ WW.cell? ⟨w.heap.size, 2, none⟩ = some (.int .i64 s1.p) ∧ WW.cell? ⟨w.heap.size, 3, none⟩ = some (.slice y1.cA s1.nA y1.pA) ∧ WW.cell? ⟨w.heap.size, 4, none⟩ = some (.slice y1.cB s1.nB y1.pB) ∧ WW.cell? ⟨w.heap.size, 5, none⟩ = some (.slice y1.cC s1.nC y1.pC) ∧ WW.cell? ⟨gy, 0, none⟩ = some (.int .i64 s1.r) ∧ WW.cell? ⟨gy, 1, none⟩ = some (.int .i64 s1.q) ∧ WW.cell? ⟨gy, 2, none⟩ = some (.int .i64 s1.p) ∧ WW.cell? ⟨gy, 3, none⟩ = some (.slice ya.cA s1.nA ya.pA) ∧ WW.cell? ⟨gy, 4, none⟩ = some (.slice ya.cB s1.nB ya.pB) ∧ WW.cell? ⟨gy, 5, none⟩ = some (.slice ya.cC s1.nC ya.pC)) from ⟨kW.see xRS0, kW.see xRS1, kW.see xRS2, kW.see xRS3, kW.see xRS4, kW.see xRS5, kW.see xRY0, kW.see xRY1, kW.see xRY2, kW.see xRY3, kW.see xRY4, kW.see xRY5⟩))
                          refine wp_region_held_drew (S := fun w' => w'.cell? ⟨w.heap.size, 0, none⟩ = some (.int .i64 s1.r) ∧ w'.cell? ⟨w.heap.size, 1, none⟩ = some (.int .i64 s1.q) ∧ w'.cell? ⟨w.heap.size, 2, none⟩ = some (.int .i64 s1.p) ∧ w'.cell? ⟨w.heap.size, 3, none⟩ = some (.slice y1.cA s1.nA y1.pA) ∧ w'.cell? ⟨w.heap.size, 4, none⟩ = some (.slice y1.cB s1.nB y1.pB) ∧ w'.cell? ⟨w.heap.size, 5, none⟩ = some (.slice y1.cC s1.nC y1.pC) ∧ w'.cell? ⟨gy, 0, none⟩ = some (.int .i64 s1.r) ∧ w'.cell? ⟨gy, 1, none⟩ = some (.int .i64 s1.q) ∧ w'.cell? ⟨gy, 2, none⟩ = some (.int .i64 s1.p) ∧ w'.cell? ⟨gy, 3, none⟩ = some (.slice ya.cA s1.nA ya.pA) ∧ w'.cell? ⟨gy, 4, none⟩ = some (.slice ya.cB s1.nB ya.pB) ∧ w'.cell? ⟨gy, 5, none⟩ = some (.slice ya.cC s1.nC ya.pC)) (by kernel_rfl) ⟨xRS0, xRS1, xRS2, xRS3, xRS4, xRS5, xRY0, xRY1, xRY2, xRY3, xRY4, xRY5⟩ (fun hHeld => ?_)
                          as_aux_lemma =>
                            refine wpAnyH_take (i := 0) (v := ?_) rfl (by kernel_rfl) (by kernel_rfl) (by kernel_rfl) (fun _ _ _ h => h) (Or.inl ⟨by rfl, ?_⟩) (by assumption) ?_
                            rotate_left 1
                            · (intro w' hSw; (try dsimp only at hSw); go_simp; try with_reducible rfl)
                            try simp only [Act.put, List.setIfInBounds_toArray, List.set_cons_zero, List.set_cons_succ, List.getElem_toArray, List.getElem_cons_zero, List.getElem_cons_succ]
                            as_aux_lemma =>
                              refine wpAnyH_take (i := 1) (v := ?_) rfl (by kernel_rfl) (by kernel_rfl) (by kernel_rfl) (fun _ _ _ h => h) (Or.inl ⟨by rfl, ?_⟩) (by assumption) ?_
                              rotate_left 1
                              · (intro w' hSw; (try dsimp only at hSw); go_simp; try with_reducible rfl)
                              try simp only [Act.put, List.setIfInBounds_toArray, List.set_cons_zero, List.set_cons_succ, List.getElem_toArray, List.getElem_cons_zero, List.getElem_cons_succ]
                              as_aux_lemma =>
                                refine wpAnyH_ready (rs := [2]) (by kernel_rfl) (by simp) ?_
                                refine AllReadyH.cons rfl (fun K hK => ?_) AllReadyH.nil
                                refine stepL_callN 7 #[.tmp 64] #[25] (by rfl) (by rfl) #[.agg #[.int .i64 s1.r, .int .i64 s1.q, .int .i64 s1.p, .slice y1.cA s1.nA y1.pA, .slice y1.cB s1.nB y1.pB, .slice y1.cC s1.nC y1.pC]] (by simp only [List.map_toArray, List.map_cons, List.map_nil] <;> rfl) (run_go Tryz.func7 (by kernel_rfl) (by kernel_rfl) _ _) (toSystem_o s1 y1 _ (hik (V1.out.keep (K0.out.trans KW.out))) hs1) ?_
                                rintro e Q1 ⟨yq, he, oy, kk⟩
                                have T9 := hik oy.rep
                                clear oy
                                refine ⟨_, he, ?_⟩
                                replace KW := hik (KW.out.trans kk)
                                refine hK.out _ _ (SA.out _ KW.out) (fun hHeld => ?_)
                                clear hK K
                                try simp only [Act.put, List.setIfInBounds_toArray, List.set_cons_zero, List.set_cons_succ, List.getElem_toArray, List.getElem_cons_zero, List.getElem_cons_succ]
                                clear he kk
                                as_aux_lemma =>
                                  refine wpAnyH_ready (rs := [3]) (by kernel_rfl) (by simp) ?_
                                  refine AllReadyH.cons rfl (fun K hK => ?_) AllReadyH.nil
                                  refine stepL_callN 12 #[.tmp 63, .tmp 65] #[43, 43] (by rfl) (by rfl) #[.agg #[.int .i64 s1.r, .int .i64 s1.q, .int .i64 s1.p, .slice ya.cA s1.nA ya.pA, .slice ya.cB s1.nB ya.pB, .slice ya.cC s1.nC ya.pC], .agg #[.int .i64 s1.r, .int .i64 s1.q, .int .i64 s1.p, .slice yq.cA s1.nA yq.pA, .slice yq.cB s1.nB yq.pB, .slice yq.cC s1.nC yq.pC]] (by simp only [List.map_toArray, List.map_cons, List.map_nil] <;> rfl) (run_go Tryz.func12 (by kernel_rfl) (by kernel_rfl) _ _) (eqSystem_any s1 ya yq _ (hik (SyV.keep (SyO.rep OY.out) KW.out)) T9 hs1) ?_
                                  rintro e Q2 ⟨he, kk⟩
                                  refine ⟨_, he, ?_⟩
                                  replace KW := hik (KW.out.trans kk)
                                  refine hK.out _ _ (SA.out _ KW.out) (fun hHeld => ?_)
                                  clear hK K
                                  try simp only [Act.put, List.setIfInBounds_toArray, List.set_cons_zero, List.set_cons_succ, List.getElem_toArray, List.getElem_cons_zero, List.getElem_cons_succ]
                                  clear he kk
                                  as_aux_lemma =>
                                    refine wpAnyH_take (i := 4) (v := ?_) rfl (by kernel_rfl) (by kernel_rfl) (by kernel_rfl) (fun _ _ _ h => h) (Or.inl ⟨by rfl, ?_⟩) (by assumption) ?_
                                    rotate_left 1
                                    · (intro w' hSw; (try dsimp only at hSw); go_simp; try with_reducible rfl)
                                    try simp only [Act.put, List.setIfInBounds_toArray, List.set_cons_zero, List.set_cons_succ, List.getElem_toArray, List.getElem_cons_zero, List.getElem_cons_succ]
                                    as_aux_lemma =>
                                      refine wpAnyH_done (by kernel_rfl) ?_ _
                                      clear SA hHeld
                                      go_wp2_with fail
                                      go_meet
                                      exact ⟨rfl, KW⟩
                      case rest =>
                        as_aux_lemma =>
                          obtain ⟨rfl, KW⟩ := hcut
                          rename World => W9
                          have zs9 := hik KW.out.size
                          replace K0 := hik (K0.out.trans KW.out)
                          replace RS := hik (rowIs_keep RS.out KW.out)
                          replace RT := hik (rowIs_keep RT.out KW.out)
                          replace Ow := hik (Ow.out.keep KW.out)
                          replace Rw := hik (rowIs_keep Rw.out KW.out)
                          replace IX := hik (rowIs_keep IX.out KW.out)
                          replace OY := hik (OY.out.keep KW.out)
                          replace RY := hik (rowIs_keep RY.out KW.out)
                          replace Oz := hik (Oz.out.keep KW.out)
                          replace Rz := hik (rowIs_keep Rz.out KW.out)
                          clear KW
                          go_wp2_with fail
                          refine (markByteM_any (some ⟨gi, 0, none⟩) len0 len0 gi (gi + 1) _ _ (hik (.inr ⟨gi, rfl, Nat.le_refl _, Nat.lt_succ_self _, ⟨IX.out.lt, fun i hi => IX.out.cell hi, fun i hi => IX.out.frozen i⟩⟩)) (by have := HN.out; omega)).mono ?_
                          rintro e W10 ⟨rfl, _, kk⟩
                          have zs10 := hik kk.size
                          replace K0 := hik (K0.out.near kk (fun b m => by have m9 : gi ≤ _ ∧ _ < gi + 1 := m; have := zs0.out; have := zs1.out; have := Bw.out; have := lw.out; have := zs2.out; have := HGI.out; have := li.out; have := zs3.out; have := HLY.out; have := zs4.out; have := Hgy.out; have := zs5.out; have := Bz.out; have := lz.out; have := zs6.out; have := zs7.out; have := zs8.out; have := zs9.out; have := zs10.out; omega))
                          replace RS := hik (rowIs_chg RS.out kk (fun m => by have m9 : gi ≤ _ ∧ _ < gi + 1 := m; have := zs0.out; have := zs1.out; have := Bw.out; have := lw.out; have := zs2.out; have := HGI.out; have := li.out; have := zs3.out; have := HLY.out; have := zs4.out; have := Hgy.out; have := zs5.out; have := Bz.out; have := lz.out; have := zs6.out; have := zs7.out; have := zs8.out; have := zs9.out; have := zs10.out; omega))
                          replace RT := hik (rowIs_chg RT.out kk (fun m => by have m9 : gi ≤ _ ∧ _ < gi + 1 := m; have := zs0.out; have := zs1.out; have := Bw.out; have := lw.out; have := zs2.out; have := HGI.out; have := li.out; have := zs3.out; have := HLY.out; have := zs4.out; have := Hgy.out; have := zs5.out; have := Bz.out; have := lz.out; have := zs6.out; have := zs7.out; have := zs8.out; have := zs9.out; have := zs10.out; omega))
                          replace Ow := hik (Ow.out.chg kk (fun b hb1 hb2 m => by have m9 : gi ≤ _ ∧ _ < gi + 1 := m; have := zs0.out; have := zs1.out; have := Bw.out; have := lw.out; have := zs2.out; have := HGI.out; have := li.out; have := zs3.out; have := HLY.out; have := zs4.out; have := Hgy.out; have := zs5.out; have := Bz.out; have := lz.out; have := zs6.out; have := zs7.out; have := zs8.out; have := zs9.out; have := zs10.out; omega))
                          replace Rw := hik (rowIs_chg Rw.out kk (fun m => by have m9 : gi ≤ _ ∧ _ < gi + 1 := m; have := zs0.out; have := zs1.out; have := Bw.out; have := lw.out; have := zs2.out; have := HGI.out; have := li.out; have := zs3.out; have := HLY.out; have := zs4.out; have := Hgy.out; have := zs5.out; have := Bz.out; have := lz.out; have := zs6.out; have := zs7.out; have := zs8.out; have := zs9.out; have := zs10.out; omega))
                          replace OY := hik (OY.out.chg kk (fun b hb1 hb2 m => by have m9 : gi ≤ _ ∧ _ < gi + 1 := m; have := zs0.out; have := zs1.out; have := Bw.out; have := lw.out; have := zs2.out; have := HGI.out; have := li.out; have := zs3.out; have := HLY.out; have := zs4.out; have := Hgy.out; have := zs5.out; have := Bz.out; have := lz.out; have := zs6.out; have := zs7.out; have := zs8.out; have := zs9.out; have := zs10.out; omega))
                          replace RY := hik (rowIs_chg RY.out kk (fun m => by have m9 : gi ≤ _ ∧ _ < gi + 1 := m; have := zs0.out; have := zs1.out; have := Bw.out; have := lw.out; have := zs2.out; have := HGI.out; have := li.out; have := zs3.out; have := HLY.out; have := zs4.out; have := Hgy.out; have := zs5.out; have := Bz.out; have := lz.out; have := zs6.out; have := zs7.out; have := zs8.out; have := zs9.out; have := zs10.out; omega))
                          replace Oz := hik (Oz.out.chg kk (fun b hb1 hb2 m => by have m9 : gi ≤ _ ∧ _ < gi + 1 := m; have := zs0.out; have := zs1.out; have := Bw.out; have := lw.out; have := zs2.out; have := HGI.out; have := li.out; have := zs3.out; have := HLY.out; have := zs4.out; have := Hgy.out; have := zs5.out; have := Bz.out; have := lz.out; have := zs6.out; have := zs7.out; have := zs8.out; have := zs9.out; have := zs10.out; omega))
                          replace Rz := hik (rowIs_chg Rz.out kk (fun m => by have m9 : gi ≤ _ ∧ _ < gi + 1 := m; have := zs0.out; have := zs1.out; have := Bw.out; have := lw.out; have := zs2.out; have := HGI.out; have := li.out; have := zs3.out; have := HLY.out; have := zs4.out; have := Hgy.out; have := zs5.out; have := Bz.out; have := lz.out; have := zs6.out; have := zs7.out; have := zs8.out; have := zs9.out; have := zs10.out; omega))
                          clear IX
                          clear kk
                          as_aux_lemma =>
                            rw [show (1 : Int) + (len0 : Int) = ((1 + len0 : Nat) : Int) by omega]
                            have xRY0 : W10.cell? ⟨gy, 0, none⟩ = some (.int .i64 s1.r) := RY.out.cell (i := 0) (by omega)
                            have xRY1 : W10.cell? ⟨gy, 1, none⟩ = some (.int .i64 s1.q) := RY.out.cell (i := 1) (by omega)
                            have xRY2 : W10.cell? ⟨gy, 2, none⟩ = some (.int .i64 s1.p) := RY.out.cell (i := 2) (by omega)
                            have xRY3 : W10.cell? ⟨gy, 3, none⟩ = some (.slice ya.cA s1.nA ya.pA) := RY.out.cell (i := 3) (by omega)
                            have xRY4 : W10.cell? ⟨gy, 4, none⟩ = some (.slice ya.cB s1.nB ya.pB) := RY.out.cell (i := 4) (by omega)
                            have xRY5 : W10.cell? ⟨gy, 5, none⟩ = some (.slice ya.cC s1.nC ya.pC) := RY.out.cell (i := 5) (by omega)
                            have zRY := RY.out.lt
                            go_wp2_with fail
                            refine (markSystem_o loy hiy s1 ya (1 + len0) _ OY hn1 (by have := HN.out; omega)).mono ?_
                            rintro e W11 ⟨rfl, kk⟩
                            clear xRY0 xRY1 xRY2 xRY3 xRY4 xRY5 zRY
                            have zs11 := hik kk.size
                            replace K0 := hik (K0.out.near kk (fun b m => by have m9 : loy ≤ _ ∧ _ < hiy := m; have := zs0.out; have := zs1.out; have := Bw.out; have := lw.out; have := zs2.out; have := HGI.out; have := li.out; have := zs3.out; have := HLY.out; have := zs4.out; have := Hgy.out; have := zs5.out; have := Bz.out; have := lz.out; have := zs6.out; have := zs7.out; have := zs8.out; have := zs9.out; have := zs10.out; have := zs11.out; omega))
                            replace RS := hik (rowIs_chg RS.out kk (fun m => by have m9 : loy ≤ _ ∧ _ < hiy := m; have := zs0.out; have := zs1.out; have := Bw.out; have := lw.out; have := zs2.out; have := HGI.out; have := li.out; have := zs3.out; have := HLY.out; have := zs4.out; have := Hgy.out; have := zs5.out; have := Bz.out; have := lz.out; have := zs6.out; have := zs7.out; have := zs8.out; have := zs9.out; have := zs10.out; have := zs11.out; omega))
                            replace RT := hik (rowIs_chg RT.out kk (fun m => by have m9 : loy ≤ _ ∧ _ < hiy := m; have := zs0.out; have := zs1.out; have := Bw.out; have := lw.out; have := zs2.out; have := HGI.out; have := li.out; have := zs3.out; have := HLY.out; have := zs4.out; have := Hgy.out; have := zs5.out; have := Bz.out; have := lz.out; have := zs6.out; have := zs7.out; have := zs8.out; have := zs9.out; have := zs10.out; have := zs11.out; omega))
                            replace Ow := hik (Ow.out.chg kk (fun b hb1 hb2 m => by have m9 : loy ≤ _ ∧ _ < hiy := m; have := zs0.out; have := zs1.out; have := Bw.out; have := lw.out; have := zs2.out; have := HGI.out; have := li.out; have := zs3.out; have := HLY.out; have := zs4.out; have := Hgy.out; have := zs5.out; have := Bz.out; have := lz.out; have := zs6.out; have := zs7.out; have := zs8.out; have := zs9.out; have := zs10.out; have := zs11.out; omega))
                            replace Rw := hik (rowIs_chg Rw.out kk (fun m => by have m9 : loy ≤ _ ∧ _ < hiy := m; have := zs0.out; have := zs1.out; have := Bw.out; have := lw.out; have := zs2.out; have := HGI.out; have := li.out; have := zs3.out; have := HLY.out; have := zs4.out; have := Hgy.out; have := zs5.out; have := Bz.out; have := lz.out; have := zs6.out; have := zs7.out; have := zs8.out; have := zs9.out; have := zs10.out; have := zs11.out; omega))
                            replace RY := hik (rowIs_chg RY.out kk (fun m => by have m9 : loy ≤ _ ∧ _ < hiy := m; have := zs0.out; have := zs1.out; have := Bw.out; have := lw.out; have := zs2.out; have := HGI.out; have := li.out; have := zs3.out; have := HLY.out; have := zs4.out; have := Hgy.out; have := zs5.out; have := Bz.out; have := lz.out; have := zs6.out; have := zs7.out; have := zs8.out; have := zs9.out; have := zs10.out; have := zs11.out; omega))
                            replace Oz := hik (Oz.out.chg kk (fun b hb1 hb2 m => by have m9 : loy ≤ _ ∧ _ < hiy := m; have := zs0.out; have := zs1.out; have := Bw.out; have := lw.out; have := zs2.out; have := HGI.out; have := li.out; have := zs3.out; have := HLY.out; have := zs4.out; have := Hgy.out; have := zs5.out; have := Bz.out; have := lz.out; have := zs6.out; have := zs7.out; have := zs8.out; have := zs9.out; have := zs10.out; have := zs11.out; omega))
                            replace Rz := hik (rowIs_chg Rz.out kk (fun m => by have m9 : loy ≤ _ ∧ _ < hiy := m; have := zs0.out; have := zs1.out; have := Bw.out; have := lw.out; have := zs2.out; have := HGI.out; have := li.out; have := zs3.out; have := HLY.out; have := zs4.out; have := Hgy.out; have := zs5.out; have := Bz.out; have := lz.out; have := zs6.out; have := zs7.out; have := zs8.out; have := zs9.out; have := zs10.out; have := zs11.out; omega))
                            clear OY RY
                            clear kk
                            as_aux_lemma =>
                              have hq1 : ¬ ((1 + len0 + (3 * s1.nA + 3 * s1.nB + 3 * s1.nC) : Nat) : Int) < 0 := by omega
                              have xRz0 : W11.cell? ⟨gz, 0, none⟩ = some (.string D.rt) := Rz.out.cell (i := 0) (by omega)
                              have xRz1 : W11.cell? ⟨gz, 1, none⟩ = some (.slice az.cG D.ng az.pG) := Rz.out.cell (i := 1) (by omega)
                              have xRz2 : W11.cell? ⟨gz, 2, none⟩ = some (.int .i64 D.a0) := Rz.out.cell (i := 2) (by omega)
                              have xRz3 : W11.cell? ⟨gz, 3, none⟩ = some (.int .i64 D.a1) := Rz.out.cell (i := 3) (by omega)
                              have xRz4 : W11.cell? ⟨gz, 4, none⟩ = some (.int .i64 D.b0) := Rz.out.cell (i := 4) (by omega)
                              have xRz5 : W11.cell? ⟨gz, 5, none⟩ = some (.int .i64 D.b1) := Rz.out.cell (i := 5) (by omega)
                              have xRz6 : W11.cell? ⟨gz, 6, none⟩ = some (.int .i64 D.c0) := Rz.out.cell (i := 6) (by omega)
                              have xRz7 : W11.cell? ⟨gz, 7, none⟩ = some (.int .i64 D.c1) := Rz.out.cell (i := 7) (by omega)
                              have xRz8 : W11.cell? ⟨gz, 8, none⟩ = some (.slice az.cW D.nw az.pW) := Rz.out.cell (i := 8) (by omega)
                              have xRz9 : W11.cell? ⟨gz, 9, none⟩ = some (.int .i64 D.v0) := Rz.out.cell (i := 9) (by omega)
                              have xRz10 : W11.cell? ⟨gz, 10, none⟩ = some (.int .i64 D.v1) := Rz.out.cell (i := 10) (by omega)
                              have xRz11 : W11.cell? ⟨gz, 11, none⟩ = some (.slice az.cR D.op.nr az.pR) := Rz.out.cell (i := 11) (by omega)
                              have xRz12 : W11.cell? ⟨gz, 12, none⟩ = some (.slice az.cT D.op.nt az.pT) := Rz.out.cell (i := 12) (by omega)
                              have xRz13 : W11.cell? ⟨gz, 13, none⟩ = some (.int .i64 D.op.la) := Rz.out.cell (i := 13) (by omega)
                              have xRz14 : W11.cell? ⟨gz, 14, none⟩ = some (.int .i64 D.op.lb) := Rz.out.cell (i := 14) (by omega)
                              have xRz15 : W11.cell? ⟨gz, 15, none⟩ = some (.int .i64 D.op.no) := Rz.out.cell (i := 15) (by omega)
                              have xRz16 : W11.cell? ⟨gz, 16, none⟩ = some (.slice az.cQ D.op.nq az.pQ) := Rz.out.cell (i := 16) (by omega)
                              have zRz := Rz.out.lt
                              have xRw0 : W11.cell? ⟨gw, 0, none⟩ = some (.string D.rt) := Rw.out.cell (i := 0) (by omega)
                              have xRw1 : W11.cell? ⟨gw, 1, none⟩ = some (.slice aw.cG D.ng aw.pG) := Rw.out.cell (i := 1) (by omega)
                              have xRw2 : W11.cell? ⟨gw, 2, none⟩ = some (.int .i64 D.a0) := Rw.out.cell (i := 2) (by omega)
                              have xRw3 : W11.cell? ⟨gw, 3, none⟩ = some (.int .i64 D.a1) := Rw.out.cell (i := 3) (by omega)
                              have xRw4 : W11.cell? ⟨gw, 4, none⟩ = some (.int .i64 D.b0) := Rw.out.cell (i := 4) (by omega)
                              have xRw5 : W11.cell? ⟨gw, 5, none⟩ = some (.int .i64 D.b1) := Rw.out.cell (i := 5) (by omega)
                              have xRw6 : W11.cell? ⟨gw, 6, none⟩ = some (.int .i64 D.c0) := Rw.out.cell (i := 6) (by omega)
                              have xRw7 : W11.cell? ⟨gw, 7, none⟩ = some (.int .i64 D.c1) := Rw.out.cell (i := 7) (by omega)
                              have xRw8 : W11.cell? ⟨gw, 8, none⟩ = some (.slice aw.cW D.nw aw.pW) := Rw.out.cell (i := 8) (by omega)
                              have xRw9 : W11.cell? ⟨gw, 9, none⟩ = some (.int .i64 D.v0) := Rw.out.cell (i := 9) (by omega)
                              have xRw10 : W11.cell? ⟨gw, 10, none⟩ = some (.int .i64 D.v1) := Rw.out.cell (i := 10) (by omega)
                              have xRw11 : W11.cell? ⟨gw, 11, none⟩ = some (.slice aw.cR D.op.nr aw.pR) := Rw.out.cell (i := 11) (by omega)
                              have xRw12 : W11.cell? ⟨gw, 12, none⟩ = some (.slice aw.cT D.op.nt aw.pT) := Rw.out.cell (i := 12) (by omega)
                              have xRw13 : W11.cell? ⟨gw, 13, none⟩ = some (.int .i64 D.op.la) := Rw.out.cell (i := 13) (by omega)
                              have xRw14 : W11.cell? ⟨gw, 14, none⟩ = some (.int .i64 D.op.lb) := Rw.out.cell (i := 14) (by omega)
                              have xRw15 : W11.cell? ⟨gw, 15, none⟩ = some (.int .i64 D.op.no) := Rw.out.cell (i := 15) (by omega)
                              have xRw16 : W11.cell? ⟨gw, 16, none⟩ = some (.slice aw.cQ D.op.nq aw.pQ) := Rw.out.cell (i := 16) (by omega)
                              have zRw := Rw.out.lt
                              go_wp2_with fail
                              refine (eqProof_d D az aw _ (hik Oz.out.rep) (hik Ow.out.rep) HSM).mono ?_
                              rintro e W12 ⟨rfl, kk⟩
                              clear xRz0 xRz1 xRz2 xRz3 xRz4 xRz5 xRz6 xRz7 xRz8 xRz9 xRz10 xRz11 xRz12 xRz13 xRz14 xRz15 xRz16 zRz xRw0 xRw1 xRw2 xRw3 xRw4 xRw5 xRw6 xRw7 xRw8 xRw9 xRw10 xRw11 xRw12 xRw13 xRw14 xRw15 xRw16 zRw
                              have zs12 := hik kk.size
                              replace K0 := hik (K0.out.trans kk)
                              replace RS := hik (rowIs_keep RS.out kk)
                              replace RT := hik (rowIs_keep RT.out kk)
                              replace Ow := hik (Ow.out.keep kk)
                              replace Rw := hik (rowIs_keep Rw.out kk)
                              replace Oz := hik (Oz.out.keep kk)
                              replace Rz := hik (rowIs_keep Rz.out kk)
                              clear kk
                              as_aux_lemma =>
                                go_wp2_with ((with_reducible refine wpList_load_row rfl 37 (.tmp 12) rfl gz ?hx 37 (rowA 17 (pfv D az)) (0, 0) _ (rowA_of Rz.out) Tryz.underlying37 rfl (by rw [rowA_size]; exact infoPf) ?_); (case hx => rfl))
                                refine (markProof_row loz hiz D az 1 _ Oz HSM (by have := zs0.out; have := zs1.out; have := Bw.out; have := lw.out; have := zs2.out; have := HGI.out; have := li.out; have := zs3.out; have := HLY.out; have := zs4.out; have := Hgy.out; have := zs5.out; have := Bz.out; have := lz.out; have := zs6.out; have := zs7.out; have := zs8.out; have := zs9.out; have := zs10.out; have := zs11.out; have := zs12.out; omega) (by omega) (by have := HMC.out; omega)).mono ?_
                                rintro e W13 ⟨rfl, oz, kk⟩
                                have zs13 := hik kk.size
                                replace K0 := hik (K0.out.near kk (fun b m => by have m9 : loz ≤ _ ∧ _ < hiz := m; have := zs0.out; have := zs1.out; have := Bw.out; have := lw.out; have := zs2.out; have := HGI.out; have := li.out; have := zs3.out; have := HLY.out; have := zs4.out; have := Hgy.out; have := zs5.out; have := Bz.out; have := lz.out; have := zs6.out; have := zs7.out; have := zs8.out; have := zs9.out; have := zs10.out; have := zs11.out; have := zs12.out; have := zs13.out; omega))
                                replace RS := hik (rowIs_chg RS.out kk (fun m => by have m9 : loz ≤ _ ∧ _ < hiz := m; have := zs0.out; have := zs1.out; have := Bw.out; have := lw.out; have := zs2.out; have := HGI.out; have := li.out; have := zs3.out; have := HLY.out; have := zs4.out; have := Hgy.out; have := zs5.out; have := Bz.out; have := lz.out; have := zs6.out; have := zs7.out; have := zs8.out; have := zs9.out; have := zs10.out; have := zs11.out; have := zs12.out; have := zs13.out; omega))
                                replace RT := hik (rowIs_chg RT.out kk (fun m => by have m9 : loz ≤ _ ∧ _ < hiz := m; have := zs0.out; have := zs1.out; have := Bw.out; have := lw.out; have := zs2.out; have := HGI.out; have := li.out; have := zs3.out; have := HLY.out; have := zs4.out; have := Hgy.out; have := zs5.out; have := Bz.out; have := lz.out; have := zs6.out; have := zs7.out; have := zs8.out; have := zs9.out; have := zs10.out; have := zs11.out; have := zs12.out; have := zs13.out; omega))
                                replace Ow := hik (Ow.out.chg kk (fun b hb1 hb2 m => by have m9 : loz ≤ _ ∧ _ < hiz := m; have := zs0.out; have := zs1.out; have := Bw.out; have := lw.out; have := zs2.out; have := HGI.out; have := li.out; have := zs3.out; have := HLY.out; have := zs4.out; have := Hgy.out; have := zs5.out; have := Bz.out; have := lz.out; have := zs6.out; have := zs7.out; have := zs8.out; have := zs9.out; have := zs10.out; have := zs11.out; have := zs12.out; have := zs13.out; omega))
                                replace Rw := hik (rowIs_chg Rw.out kk (fun m => by have m9 : loz ≤ _ ∧ _ < hiz := m; have := zs0.out; have := zs1.out; have := Bw.out; have := lw.out; have := zs2.out; have := HGI.out; have := li.out; have := zs3.out; have := HLY.out; have := zs4.out; have := Hgy.out; have := zs5.out; have := Bz.out; have := lz.out; have := zs6.out; have := zs7.out; have := zs8.out; have := zs9.out; have := zs10.out; have := zs11.out; have := zs12.out; have := zs13.out; omega))
                                replace Rz := hik (rowIs_chg Rz.out kk (fun m => by have m9 : loz ≤ _ ∧ _ < hiz := m; have := zs0.out; have := zs1.out; have := Bw.out; have := lw.out; have := zs2.out; have := HGI.out; have := li.out; have := zs3.out; have := HLY.out; have := zs4.out; have := Hgy.out; have := zs5.out; have := Bz.out; have := lz.out; have := zs6.out; have := zs7.out; have := zs8.out; have := zs9.out; have := zs10.out; have := zs11.out; have := zs12.out; have := zs13.out; omega))
                                replace Oz := hik oz
                                clear oz
                                clear kk
                                as_aux_lemma =>
                                  have hmk : ¬ ((1 + D.mc : Nat) : Int) < 0 := by omega
                                  go_wp2_with ((with_reducible refine wpList_load_row rfl 37 (.tmp 12) rfl gz ?hx 37 (rowA 17 (pfv D az)) (0, 0) _ (rowA_of Rz.out) Tryz.underlying37 rfl (by rw [rowA_size]; exact infoPf) ?_); (case hx => rfl))
                                  refine (heldProof_row D az 1 _ (hik Oz.out.rep) HSM (by omega) (by have := HMC.out; omega)).mono ?_
                                  rintro e W14 ⟨rfl, kk⟩
                                  have zs14 := hik kk.size
                                  replace K0 := hik (K0.out.trans kk)
                                  replace RS := hik (rowIs_keep RS.out kk)
                                  replace RT := hik (rowIs_keep RT.out kk)
                                  replace Ow := hik (Ow.out.keep kk)
                                  replace Rw := hik (rowIs_keep Rw.out kk)
                                  replace Oz := hik (Oz.out.keep kk)
                                  replace Rz := hik (rowIs_keep Rz.out kk)
                                  clear kk
                                  as_aux_lemma =>
                                    go_upto_region 30 with fail
                                    go_cut [17, 18] (fun pp qq W => ∃ (aS : PA) (gZ lo hi : Nat), pp = .pointer (some ⟨gZ, 0, none⟩) ∧ qq = .int .i64 cd ∧ Hid (PrO W lo hi D aS) ∧ Hid (W.rowIs gZ 37 17 (pfv D aS)) ∧ Hid (Chg nob W14 W) ∧ Hid (W14.heap.size ≤ gZ ∧ W14.heap.size ≤ lo ∧ ¬ (lo ≤ gZ ∧ gZ < hi) ∧ lo ≤ hi ∧ hi ≤ W.heap.size))
                                    case first =>
                                      as_aux_lemma =>
                                        have xRT0 : W14.cell? ⟨w.heap.size + 1, 0, none⟩ = some (.int .i64 a2) := RT.out.cell (i := 0) (by omega)
                                        have xRT1 : W14.cell? ⟨w.heap.size + 1, 1, none⟩ = some (.int .i64 b2) := RT.out.cell (i := 1) (by omega)
                                        have xRT2 : W14.cell? ⟨w.heap.size + 1, 2, none⟩ = some (.int .i64 d2) := RT.out.cell (i := 2) (by omega)
                                        have zRT := RT.out.lt
                                        have xRS0 : W14.cell? ⟨w.heap.size, 0, none⟩ = some (.int .i64 s1.r) := RS.out.cell (i := 0) (by omega)
                                        have xRS1 : W14.cell? ⟨w.heap.size, 1, none⟩ = some (.int .i64 s1.q) := RS.out.cell (i := 1) (by omega)
                                        have xRS2 : W14.cell? ⟨w.heap.size, 2, none⟩ = some (.int .i64 s1.p) := RS.out.cell (i := 2) (by omega)
                                        have xRS3 : W14.cell? ⟨w.heap.size, 3, none⟩ = some (.slice y1.cA s1.nA y1.pA) := RS.out.cell (i := 3) (by omega)
                                        have xRS4 : W14.cell? ⟨w.heap.size, 4, none⟩ = some (.slice y1.cB s1.nB y1.pB) := RS.out.cell (i := 4) (by omega)
                                        have xRS5 : W14.cell? ⟨w.heap.size, 5, none⟩ = some (.slice y1.cC s1.nC y1.pC) := RS.out.cell (i := 5) (by omega)
                                        have zRS := RS.out.lt
                                        have SA := hik (fun (WW : World) (kW : Chg nob W14 WW) => (show (WW.cell? ⟨w.heap.size + 1, 0, none⟩ = some (.int .i64 a2) ∧ WW.cell? ⟨w.heap.size + 1, 1, none⟩ = some (.int .i64 b2) ∧ WW.cell? ⟨w.heap.size + 1, 2, none⟩ = some (.int .i64 d2) ∧ WW.cell? ⟨w.heap.size, 0, none⟩ = some (.int .i64 s1.r) ∧ WW.cell? ⟨w.heap.size, 1, none⟩ = some (.int .i64 s1.q) ∧ WW.cell? ⟨w.heap.size, 2, none⟩ = some (.int .i64 s1.p) ∧ WW.cell? ⟨w.heap.size, 3, none⟩ = some (.slice y1.cA s1.nA y1.pA) ∧ WW.cell? ⟨w.heap.size, 4, none⟩ = some (.slice y1.cB s1.nB y1.pB) ∧ WW.cell? ⟨w.heap.size, 5, none⟩ = some (.slice y1.cC s1.nC y1.pC)) from ⟨kW.see xRT0, kW.see xRT1, kW.see xRT2, kW.see xRS0, kW.see xRS1, kW.see xRS2, kW.see xRS3, kW.see xRS4, kW.see xRS5⟩))
                                        refine wp_regionC [⟨10, 17, .cells #[.string ⟨#[]⟩, .slice none 0 0, .int .i64 0, .int .i64 0, .int .i64 0, .int .i64 0, .int .i64 0, .int .i64 0, .slice none 0 0, .int .i64 0, .int .i64 0, .slice none 0 0, .slice none 0 0, .int .i64 0, .int .i64 0, .int .i64 0, .slice none 0 0] 37, fun b => .pointer (some ⟨b, 0, none⟩)⟩] 12 (by kernel_rfl) (by rfl) (by rfl) (by kernel_rfl) ?_
                                        refine wpC_take (i := 0) (v := ?_) rfl (by kernel_rfl) (by kernel_rfl) (by rfl) (fun _ _ _ h => h) (fun u => Or.inl ⟨by rfl, ?_⟩) ?_
                                        rotate_left 1
                                        · (intro w' hSw; have hSw := SA.out _ hSw; (try dsimp only at hSw); try simp only [putF, Act.put, List.setIfInBounds_toArray, List.set_cons_zero, List.set_cons_succ, List.getElem_toArray, List.getElem_cons_zero, List.getElem_cons_succ]; go_simp; try with_reducible rfl)
                                        try simp only [Act.put, List.setIfInBounds_toArray, List.set_cons_zero, List.set_cons_succ, List.getElem_toArray, List.getElem_cons_zero, List.getElem_cons_succ]
                                        as_aux_lemma =>
                                          refine wpC_take (i := 2) (v := ?_) rfl (by kernel_rfl) (by kernel_rfl) (by rfl) (fun _ _ _ h => h) (fun u => Or.inl ⟨by rfl, ?_⟩) ?_
                                          rotate_left 1
                                          · (intro w' hSw; have hSw := SA.out _ hSw; (try dsimp only at hSw); try simp only [putF, Act.put, List.setIfInBounds_toArray, List.set_cons_zero, List.set_cons_succ, List.getElem_toArray, List.getElem_cons_zero, List.getElem_cons_succ]; go_simp; try with_reducible rfl)
                                          try simp only [Act.put, List.setIfInBounds_toArray, List.set_cons_zero, List.set_cons_succ, List.getElem_toArray, List.getElem_cons_zero, List.getElem_cons_succ]
                                          as_aux_lemma =>
                                            refine wpC_take (i := 4) (v := ?_) rfl (by kernel_rfl) (by kernel_rfl) (by rfl) (fun _ _ _ h => h) (fun u => Or.inl ⟨by rfl, ?_⟩) ?_
                                            rotate_left 1
                                            · (intro w' hSw; have hSw := SA.out _ hSw; (try dsimp only at hSw); try simp only [putF, Act.put, List.setIfInBounds_toArray, List.set_cons_zero, List.set_cons_succ, List.getElem_toArray, List.getElem_cons_zero, List.getElem_cons_succ]; go_simp; try with_reducible rfl)
                                            try simp only [Act.put, List.setIfInBounds_toArray, List.set_cons_zero, List.set_cons_succ, List.getElem_toArray, List.getElem_cons_zero, List.getElem_cons_succ]
                                            as_aux_lemma =>
                                              refine wpC_step (i := 1) rfl (by kernel_rfl) (by rfl) (List.forall_mem_cons.2 ⟨FloOK.alloc rfl 37 rfl rfl rfl (fun w => by go_simp), (fun _ h => absurd h List.not_mem_nil)⟩) (by rfl) ?_
                                              intro bb gg uu P1' hrd hB k0 kW K' hK
                                              clear hrd hB
                                              have KW := hik k0
                                              clear kW k0
                                              refine stepL_callN 6 #[.tmp 99] #[22] (by rfl) (by rfl) #[.slice c0 len0 cap0] (by (try simp only [putF, Act.put, List.setIfInBounds_toArray, List.set_cons_zero, List.set_cons_succ, List.getElem_toArray, List.getElem_cons_zero, List.getElem_cons_succ]); simp only [List.map_toArray, List.map_cons, List.map_nil] <;> rfl) (run_go Tryz.func6 (by kernel_rfl) (by kernel_rfl) _ _) (toByteS_any c0 len0 cap0 z0 _ (hik (V0.out.keep (K0.out.trans KW.out))) (by have := HN.out; omega)) ?_
                                              rintro e P1 ⟨he, ri, kk⟩
                                              generalize hxb : (P1').heap.size = xb at he ri
                                              clear hxb
                                              have IY := hik (RowV.of_row ri (Nat.le_refl _))
                                              clear ri
                                              refine ⟨_, he, hK _ _ kk ?_⟩
                                              have hsP1 := hik kk.size
                                              clear he kk hK K' KW bb gg uu
                                              try simp only [Act.put, List.setIfInBounds_toArray, List.set_cons_zero, List.set_cons_succ, List.getElem_toArray, List.getElem_cons_zero, List.getElem_cons_succ]
                                              refine wpC_step (i := 3) rfl (by kernel_rfl) (by rfl) (List.forall_mem_cons.2 ⟨FloOK.alloc rfl 37 rfl rfl rfl (fun w => by go_simp), (fun _ h => absurd h List.not_mem_nil)⟩) (by rfl) ?_
                                              intro bb gg uu P2' hrd hB k0 kW K' hK
                                              clear hrd hB
                                              have KW := hik k0
                                              replace IY := hik (IY.out.keep kW)
                                              clear kW k0
                                              refine stepL_callN 7 #[.tmp 101] #[25] (by rfl) (by rfl) #[.agg #[.int .i64 s1.r, .int .i64 s1.q, .int .i64 s1.p, .slice y1.cA s1.nA y1.pA, .slice y1.cB s1.nB y1.pB, .slice y1.cC s1.nC y1.pC]] (by (try simp only [putF, Act.put, List.setIfInBounds_toArray, List.set_cons_zero, List.set_cons_succ, List.getElem_toArray, List.getElem_cons_zero, List.getElem_cons_succ]); simp only [List.map_toArray, List.map_cons, List.map_nil] <;> rfl) (run_go Tryz.func7 (by kernel_rfl) (by kernel_rfl) _ _) (toSystem_o s1 y1 _ (hik (V1.out.keep (K0.out.trans KW.out))) hs1) ?_
                                              rintro e P2 ⟨yj, he, oy, kk⟩
                                              replace IY := hik (IY.out.keep kk)
                                              have TY := hik oy.rep
                                              clear oy
                                              refine ⟨_, he, hK _ _ kk ?_⟩
                                              have hsP2 := hik kk.size
                                              clear he kk hK K' KW bb gg uu
                                              try simp only [Act.put, List.setIfInBounds_toArray, List.set_cons_zero, List.set_cons_succ, List.getElem_toArray, List.getElem_cons_zero, List.getElem_cons_succ]
                                              refine wpC_step (i := 5) rfl (by kernel_rfl) (by rfl) (List.forall_mem_cons.2 ⟨FloOK.alloc rfl 37 rfl rfl rfl (fun w => by go_simp), (fun _ h => absurd h List.not_mem_nil)⟩) (by rfl) ?_
                                              intro bb gg uu P3' hrd hB k0 kW K' hK
                                              clear hrd hB
                                              have KW := hik k0
                                              replace IY := hik (IY.out.keep kW)
                                              replace TY := hik (TY.out.keep kW)
                                              clear kW k0
                                              refine stepL_callN 8 #[.tmp 103] #[27] (by rfl) (by rfl) #[.agg #[.int .i64 a2, .int .i64 b2, .int .i64 d2]] (by (try simp only [putF, Act.put, List.setIfInBounds_toArray, List.set_cons_zero, List.set_cons_succ, List.getElem_toArray, List.getElem_cons_zero, List.getElem_cons_succ]); simp only [List.map_toArray, List.map_cons, List.map_nil] <;> rfl) (run_go Tryz.func8 (by kernel_rfl) (by kernel_rfl) _ _) (toSetting_any a2 b2 d2 _) ?_
                                              rintro e P3 ⟨he, kk⟩
                                              replace IY := hik (IY.out.keep kk)
                                              replace TY := hik (TY.out.keep kk)
                                              refine ⟨_, he, hK _ _ kk ?_⟩
                                              have hsP3 := hik kk.size
                                              clear he kk hK K' KW bb gg uu
                                              try simp only [Act.put, List.setIfInBounds_toArray, List.set_cons_zero, List.set_cons_succ, List.getElem_toArray, List.getElem_cons_zero, List.getElem_cons_succ]
                                              refine wpC_step (i := 6) rfl (by kernel_rfl) (by rfl) (List.forall_mem_cons.2 ⟨FloOK.alloc rfl 37 rfl rfl rfl (fun w => by go_simp), (fun _ h => absurd h List.not_mem_nil)⟩) (by rfl) ?_
                                              intro bb gg uu P4' hrd hB k0 kW K' hK
                                              clear hrd hB
                                              have KW := hik k0
                                              replace IY := hik (IY.out.keep kW)
                                              replace TY := hik (TY.out.keep kW)
                                              clear kW k0
                                              refine stepL_callN 9 #[.tmp 100, .tmp 102, .tmp 104] #[22, 43, 45] (by rfl) (by rfl) #[.slice (some ⟨xb, 0, none⟩) len0 len0, .agg #[.int .i64 s1.r, .int .i64 s1.q, .int .i64 s1.p, .slice yj.cA s1.nA yj.pA, .slice yj.cB s1.nB yj.pB, .slice yj.cC s1.nC yj.pC], .agg #[.int .i64 a2, .int .i64 b2, .int .i64 d2]] (by (try simp only [putF, Act.put, List.setIfInBounds_toArray, List.set_cons_zero, List.set_cons_succ, List.getElem_toArray, List.getElem_cons_zero, List.getElem_cons_succ]); simp only [List.map_toArray, List.map_cons, List.map_nil] <;> rfl) (run_go Tryz.func9 (by kernel_rfl) (by kernel_rfl) _ _) (HI.out (some ⟨xb, 0, none⟩) len0 _ IY (Nat.le_refl _) (by have := HN.out; omega) yj TY) ?_
                                              rintro e P4 ⟨aS, he, rS, kk⟩
                                              replace IY := hik (IY.out.keep kk)
                                              replace TY := hik (TY.out.keep kk)
                                              have OS := hik rS
                                              have HLO := hik (show W14.heap.size ≤ P4'.heap.size from KW.out.size)
                                              clear rS
                                              refine ⟨_, he, hK _ _ kk ?_⟩
                                              have hsP4 := hik kk.size
                                              clear he kk hK K' KW bb gg uu
                                              try simp only [Act.put, List.setIfInBounds_toArray, List.set_cons_zero, List.set_cons_succ, List.getElem_toArray, List.getElem_cons_zero, List.getElem_cons_succ]
                                              refine wpC_take (i := 7) (v := ?_) rfl (by kernel_rfl) (by kernel_rfl) (by rfl) (fun _ _ _ h => h) (fun u => Or.inl ⟨by rfl, ?_⟩) ?_
                                              rotate_left 1
                                              · (intro w' hSw; have hSw := SA.out _ hSw; (try dsimp only at hSw); try simp only [putF, Act.put, List.setIfInBounds_toArray, List.set_cons_zero, List.set_cons_succ, List.getElem_toArray, List.getElem_cons_zero, List.getElem_cons_succ]; go_simp; try with_reducible rfl)
                                              try simp only [Act.put, List.setIfInBounds_toArray, List.set_cons_zero, List.set_cons_succ, List.getElem_toArray, List.getElem_cons_zero, List.getElem_cons_succ]
                                              as_aux_lemma =>
                                                refine wpC_take (i := 8) (v := ?_) rfl (by kernel_rfl) (by kernel_rfl) (by rfl) (fun _ _ _ h => h) (fun u => Or.inl ⟨by rfl, ?_⟩) ?_
                                                rotate_left 1
                                                · (intro w' hSw; have hSw := SA.out _ hSw; (try dsimp only at hSw); try simp only [putF, Act.put, List.setIfInBounds_toArray, List.set_cons_zero, List.set_cons_succ, List.getElem_toArray, List.getElem_cons_zero, List.getElem_cons_succ]; go_simp; try with_reducible rfl)
                                                try simp only [Act.put, List.setIfInBounds_toArray, List.set_cons_zero, List.set_cons_succ, List.getElem_toArray, List.getElem_cons_zero, List.getElem_cons_succ]
                                                as_aux_lemma =>
                                                  refine wpC_take (i := 9) (v := ?_) rfl (by kernel_rfl) (by kernel_rfl) (by rfl) (fun _ _ _ h => h) (fun u => Or.inl ⟨by rfl, ?_⟩) ?_
                                                  rotate_left 1
                                                  · (intro w' hSw; have hSw := SA.out _ hSw; (try dsimp only at hSw); try simp only [putF, Act.put, List.setIfInBounds_toArray, List.set_cons_zero, List.set_cons_succ, List.getElem_toArray, List.getElem_cons_zero, List.getElem_cons_succ]; go_simp; try with_reducible rfl)
                                                  try simp only [Act.put, List.setIfInBounds_toArray, List.set_cons_zero, List.set_cons_succ, List.getElem_toArray, List.getElem_cons_zero, List.getElem_cons_succ]
                                                  as_aux_lemma =>
                                                    refine wpC_all (by kernel_rfl) (by rfl) (List.forall_mem_cons.2 ⟨FloOK.alloc rfl 37 rfl rfl rfl (fun w => by go_simp), (fun _ h => absurd h List.not_mem_nil)⟩) ?_
                                                    intro gg uu Pz hB k0 kW
                                                    have KW := hik k0
                                                    have HTOP := hik kW.size
                                                    replace IY := hik (IY.out.keep kW)
                                                    replace TY := hik (TY.out.keep kW)
                                                    replace OS := hik (OS.out.keep kW)
                                                    obtain ⟨eu0, hg0, hl0, hc0, ha0, hd0⟩ := hB 0 _ rfl rfl
                                                    have eu0 : uu 0 = .pointer (some ⟨gg 0, 0, none⟩) := eu0
                                                    have BX0 := hik (rowN_at (n := 17) hc0 rfl)
                                                    clear hd0 hc0 hl0
                                                    clear hB kW
                                                    generalize gg 0 = g0 at eu0 hg0 ha0 BX0
                                                    refine wpAnyH_as (fuel' := 2) rfl (listed' := #[true, true, true, true, true, true, true, true, true, true, true, false, false]) (by kernel_rfl) ?_
                                                    simp only [putF, eu0, Act.put, List.setIfInBounds_toArray, List.set_cons_zero, List.set_cons_succ, List.getElem_toArray, List.getElem_cons_zero, List.getElem_cons_succ]
                                                    clear eu0
                                                    have hHeld := k0
                                                    clear k0
                                                    refine wpAnyH_ready (rs := [11]) (by kernel_rfl) (by simp) ?_
                                                    refine AllReadyH.cons rfl (fun K hK => ?_) AllReadyH.nil
                                                    refine stepL_store_row 37 (.tmp 17) (.tmp 106) rfl (by rfl) g0 17 (pfv D aS) (by rfl) (by rfl) 37 _ BX0.out infoPf (fun i hi => pfv_one _ _ i hi) ?_
                                                    intro US1 r9 g9
                                                    have RB0 := hik r9
                                                    have C7 := hik g9
                                                    clear r9 g9
                                                    replace KW : Hid (Chg nob W14 US1) := hik (KW.out.near C7.out (fun b e => by have e' : b = g0 := e; omega))
                                                    refine hK.out _ _ KW.out (fun hHeld => ?_)
                                                    clear hK K
                                                    try simp only [Act.put, List.setIfInBounds_toArray, List.set_cons_zero, List.set_cons_succ, List.getElem_toArray, List.getElem_cons_zero, List.getElem_cons_succ]
                                                    replace OS := hik (OS.out.chg C7.out (fun c h1 h2 e => ha0 (.inr ⟨by rw [← show c = g0 from e]; exact h1, by rw [← show c = g0 from e]; exact h2⟩)))
                                                    replace HTOP := hik (Nat.le_trans HTOP.out C7.out.size)
                                                    clear C7 BX0
                                                    refine wpAnyH_take (i := 12) (v := ?_) rfl (by kernel_rfl) (by kernel_rfl) (by kernel_rfl) (fun _ _ _ h => h) (Or.inl ⟨by rfl, ?_⟩) (by assumption) ?_
                                                    rotate_left 1
                                                    · (intro w' hSw; (try dsimp only at hSw); go_simp; try with_reducible rfl)
                                                    try simp only [Act.put, List.setIfInBounds_toArray, List.set_cons_zero, List.set_cons_succ, List.getElem_toArray, List.getElem_cons_zero, List.getElem_cons_succ]
                                                    as_aux_lemma =>
                                                      refine wpAnyH_done (by kernel_rfl) ?_ _
                                                      clear SA
                                                      go_wp2_with fail
                                                      go_meet
                                                      exact ⟨aS, g0, P4'.heap.size, P4.heap.size, rfl, rfl, OS, RB0, KW, hik ⟨hg0, HLO.out, fun x => ha0 (.inr x), hsP4.out, HTOP.out⟩⟩
                                    case rest =>
                                      as_aux_lemma =>
                                        obtain ⟨aj, gj, loj, hij, rfl, rfl, Oj, Rj, KW, Bj⟩ := hcut
                                        rename World => W15
                                        have zs15 := hik KW.out.size
                                        replace K0 := hik (K0.out.trans KW.out)
                                        replace RS := hik (rowIs_keep RS.out KW.out)
                                        replace RT := hik (rowIs_keep RT.out KW.out)
                                        replace Ow := hik (Ow.out.keep KW.out)
                                        replace Rw := hik (rowIs_keep Rw.out KW.out)
                                        replace Oz := hik (Oz.out.keep KW.out)
                                        replace Rz := hik (rowIs_keep Rz.out KW.out)
                                        clear KW
                                        have lj := hik Rj.out.lt
                                        go_wp2_with (first | ((with_reducible refine wpList_load_row rfl 37 (.tmp 17) rfl gj ?hx 37 (rowA 17 (pfv D aj)) (0, 0) _ (rowA_of Rj.out) Tryz.underlying37 rfl (by rw [rowA_size]; exact infoPf) ?_); (case hx => rfl)) | ((with_reducible refine wpList_load_row rfl 37 (.tmp 8) rfl gw ?hx 37 (rowA 17 (pfv D aw)) (0, 0) _ (rowA_of Rw.out) Tryz.underlying37 rfl (by rw [rowA_size]; exact infoPf) ?_); (case hx => rfl)))
                                        refine (eqProof_row D aj aw _ (hik Oj.out.rep) (hik Ow.out.rep) HSM).mono ?_
                                        rintro e W16 ⟨rfl, kk⟩
                                        have zs16 := hik kk.size
                                        replace K0 := hik (K0.out.trans kk)
                                        replace RS := hik (rowIs_keep RS.out kk)
                                        replace RT := hik (rowIs_keep RT.out kk)
                                        replace Ow := hik (Ow.out.keep kk)
                                        replace Rw := hik (rowIs_keep Rw.out kk)
                                        replace Oz := hik (Oz.out.keep kk)
                                        replace Rz := hik (rowIs_keep Rz.out kk)
                                        replace Oj := hik (Oj.out.keep kk)
                                        replace Rj := hik (rowIs_keep Rj.out kk)
                                        clear kk
                                        as_aux_lemma =>
                                          go_wp2_with ((with_reducible refine wpList_load_row rfl 37 (.tmp 12) rfl gz ?hx 37 (rowA 17 (pfv D az)) (0, 0) _ (rowA_of Rz.out) Tryz.underlying37 rfl (by rw [rowA_size]; exact infoPf) ?_); (case hx => rfl))
                                          refine (heldProof_row D az 1 _ (hik Oz.out.rep) HSM (by omega) (by have := HMC.out; omega)).mono ?_
                                          rintro e W17 ⟨rfl, kk⟩
                                          have zs17 := hik kk.size
                                          replace K0 := hik (K0.out.trans kk)
                                          replace RS := hik (rowIs_keep RS.out kk)
                                          replace RT := hik (rowIs_keep RT.out kk)
                                          replace Ow := hik (Ow.out.keep kk)
                                          replace Rw := hik (rowIs_keep Rw.out kk)
                                          replace Oz := hik (Oz.out.keep kk)
                                          replace Rz := hik (rowIs_keep Rz.out kk)
                                          replace Oj := hik (Oj.out.keep kk)
                                          replace Rj := hik (rowIs_keep Rj.out kk)
                                          clear kk
                                          as_aux_lemma =>
                                            go_wp2
                                            go_ret
                                            exact ⟨rfl, K0.out.toBelow⟩

end Go.Proofs.YtppiilbcnkphbaaGreat
