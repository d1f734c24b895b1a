/- Several texts in one: Bytes of a call's own: that they can be read, and marks: contracts. No condition but those that each theorem states. · The bytes of a proof, one list: words. No condition but those that each theorem states. -/
import Derived.Test.YtfbjlohnbpienaaGreatBzat
import Derived.Test.YtfbjlohnbpienaaGreatBzaz
import Derived.Test.YtfbjlohnbpienaaGreatBzae
import Derived.Test.YtfbjlohnbpienaaGreatBzal
import Derived.Test.YtfbjlohnbpienaaGreatBzaq
namespace Go.Proofs.YtfbjlohnbpienaaGreat
open Go.ChangeShapes Go.WideShapes Go.ChangeAt Go.RowKit
set_option linter.unusedVariables false
set_option maxRecDepth 100000
set_option linter.unusedSimpArgs false

/-- Bytes and a code, bytes that lie in a block of the call's own. -/
def OyAns (w : World) (code : Int) (ys : List Value) (e : Ending) (w' : World) : Prop :=
  ∃ (c : Option Addr) (cap : Nat), e = .returned (.tuple #[.slice c ys.length cap, .int .i64 code]) ∧ Mine w' w.heap.size w'.heap.size c ys.length (bw (yB ys)) ∧ Chg nob w w'
theorem ObAns.mine {w w' : World} {code : Int} {ys : List Value} {e : Ending} (hB : isB ys) (h : ObAns w code ys e w') : OyAns w code ys e w' := by
  obtain ⟨c, N, cap, rfl, hN, ho, k⟩ := h
  subst hN
  have q := ho
  rw [yB_map hB] at q
  have q' : w'.ownsRow w.heap.size 5 1 (.slice c ys.length cap) ys.length ((List.range ys.length).map (bw (yB ys))) := by
    rw [show ((List.range ys.length).map (bw (yB ys))) = ys from (yB_map hB).symm]
    exact ho
  obtain ⟨c', cap', e', m⟩ := own_slice q'
  cases e'
  exact ⟨c, cap, rfl, m, k⟩

set_option maxHeartbeats 1000000 in
theorem markByteW_any (g n cap : Nat) (h : Nat → Value) (w : World) (hr : Hid (WRow w g n h)) (hn : n ≤ 1099511627776) :
    Calls Tryz.prog 16 #[.slice (some ⟨g, 0, none⟩) n cap, .int .i64 1] w fun e w' => e = .returned (.int .i64 (1 + n)) ∧ WRow w' g n (bw mkb) ∧ Chg (fun b => b = g) w w' := by
  go_enter Tryz.func16, Tryz.ntmps16
  go_wp2
  go_loopw [1, 5] (fun v i W => ∃ k : Nat, k ≤ n ∧ i = .int .i64 k ∧ v = .int .i64 (1 + k) ∧ Hid (WRow W g n (fun j => if j < k then bw mkb j else h j)) ∧ Hid (Chg (fun b => b = g) w W)) (fun _ i _ => n - (intOf i).toNat)
  case atStart => exact ⟨0, Nat.zero_le _, rfl, rfl, hid (hr.out.congr (fun i _ => by simp)), hid (Chg.refl _ _)⟩
  case round =>
    obtain ⟨k, hk, rfl, rfl, HR, HC⟩ := hrel
    by_cases hlt : k < n
    · have hg := HR.out.cell k hlt
      have hf := HR.out.fro k hlt
      have hgl := HR.out.lt
      simp only [Nat.lt_irrefl, if_false] at hg
      have HR2 := hid (show _ from (HR.out.set k hlt (.int .u8 ((1 + (k : Int)) % 256))).congr (f' := fun j => if j < k + 1 then bw mkb j else h j) (fun i _ => by
        by_cases e : i = k
        · subst e; simp [bw, mkb]
        · by_cases e2 : i < k
          · simp [e, e2, show i < k + 1 by omega]
          · simp [e, e2, show ¬ i < k + 1 by omega]))
      have HC2 := hid (HC.out.setCell (p := ⟨g, k, none⟩) (fun _ => rfl) (.int .u8 ((1 + (k : Int)) % 256)))
      go_wp2
      go_roundw
      case rel => exact ⟨k + 1, by omega, by go_num, by go_num, HR2, HC2⟩
      case measure => simp [intOf]; omega
    · obtain rfl : k = n := by omega
      go_wp2
      go_ret
      exact ⟨rfl, HR.out.congr (fun i hi => by simp [hi]), HC.out⟩
theorem markByteM_any (c : Option Addr) (n cap B T : Nat) (f : Nat → Value) (w : World) (h : Hid (Mine w B T c n f)) (hn : n ≤ 549755813888) :
    Calls Tryz.prog 16 #[.slice c n cap, .int .i64 1] w fun e w' => e = .returned (.int .i64 (1 + n)) ∧ Mine w' B T c n (bw mkb) ∧ Chg (fun b => B ≤ b ∧ b < T) w w' := by
  rcases h.out with rfl | ⟨b, rfl, hb, hb', hw⟩
  · refine (markByteS_none c cap w).mono ?_
    rintro e w' ⟨rfl, k⟩
    exact ⟨rfl, .inl rfl, k.wide⟩
  · refine (markByteW_any b n cap f w (hik hw) (by omega)).mono ?_
    rintro e w' ⟨rfl, hw', k⟩
    exact ⟨rfl, .inr ⟨b, rfl, hb, hb', hw'⟩, k.mono (fun i _ e => by rw [e]; exact ⟨hb, hb'⟩)⟩

end Go.Proofs.YtfbjlohnbpienaaGreat

namespace Go.Proofs.YtfbjlohnbpienaaGreat
open Go.ChangeShapes Go.WideShapes Go.ChangeAt Go.RowKit
set_option linter.unusedVariables false
set_option maxRecDepth 100000
set_option linter.unusedSimpArgs false

/-- What stands ahead of the opening's. -/
def pbH (p : PD) : List Value := (((tB p.rt ++ obE p.gl p.gf p.gg p.ng) ++ eB (pk4 p.a0 p.b0 p.c0 0) (pk4 p.a1 p.b1 p.c1 0) 3) ++ obE p.wl p.wf p.wg p.nw) ++ eB (fun _ => p.v0) (fun _ => p.v1) 1
def pby (p : PD) : List Value := pbH p ++ oby p.op
/-- Of a right proof. -/
structure OkPf (p : PD) (s : Sy) (r n g : Int) : Prop where
  sy : sysb s = true
  rt : p.rt.size = 32
  ng : (p.ng : Int) = s.r
  gd : ∀ i, i < p.ng → p.gl i = 4 ∧ okP (p.gf i) (p.gg i) (p.gl i) = true
  abc : (eok p.a0 p.a1 && (eok p.b0 p.b1 && eok p.c0 p.c1)) = true
  nw : (p.nw : Int) = s.q
  wd : ∀ i, i < p.nw → p.wl i = 3 ∧ okP (p.wf i) (p.wg i) (p.wl i) = true
  v : eok p.v0 p.v1 = true
  op : ook p.op (s.q - 1) r n g = true
theorem rfB_ok {m : Nat} {v : Int} {n : Nat} {l : Nat → Nat} {f g : Nat → Nat → Int} (h : rfB m v n l f g = true) : (n : Int) = v ∧ ∀ i, i < n → l i = m ∧ okP (f i) (g i) (l i) = true := by
  unfold rfB at h
  simp only [Bool.and_eq_true, decide_eq_true_eq] at h
  exact ⟨h.1, fun i hi => by
    have := allN_at h.2 hi
    simp only [Bool.and_eq_true, decide_eq_true_eq] at this
    exact this⟩
theorem pfb_ok {p : PD} {s : Sy} {r n g : Int} (h : pfb p s r n g = true) : OkPf p s r n g := by
  unfold pfb at h
  obtain ⟨h1, h⟩ := (Bool.and_eq_true_iff ..).1 h
  obtain ⟨h2, h⟩ := (Bool.and_eq_true_iff ..).1 h
  obtain ⟨h3, h⟩ := (Bool.and_eq_true_iff ..).1 h
  obtain ⟨h4, h⟩ := (Bool.and_eq_true_iff ..).1 h
  obtain ⟨h5, h⟩ := (Bool.and_eq_true_iff ..).1 h
  obtain ⟨h6, h7⟩ := (Bool.and_eq_true_iff ..).1 h
  have a := rfB_ok h3
  have b := rfB_ok h5
  exact ⟨h1, of_decide_eq_true h2, a.1, a.2, h4, b.1, b.2, h6, h7⟩
theorem OkPf.rnd {p : PD} {s : Sy} {r n g : Int} (h : OkPf p s r n g) : 1 ≤ s.r ∧ s.r ≤ 5 ∧ 2 ≤ s.q ∧ s.q ≤ 5 := sysb_q h.sy
theorem OkPf.g8 {p : PD} {s : Sy} {r n g : Int} (h : OkPf p s r n g) : ∀ i, i < p.ng → 1 ≤ p.gl i ∧ p.gl i ≤ 8 ∧ okP (p.gf i) (p.gg i) (p.gl i) = true := fun i hi => by have := h.gd i hi; exact ⟨by omega, by omega, this.2⟩
theorem OkPf.w8 {p : PD} {s : Sy} {r n g : Int} (h : OkPf p s r n g) : ∀ i, i < p.nw → 1 ≤ p.wl i ∧ p.wl i ≤ 8 ∧ okP (p.wf i) (p.wg i) (p.wl i) = true := fun i hi => by have := h.wd i hi; exact ⟨by omega, by omega, this.2⟩
theorem pbH_len {p : PD} {s : Sy} {r n g : Int} (h : OkPf p s r n g) : (pbH p).length ≤ 1000 := by
  unfold pbH
  simp only [List.length_append, eB_len, tB_len]
  have := obE_len h.g8 (Nat.le_refl _)
  have := obE_len h.w8 (Nat.le_refl _)
  have := h.rnd
  have := h.ng
  have := h.nw
  have := h.rt
  omega
theorem oby_len {o : OD} {v r q : Int} (ok : OkO o v r q) : 4 ≤ (oby o).length ∧ (oby o).length ≤ 20000 := by
  have h1 := obH_len ok
  have h2 := obQs_len ok (Nat.le_refl _)
  have h3 : 4 ≤ (obH o).length := by unfold obH; rw [List.length_append, show (wv o.no).length = 4 from rfl]; omega
  have := ok.nq
  have := ok.q1
  simp only [oby, List.length_append]
  omega
/-- ProofBytes' answers. -/
def pbc (p : PD) (s : Sy) (r n g : Int) : Int := if pfb p s r n g then 0 else 1
def pbl (p : PD) (s : Sy) (r n g : Int) : List Value := if pfb p s r n g then pby p else []
theorem pbl_len {p : PD} {s : Sy} {r n g : Int} : (pbl p s r n g).length ≤ 30000 := by
  unfold pbl
  cases h : pfb p s r n g
  · simp
  · have ok := pfb_ok h
    have h1 := pbH_len ok
    have h2 := oby_len (ook_ok ok.op)
    simp only [if_true, pby, List.length_append]
    omega
theorem isB_obE (l : Nat → Nat) (f g : Nat → Nat → Int) (k : Nat) : isB (obE l f g k) := isB_cat (fun i => isB_e _ _ _) k
theorem isB_oby (o : OD) : isB (oby o) := ((((isB_cat (fun i => isB_e _ _ _) _).app (isB_cat (fun i => isB_t _) _)).app (isB_e _ _ _)).app (isB_w _)).app (isB_cat (fun i => (isB_e _ _ _).app (isB_cat (fun j => isB_cat (fun k => isB_t _) _) _)) _)
theorem isB_pbH (p : PD) : isB (pbH p) := ((((isB_t _).app (isB_obE _ _ _ _)).app (isB_e _ _ _)).app (isB_obE _ _ _ _)).app (isB_e _ _ _)
theorem isB_one {ys : List Value} (h : isB ys) : ∀ u ∈ ys, u.oneCell' = true := fun u hu => by
  obtain ⟨x, rfl⟩ := h u hu
  rfl

end Go.Proofs.YtfbjlohnbpienaaGreat
