/- Several texts in one: What the model's ReadExts answers, and the last of the laws' helpers on elements: contracts. Conditions: bytes that can be read. · What the laws' copy of an opening is: a contract. Conditions: an opening that can be read, lengths of at most 2 to the 20. · When an opening has all its parts: words. No condition but those that each theorem states. · What an opening's bytes say: words. No condition but those that each theorem states. -/
import Derived.Test.YtppiilbcnkphbaaGreatBzae
import Derived.Test.YtppiilbcnkphbaaGreatBzai
import Derived.Test.YtppiilbcnkphbaaGreatBzac
import Derived.Test.YtppiilbcnkphbaaGreatBzan
namespace Go.Proofs.YtppiilbcnkphbaaGreat
open Go.ChangeShapes Go.WideShapes Go.ChangeAt Go.RowKit
set_option linter.unusedVariables false
set_option linter.unusedSimpArgs false

theorem conv_bytes (c : Option Addr) (n cap : Nat) (z : Nat → Int) (w : World) (h : RowV w c n (bw z)) :
    (convert 22 9 (.slice c n cap)).run Tryz.prog w = .ok (.string (strOfNums ((List.range n).map z))) w := by
  by_cases hn : n = 0
  · subst hn
    cases c with
    | none =>
      rw [run_convert_bytes_nil w 22 5 Tryz.underlying22 Tryz.underlying5 0 cap 9 Tryz.underlying9]
      rfl
    | some a =>
      rw [run_convert_bytes_string w 22 9 5 _ 0 cap Tryz.underlying22 Tryz.underlying5 Tryz.underlying9, run_bytesToString w a 0 cap [] (by simp [loadCells, loadCellsFrom])]
      rfl
  · obtain ⟨xb, xo, rfl, _, hc⟩ := h.whole (by omega)
    exact run_convert_bytes_arg w 22 5 Tryz.underlying22 Tryz.underlying5 xb xo n cap ((List.range n).map z) (by simp) (fun i hi => by rw [hc i hi]; simp [bw, List.getD, List.getElem?_map, List.getElem?_range hi]) 9 Tryz.underlying9
theorem sz_nums (z : Nat → Int) (n i : Nat) (hi : i < n) (h0 : 0 ≤ z i) (h1 : z i < 256) : sz (strOfNums ((List.range n).map z)) i = z i := by
  unfold sz
  rw [strOfNums_data, List.getElem?_map, List.getElem?_map, List.getElem?_range hi]
  simp
  omega
theorem okP_congr (f g f' g' : Nat → Int) (n : Nat) (h : ∀ i, i < n → f i = f' i ∧ g i = g' i) : okP f g n = okP f' g' n := by
  induction n with
  | zero => rfl
  | succ n ih => simp only [okP]; rw [ih (fun i hi => h i (by omega)), (h n (by omega)).1, (h n (by omega)).2]
theorem words_eq (z z' : Nat → Int) (n : Nat) (h : ∀ i, i < n → z i = z' i) : ∀ i, i < n / 8 → rf z i = rf z' i ∧ rg z i = rg z' i := by
  intro i hi
  unfold rf rg w4
  rw [h (i * 8) (by omega), h (i * 8 + 1) (by omega), h (i * 8 + 2) (by omega), h (i * 8 + 3) (by omega), h (i * 8 + 4) (by omega), h (i * 8 + 4 + 1) (by omega), h (i * 8 + 4 + 2) (by omega), h (i * 8 + 4 + 3) (by omega)]
  exact ⟨rfl, rfl⟩
/-- The model's answer, by the code. -/
def SRAns (w : World) (n : Nat) (z : Nat → Int) (e : Ending) (w' : World) : Prop :=
  (rc z n ≠ 0 ∧ ∃ (c0 : Option Addr) (cap0 : Nat), e = .returned (.tuple #[.slice c0 0 cap0, .int .i64 (rc z n)]) ∧ Chg nob w w') ∨
  (rc z n = 0 ∧ ∃ (c0 : Option Addr) (cap0 : Nat), e = .returned (.tuple #[.slice c0 (n / 8) cap0, .int .i64 0]) ∧ PairV w' c0 (n / 8) (rf z) (rg z) ∧ Chg nob w w')
theorem SRAns.no {w w' : World} {n : Nat} {z : Nat → Int} {e : Ending} {code : Int} {c0 : Option Addr} {cap0 : Nat} (hb : rc z n = code) (hc : code ≠ 0) (h : e = .returned (.tuple #[.slice c0 0 cap0, .int .i64 code])) (k : Chg nob w w') : SRAns w n z e w' :=
  .inl ⟨by rw [hb]; exact hc, c0, cap0, by rw [hb]; exact h, k⟩


end Go.Proofs.YtppiilbcnkphbaaGreat

namespace Go.Proofs.YtppiilbcnkphbaaGreat
open Go.ChangeShapes Go.WideShapes Go.ChangeAt Go.RowKit
set_option linter.unusedVariables false
set_option maxRecDepth 100000
set_option linter.unusedSimpArgs false

/-- An opening that can be read. -/
def OpV (w : World) (o : OD) (cR : Option Addr) (pR : Nat) (cT : Option Addr) (pT : Nat) (cQ : Option Addr) (pQ : Nat) : Prop :=
  o.R.Rep w (.slice cR o.nr pR) ∧ o.S.Rep w (.slice cT o.nt pT) ∧ o.Q.Rep w (.slice cQ o.nq pQ)
theorem OpV.keep {w w' : World} {o : OD} {cR : Option Addr} {pR : Nat} {cT : Option Addr} {pT : Nat} {cQ : Option Addr} {pQ : Nat} (h : OpV w o cR pR cT pT cQ pQ) (k : Chg nob w w') : OpV w' o cR pR cT pT cQ pQ := ⟨h.1.keep k, h.2.1.keep k, h.2.2.keep k⟩
/-- Lengths of at most 2 to the 20. -/
def OD.small (o : OD) : Prop := o.R.small 1048576 ∧ o.S.small 1048576 ∧ o.Q.small 1048576


end Go.Proofs.YtppiilbcnkphbaaGreat

namespace Go.Proofs.YtppiilbcnkphbaaGreat
open Go.RowKit
set_option linter.unusedVariables false

/-- Of all. -/
def allN (n : Nat) (p : Nat → Bool) : Bool := decide (∀ i, i < n → p i = true)
theorem allN_no {n : Nat} {p : Nat → Bool} {k : Nat} (hk : k < n) (h : p k = false) : allN n p = false := decide_eq_false (fun x => by rw [x k hk] at h; cases h)
theorem allN_yes {n : Nat} {p : Nat → Bool} (h : ∀ i, i < n → p i = true) : allN n p = true := decide_eq_true h
theorem allN_at {n : Nat} {p : Nat → Bool} (h : allN n p = true) {i : Nat} (hi : i < n) : p i = true := of_decide_eq_true h i hi
/-- A hash has 32 bytes. -/
def h32 (s : ByteArray) : Bool := decide (s.size = 32)
def hsB (L : Nat → ByteArray) (n : Nat) : Bool := allN n (fun i => h32 (L i))
/-- A round: three right elements. -/
def r1B (l : Nat) (f g : Nat → Int) : Bool := decide (l = 3) && okP f g l
def rnB (o : OD) (v : Int) : Bool := decide ((o.nr : Int) = v) && allN o.nr (fun i => r1B (o.rl i) (o.rf i) (o.rg i))
/-- Rounds, v of them, each of m right elements. -/
def rfB (m : Nat) (v : Int) (n : Nat) (l : Nat → Nat) (f g : Nat → Nat → Int) : Bool := decide ((n : Int) = v) && allN n (fun i => decide (l i = m) && okP (f i) (g i) (l i))
theorem rfB_3 (o : OD) (v : Int) : rfB 3 v o.nr o.rl o.rf o.rg = rnB o v := rfl
/-- A path. -/
def ptB (v r : Int) (l : Nat) (T : Nat → ByteArray) (j : Nat) : Bool := decide ((l : Int) = v + r - 1 - (j : Int)) && hsB T l
/-- A query. -/
def qrB (q : QD) (v r : Int) : Bool := (decide ((q.np : Int) = 2 * v) && okP q.f q.g q.np && decide ((q.nq : Int) = v)) && allN q.nq (fun j => ptB v r (q.l j) (q.T j) j)
def qsB (o : OD) (v r n : Int) : Bool := decide ((o.nq : Int) = n) && allN o.nq (fun i => qrB (o.q i) v r)
/-- All parts. -/
def ook (o : OD) (v r q g : Int) : Bool := stb r q g && (vrB v && (rnB o v && (decide ((o.nt : Int) = v - 1) && (hsB o.ts o.nt && (eok o.la o.lb && (decide (0 ≤ o.no) && (decide (o.no < 65536) && qsB o v r q)))))))

end Go.Proofs.YtppiilbcnkphbaaGreat

namespace Go.Proofs.YtppiilbcnkphbaaGreat
open Go.ChangeShapes Go.WideShapes Go.ChangeAt Go.RowKit
set_option linter.unusedVariables false
set_option maxRecDepth 100000
set_option linter.unusedSimpArgs false

/-- The bytes from k on. -/
def zk (z : Nat → Int) (k j : Nat) : Int := z (k + j)
/-- Text i of those from k on, 32 bytes each. -/
def tz9 (z : Nat → Int) (k i : Nat) : ByteArray := strOfNums ((List.range 32).map (zk z (k + 32 * i)))
theorem tz9_size (z : Nat → Int) (k i : Nat) : (tz9 z k i).size = 32 := by unfold tz9; rw [strOfNums_size]; simp
/-- Hashes of the first j paths. -/
def hpN (v r : Nat) : Nat → Nat
  | 0 => 0
  | j + 1 => hpN v r j + (v + r - 1 - j)
theorem hpN_hpl (v r : Nat) (hv : 1 ≤ v) (hr : 1 ≤ r) : ∀ j, j ≤ v → (hpN v r j : Int) = hpl (v : Int) (r : Int) j
  | 0, _ => rfl
  | j + 1, h => by
    have := hpN_hpl v r hv hr j (by omega)
    simp only [hpN, hpl]
    omega
theorem hpN_mono (v r : Nat) {i j : Nat} (h : i ≤ j) : hpN v r i ≤ hpN v r j := by
  induction j with
  | zero => obtain rfl : i = 0 := by omega
            exact Nat.le_refl _
  | succ j ih =>
    by_cases e : i = j + 1
    · subst e; exact Nat.le_refl _
    · exact Nat.le_trans (ih (by omega)) (by simp only [hpN]; omega)
/-- A query from byte k on. -/
def rdQ (z : Nat → Int) (v r k : Nat) : QD := { np := 2 * v, f := rf (zk z k), g := rg (zk z k), nq := v, l := fun j => v + r - 1 - j, T := fun j => tz9 z (k + 16 * v + 32 * hpN v r j) }
/-- How many bytes a query has; where Last stands. -/
def qsz (v r : Nat) : Nat := 16 * v + 32 * hpN v r v
def oL9 (v : Nat) : Nat := 24 * v + 32 * (v - 1)
/-- An opening from byte k on. -/
def rdO (z : Nat → Int) (v r q k : Nat) : OD := { nr := v, rl := fun _ => 3, rf := fun i => rf (zk z (k + 24 * i)), rg := fun i => rg (zk z (k + 24 * i)), nt := v - 1, ts := tz9 z (k + 24 * v), la := w4 z (k + oL9 v), lb := w4 z (k + oL9 v + 4), no := w4 z (k + oL9 v + 8), nq := q, q := fun i => rdQ z v r (k + oL9 v + 12 + i * qsz v r) }
/-- How many bytes an opening has. -/
def osN (v r q : Nat) : Nat := oL9 v + 12 + q * qsz v r
theorem osN_osn (v r q : Nat) (hv : 1 ≤ v) (hr : 1 ≤ r) : (osN v r q : Int) = osn (v : Int) (r : Int) (q : Int) := by
  have h := hpN_hpl v r hv hr v (Nat.le_refl _)
  have e : ((v : Int)).toNat = v := by omega
  unfold osN osn oL9 qsz
  rw [e, ← h]
  have e2 : ((q * (16 * v + 32 * hpN v r v) : Nat) : Int) = (q : Int) * (16 * (v : Int) + 32 * (hpN v r v : Int)) := by rw [Int.natCast_mul]; congr 1
  rw [Int.natCast_add, e2]
  omega
theorem zk_w4 (z : Nat → Int) (k i : Nat) : w4 (zk z k) i = w4 z (k + i) := by
  unfold w4 zk
  rw [Nat.add_assoc, Nat.add_assoc, Nat.add_assoc]
theorem rd_small (z : Nat → Int) (v r q k : Nat) (hv : v ≤ 6) (hr : r ≤ 3) (hq : q ≤ 8) : (rdO z v r q k).small := by
  refine ⟨⟨by show v ≤ _; omega, fun i j _ _ => (by show (3 : Nat) ≤ 1048576; omega)⟩, ⟨by show v - 1 ≤ _; omega, fun i _ => by show (tz9 z _ i).size ≤ _; rw [tz9_size]; omega⟩, ⟨by show q ≤ _; omega, fun i j _ _ => ?_⟩⟩
  by_cases e : j = 0
  · subst e
    show 2 * v ≤ 1048576
    omega
  · show (if j = 0 then _ else (rdQ z v r _).S : Dt).small 1048576
    rw [if_neg e]
    exact ⟨by show v ≤ _; omega, fun i' j' _ _ => ⟨by show v + r - 1 - i' ≤ _; omega, fun t _ => by show (tz9 z _ t).size ≤ _; rw [tz9_size]; omega⟩⟩

end Go.Proofs.YtppiilbcnkphbaaGreat
