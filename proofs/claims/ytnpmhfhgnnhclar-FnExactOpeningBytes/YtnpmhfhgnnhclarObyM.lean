/- The bytes of an opening, one list: words. No condition but those that each theorem states. -/
import Derived.Test.YtnpmhfhgnnhclarOokM
import Derived.Test.YtnpmhfhgnnhclarByt
import Derived.Test.YtnpmhfhgnnhclarTabF
import Derived.Lib.AppendStr
import Derived.Deep.AppendLies
namespace Go.Proofs.Ytnpmhfhgnnhclar
open Go.RowKit
set_option linter.unusedVariables false

/-- Bytes of elements, of a text. -/
def eB (f g : Nat → Int) (n : Nat) : List Value := (List.range (n * 8)).map (bvl f g)
theorem eB_len (f g : Nat → Int) (n : Nat) : (eB f g n).length = n * 8 := by simp [eB]
def tB (s : ByteArray) : List Value := Go.Lib.strCells s
theorem tB_len (s : ByteArray) : (tB s).length = s.size := Go.Lib.strCells_length s
/-- The first k lists, one behind the other. -/
def catN (x : Nat → List Value) : Nat → List Value
  | 0 => []
  | k + 1 => catN x k ++ x k
def tBs (L : Nat → ByteArray) (k : Nat) : List Value := catN (fun i => tB (L i)) k
def obR (o : OD) (k : Nat) : List Value := catN (fun i => eB (o.rf i) (o.rg i) (o.rl i)) k
def obP (q : QD) (k : Nat) : List Value := catN (fun j => tBs (q.T j) (q.l j)) k
def obQ (q : QD) : List Value := eB q.f q.g q.np ++ obP q q.nq
def obQs (o : OD) (k : Nat) : List Value := catN (fun i => obQ (o.q i)) k
/-- What stands ahead of the queries. -/
def obH (o : OD) : List Value := ((obR o o.nr ++ tBs o.ts o.nt) ++ eB (fun _ => o.la) (fun _ => o.lb) 1) ++ wv o.no
def oby (o : OD) : List Value := obH o ++ obQs o o.nq
theorem catN_len {x : Nat → List Value} {m : Nat} : ∀ k, (∀ i, i < k → (x i).length ≤ m) → (catN x k).length ≤ k * m
  | 0, _ => by simp [catN]
  | k + 1, h => by
    have h1 := catN_len k (fun i hi => h i (by omega))
    have h2 := h k (by omega)
    have : (k + 1) * m = k * m + m := Nat.succ_mul k m
    simp only [catN, List.length_append]
    omega
theorem tBs_len {L : Nat → ByteArray} {n : Nat} (h : hsB L n = true) {k : Nat} (hk : k ≤ n) : (tBs L k).length ≤ k * 32 :=
  catN_len k (fun i hi => by rw [tB_len]; have := of_decide_eq_true (allN_at h (i := i) (by omega)); omega)
/-- Of a right opening. -/
structure OkO (o : OD) (v r q : Int) : Prop where
  v0 : 1 ≤ v
  v1 : v ≤ 6
  r0 : 1 ≤ r
  r1 : r ≤ 3
  q0 : 1 ≤ q
  q1 : q ≤ 8
  nr : (o.nr : Int) = v
  rd : ∀ i, i < o.nr → o.rl i = 3 ∧ okP (o.rf i) (o.rg i) 3 = true
  nt : (o.nt : Int) = v - 1
  ts : hsB o.ts o.nt = true
  el : eok o.la o.lb = true
  n0 : 0 ≤ o.no
  n1 : o.no < 65536
  nq : (o.nq : Int) = q
  qr : ∀ i, i < o.nq → qrB (o.q i) v r = true
theorem ook_ok {o : OD} {v r q g : Int} (h : ook o v r q g = true) : OkO o v r q := by
  unfold ook rnB qsB at h
  simp only [Bool.and_eq_true, decide_eq_true_eq] at h
  obtain ⟨h1, h2, ⟨h3, h3'⟩, h4, h5, h6, h7, h8, h9, h9'⟩ := h
  have s := stb_parts h1
  have v' := vrB_parts h2
  exact ⟨v'.1, v'.2, s.1.1, s.1.2, s.2.1.1, s.2.1.2, h3, fun i hi => by
    have := allN_at h3' hi
    unfold r1B at this
    simp only [Bool.and_eq_true, decide_eq_true_eq] at this
    exact ⟨this.1, by rw [← this.1]; exact this.2⟩, h4, h5, h6, h7, h8, h9, fun i hi => allN_at h9' hi⟩
structure OkQ (q : QD) (v r : Int) : Prop where
  np : (q.np : Int) = 2 * v
  ok : okP q.f q.g q.np = true
  nq : (q.nq : Int) = v
  pt : ∀ j, j < q.nq → (q.l j : Int) = v + r - 1 - (j : Int) ∧ hsB (q.T j) (q.l j) = true
theorem qrB_ok {q : QD} {v r : Int} (h : qrB q v r = true) : OkQ q v r := by
  unfold qrB at h
  simp only [Bool.and_eq_true, decide_eq_true_eq] at h
  obtain ⟨⟨⟨h1, h2⟩, h3⟩, h4⟩ := h
  exact ⟨h1, h2, h3, fun j hj => by
    have := allN_at h4 hj
    unfold ptB at this
    simp only [Bool.and_eq_true, decide_eq_true_eq] at this
    exact this⟩
theorem obP_len {q : QD} {v r : Int} (h : OkQ q v r) (v1 : v ≤ 6) (r1 : r ≤ 3) {k : Nat} (hk : k ≤ q.nq) : (obP q k).length ≤ k * 256 :=
  catN_len k (fun j hj => by
    have := h.pt j (by omega)
    have h2 := tBs_len this.2 (Nat.le_refl _)
    have : q.l j ≤ 8 := by omega
    omega)
theorem obQ_len {q : QD} {v r : Int} (h : OkQ q v r) (v1 : v ≤ 6) (r1 : r ≤ 3) : (obQ q).length ≤ 2000 := by
  unfold obQ
  rw [List.length_append, eB_len]
  have := obP_len h v1 r1 (Nat.le_refl _)
  have := h.np
  have := h.nq
  omega
theorem obQs_len {o : OD} {v r q : Int} (h : OkO o v r q) {k : Nat} (hk : k ≤ o.nq) : (obQs o k).length ≤ k * 2000 :=
  catN_len k (fun i hi => obQ_len (qrB_ok (h.qr i (by omega))) h.v1 h.r1)
theorem obR_len {o : OD} {v r q : Int} (h : OkO o v r q) {k : Nat} (hk : k ≤ o.nr) : (obR o k).length ≤ k * 24 :=
  catN_len k (fun i hi => by rw [eB_len, (h.rd i (by omega)).1]; omega)
theorem obH_len {o : OD} {v r q : Int} (h : OkO o v r q) : (obH o).length ≤ 1000 := by
  unfold obH
  rw [List.length_append, List.length_append, List.length_append, eB_len]
  have h1 := obR_len h (Nat.le_refl _)
  have h2 := tBs_len h.ts (Nat.le_refl _)
  have h3 : (wv o.no).length = 4 := rfl
  have := h.nr
  have := h.nt
  have := h.v1
  omega

theorem Chg.seeQ {P : Nat → Prop} {w w' : World} (h : Chg P w w') {b o : Nat} {v : Value} (c : w.cell? ⟨b, o, none⟩ = some v) (hp : ¬ P b) : w'.cell? ⟨b, o, none⟩ = some v :=
  (h.cell (p := ⟨b, o, none⟩) (World.block_lt_of_cell? w _ c) hp).trans c
/-- Only the own block may have turned. -/
def OB (c : Option Addr) (b : Nat) : Prop := c = some ⟨b, 0, none⟩
/-- Bytes that were put behind others. -/
def ApAns (w : World) (c0 : Option Addr) (B N : Nat) (ys : List Value) (e : Ending) (w' : World) : Prop :=
  ∃ (c' : Option Addr) (cap' : Nat), e = .returned (.slice c' N cap') ∧ w'.ownsRow B 5 1 (.slice c' N cap') N ys ∧ Chg (OB c0) w w' ∧ ∀ b, c' = some ⟨b, 0, none⟩ → c0 = some ⟨b, 0, none⟩ ∨ w.heap.size ≤ b
theorem news_row {w : World} {b n : Nat} {t : TypeId} {h : Nat → Value} (r : w.rowIs b t n h) : ∀ j u, ((List.range n).map h)[j]? = some u → w.cell? ((⟨b, 0, none⟩ : Addr).add j) = some u := by
  intro j u hj
  by_cases e : j < n
  · rw [List.getElem?_map, List.getElem?_range e] at hj
    simp only [Option.map_some, Option.some.injEq] at hj
    subst hj
    rw [Go.WideShapes.add_plain, Nat.zero_add]
    exact r.cell e
  · rw [List.getElem?_eq_none (by simp; omega)] at hj
    cases hj
theorem news_rowV {w : World} {b o n : Nat} {h : Nat → Value} (r : RowV w (some ⟨b, o, none⟩) n h) : ∀ j u, ((List.range n).map h)[j]? = some u → w.cell? ((⟨b, o, none⟩ : Addr).add j) = some u := by
  intro j u hj
  by_cases e : j < n
  · rw [List.getElem?_map, List.getElem?_range e] at hj
    simp only [Option.map_some, Option.some.injEq] at hj
    subst hj
    obtain ⟨xb, xo, ec, _, hc⟩ := r j e
    cases ec
    rw [Go.WideShapes.add_plain]
    exact hc
  · rw [List.getElem?_eq_none (by simp; omega)] at hj
    cases hj
theorem eB_one (f g : Nat → Int) (n : Nat) : ∀ u ∈ eB f g n, u.oneCell' = true := by
  intro u hu
  obtain ⟨i, _, rfl⟩ := List.mem_map.1 hu
  rfl
theorem own_at {w : World} {B n : Nat} {t : TypeId} {c : Option Addr} {cap : Nat} {xs : List Value} (h : w.ownsRow B t 1 (.slice c n cap) n xs) {b : Nat} (e : c = some ⟨b, 0, none⟩) : B ≤ b ∧ b < w.heap.size := by
  subst e
  exact h.lt b rfl
/-- The own row's growth. -/
theorem grown_OB {w W w1 : World} {B n : Nat} {t : TypeId} {c0 c : Option Addr} {cap : Nat} {xs : List Value} (hown : W.ownsRow B t 1 (.slice c n cap) n xs) (hG : Chg (OB c0) w W) (hc : ∀ b, c = some ⟨b, 0, none⟩ → c0 = some ⟨b, 0, none⟩ ∨ w.heap.size ≤ b) (hg : W.grownBy w1 (Value.ownBlock (.slice c n cap))) : Chg (OB c0) w w1 := by
  refine hG.grown hg (fun k e l => ?_)
  rcases hown.2 with ⟨ev, _⟩ | ⟨g, cap', cur, ev, _⟩
  · rw [ev] at e
    simp [Value.ownBlock] at e
  · cases ev
    simp [Value.ownBlock] at e
    subst e
    rcases hc g rfl with q | q
    · exact q
    · omega
/-- Bytes and a code, of the call's own. -/
def ObAns (w : World) (code : Int) (ys : List Value) (e : Ending) (w' : World) : Prop :=
  ∃ (c : Option Addr) (N cap : Nat), e = .returned (.tuple #[.slice c N cap, .int .i64 code]) ∧ N = ys.length ∧ w'.ownsRow w.heap.size 5 1 (.slice c N cap) N ys ∧ Chg nob w w'
/-- OpeningBytes' answers. -/
def obc (o : OD) (v r n g : Int) : Int := if ook o v r n g then 0 else 1
def obl (o : OD) (v r n g : Int) : List Value := if ook o v r n g then oby o else []
theorem obl_len {o : OD} {v r n g : Int} : (obl o v r n g).length ≤ 20000 := by
  unfold obl
  cases h : ook o v r n g
  · simp
  · have ok := ook_ok h
    have h1 := obH_len ok
    have h2 := obQs_len ok (Nat.le_refl _)
    have := ok.nq
    have := ok.q1
    simp only [if_true, oby, List.length_append]
    omega
/-- Bytes all. -/
def isB (ys : List Value) : Prop := ∀ u ∈ ys, ∃ x : Int, u = .int .u8 x
theorem isB.app {xs ys : List Value} (h : isB xs) (h' : isB ys) : isB (xs ++ ys) := fun u hu => by
  rcases List.mem_append.1 hu with q | q
  · exact h u q
  · exact h' u q
theorem isB_nil : isB [] := fun u hu => by cases hu
theorem isB_cat {x : Nat → List Value} (h : ∀ i, isB (x i)) : ∀ k, isB (catN x k)
  | 0 => isB_nil
  | k + 1 => (isB_cat h k).app (h k)
theorem isB_e (f g : Nat → Int) (n : Nat) : isB (eB f g n) := fun u hu => by
  obtain ⟨i, _, rfl⟩ := List.mem_map.1 hu
  exact ⟨_, rfl⟩
theorem isB_t (s : ByteArray) : isB (tB s) := fun u hu => by
  unfold tB Go.Lib.strCells at hu
  obtain ⟨i, _, rfl⟩ := List.mem_map.1 hu
  exact ⟨_, rfl⟩
theorem isB_w (a : Int) : isB (wv a) := fun u hu => by
  simp [wv] at hu
  rcases hu with rfl | rfl | rfl | rfl <;> exact ⟨_, rfl⟩
theorem isB_obl (o : OD) (v r n g : Int) : isB (obl o v r n g) := by
  unfold obl
  split
  · exact (((((isB_cat (fun i => isB_e _ _ _) _).app (isB_cat (fun i => isB_t _) _)).app (isB_e _ _ _)).app (isB_w _))).app (isB_cat (fun i => (isB_e _ _ _).app (isB_cat (fun j => isB_cat (fun k => isB_t _) _) _)) _)
  · exact isB_nil
/-- Byte i of a list. -/
def yB (ys : List Value) (i : Nat) : Int :=
  match ys[i]? with
  | some (.int _ x) => x
  | _ => 0
theorem yB_map {ys : List Value} (h : isB ys) : ys = (List.range ys.length).map (fun i => .int .u8 (yB ys i)) := by
  refine List.ext_getElem (by simp) (fun i h1 h2 => ?_)
  obtain ⟨x, e⟩ := h ys[i] (List.getElem_mem h1)
  simp [yB, h1, e]
end Go.Proofs.Ytnpmhfhgnnhclar
