/- Several texts in one: The bytes of an opening, one list: words. No condition but those that each theorem states. · What the program's OpeningBytes answers: contracts. Conditions: an opening that can be read, lengths of at most 2 to the 20. -/
import Derived.Test.YtfbjlohnbpienaaGreatBzam
import Derived.Test.YtfbjlohnbpienaaGreatBzab
import Derived.Test.YtfbjlohnbpienaaGreatBzas
import Derived.Lib.AppendStr
import Derived.Deep.AppendLies
import Derived.Test.YtfbjlohnbpienaaGreatBzau
import Derived.Test.YtfbjlohnbpienaaGreatBzay
import Derived.Test.YtfbjlohnbpienaaGreatBzaz
import Derived.Test.YtfbjlohnbpienaaGreatBzah
import Derived.Test.YtfbjlohnbpienaaGreatBzai
import Derived.Lib.SmallJoins
namespace Go.Proofs.YtfbjlohnbpienaaGreat
open Go.RowKit
set_option linter.unusedVariables false

/-- Bytes of elements, of a text. -/
def eB (f g : Nat → Int) (n : Nat) : List Value := (List.range (n * 8)).map (bvl f g)
theorem eB_len (f g : Nat → Int) (n : Nat) : (eB f g n).length = n * 8 := by simp [eB]
def tB (s : ByteArray) : List Value := Go.Lib.strCells s
theorem tB_len (s : ByteArray) : (tB s).length = s.size := Go.Lib.strCells_length s
/-- The first k lists, one behind the other. -/
def catN (x : Nat → List Value) : Nat → List Value
  | 0 => []
  | k + 1 => catN x k ++ x k
def tBs (L : Nat → ByteArray) (k : Nat) : List Value := catN (fun i => tB (L i)) k
def obR (o : OD) (k : Nat) : List Value := catN (fun i => eB (o.rf i) (o.rg i) (o.rl i)) k
def obP (q : QD) (k : Nat) : List Value := catN (fun j => tBs (q.T j) (q.l j)) k
def obQ (q : QD) : List Value := eB q.f q.g q.np ++ obP q q.nq
def obQs (o : OD) (k : Nat) : List Value := catN (fun i => obQ (o.q i)) k
/-- What stands ahead of the queries. -/
def obH (o : OD) : List Value := ((obR o o.nr ++ tBs o.ts o.nt) ++ eB (fun _ => o.la) (fun _ => o.lb) 1) ++ wv o.no
def oby (o : OD) : List Value := obH o ++ obQs o o.nq
theorem catN_len {x : Nat → List Value} {m : Nat} : ∀ k, (∀ i, i < k → (x i).length ≤ m) → (catN x k).length ≤ k * m
  | 0, _ => by simp [catN]
  | k + 1, h => by
    have h1 := catN_len k (fun i hi => h i (by omega))
    have h2 := h k (by omega)
    have : (k + 1) * m = k * m + m := Nat.succ_mul k m
    simp only [catN, List.length_append]
    omega
theorem tBs_len {L : Nat → ByteArray} {n : Nat} (h : hsB L n = true) {k : Nat} (hk : k ≤ n) : (tBs L k).length ≤ k * 32 :=
  catN_len k (fun i hi => by rw [tB_len]; have := of_decide_eq_true (allN_at h (i := i) (by omega)); omega)
/-- Of a right opening. -/
structure OkO (o : OD) (v r q : Int) : Prop where
  v0 : 1 ≤ v
  v1 : v ≤ 6
  r0 : 1 ≤ r
  r1 : r ≤ 3
  q0 : 1 ≤ q
  q1 : q ≤ 8
  nr : (o.nr : Int) = v
  rd : ∀ i, i < o.nr → o.rl i = 3 ∧ okP (o.rf i) (o.rg i) 3 = true
  nt : (o.nt : Int) = v - 1
  ts : hsB o.ts o.nt = true
  el : eok o.la o.lb = true
  n0 : 0 ≤ o.no
  n1 : o.no < 65536
  nq : (o.nq : Int) = q
  qr : ∀ i, i < o.nq → qrB (o.q i) v r = true
theorem ook_ok {o : OD} {v r q g : Int} (h : ook o v r q g = true) : OkO o v r q := by
  unfold ook rnB qsB at h
  simp only [Bool.and_eq_true, decide_eq_true_eq] at h
  obtain ⟨h1, h2, ⟨h3, h3'⟩, h4, h5, h6, h7, h8, h9, h9'⟩ := h
  have s := stb_parts h1
  have v' := vrB_parts h2
  exact ⟨v'.1, v'.2, s.1.1, s.1.2, s.2.1.1, s.2.1.2, h3, fun i hi => by
    have := allN_at h3' hi
    unfold r1B at this
    simp only [Bool.and_eq_true, decide_eq_true_eq] at this
    exact ⟨this.1, by rw [← this.1]; exact this.2⟩, h4, h5, h6, h7, h8, h9, fun i hi => allN_at h9' hi⟩
structure OkQ (q : QD) (v r : Int) : Prop where
  np : (q.np : Int) = 2 * v
  ok : okP q.f q.g q.np = true
  nq : (q.nq : Int) = v
  pt : ∀ j, j < q.nq → (q.l j : Int) = v + r - 1 - (j : Int) ∧ hsB (q.T j) (q.l j) = true
theorem qrB_ok {q : QD} {v r : Int} (h : qrB q v r = true) : OkQ q v r := by
  unfold qrB at h
  simp only [Bool.and_eq_true, decide_eq_true_eq] at h
  obtain ⟨⟨⟨h1, h2⟩, h3⟩, h4⟩ := h
  exact ⟨h1, h2, h3, fun j hj => by
    have := allN_at h4 hj
    unfold ptB at this
    simp only [Bool.and_eq_true, decide_eq_true_eq] at this
    exact this⟩
theorem obP_len {q : QD} {v r : Int} (h : OkQ q v r) (v1 : v ≤ 6) (r1 : r ≤ 3) {k : Nat} (hk : k ≤ q.nq) : (obP q k).length ≤ k * 256 :=
  catN_len k (fun j hj => by
    have := h.pt j (by omega)
    have h2 := tBs_len this.2 (Nat.le_refl _)
    have : q.l j ≤ 8 := by omega
    omega)
theorem obQ_len {q : QD} {v r : Int} (h : OkQ q v r) (v1 : v ≤ 6) (r1 : r ≤ 3) : (obQ q).length ≤ 2000 := by
  unfold obQ
  rw [List.length_append, eB_len]
  have := obP_len h v1 r1 (Nat.le_refl _)
  have := h.np
  have := h.nq
  omega
theorem obQs_len {o : OD} {v r q : Int} (h : OkO o v r q) {k : Nat} (hk : k ≤ o.nq) : (obQs o k).length ≤ k * 2000 :=
  catN_len k (fun i hi => obQ_len (qrB_ok (h.qr i (by omega))) h.v1 h.r1)
theorem obR_len {o : OD} {v r q : Int} (h : OkO o v r q) {k : Nat} (hk : k ≤ o.nr) : (obR o k).length ≤ k * 24 :=
  catN_len k (fun i hi => by rw [eB_len, (h.rd i (by omega)).1]; omega)
theorem obH_len {o : OD} {v r q : Int} (h : OkO o v r q) : (obH o).length ≤ 1000 := by
  unfold obH
  rw [List.length_append, List.length_append, List.length_append, eB_len]
  have h1 := obR_len h (Nat.le_refl _)
  have h2 := tBs_len h.ts (Nat.le_refl _)
  have h3 : (wv o.no).length = 4 := rfl
  have := h.nr
  have := h.nt
  have := h.v1
  omega

theorem Chg.seeQ {P : Nat → Prop} {w w' : World} (h : Chg P w w') {b o : Nat} {v : Value} (c : w.cell? ⟨b, o, none⟩ = some v) (hp : ¬ P b) : w'.cell? ⟨b, o, none⟩ = some v :=
  (h.cell (p := ⟨b, o, none⟩) (World.block_lt_of_cell? w _ c) hp).trans c
/-- Only the own block may have turned. -/
def OB (c : Option Addr) (b : Nat) : Prop := c = some ⟨b, 0, none⟩
/-- Bytes that were put behind others. -/
def ApAns (w : World) (c0 : Option Addr) (B N : Nat) (ys : List Value) (e : Ending) (w' : World) : Prop :=
  ∃ (c' : Option Addr) (cap' : Nat), e = .returned (.slice c' N cap') ∧ w'.ownsRow B 5 1 (.slice c' N cap') N ys ∧ Chg (OB c0) w w' ∧ ∀ b, c' = some ⟨b, 0, none⟩ → c0 = some ⟨b, 0, none⟩ ∨ w.heap.size ≤ b
theorem news_row {w : World} {b n : Nat} {t : TypeId} {h : Nat → Value} (r : w.rowIs b t n h) : ∀ j u, ((List.range n).map h)[j]? = some u → w.cell? ((⟨b, 0, none⟩ : Addr).add j) = some u := by
  intro j u hj
  by_cases e : j < n
  · rw [List.getElem?_map, List.getElem?_range e] at hj
    simp only [Option.map_some, Option.some.injEq] at hj
    subst hj
    rw [Go.WideShapes.add_plain, Nat.zero_add]
    exact r.cell e
  · rw [List.getElem?_eq_none (by simp; omega)] at hj
    cases hj
theorem news_rowV {w : World} {b o n : Nat} {h : Nat → Value} (r : RowV w (some ⟨b, o, none⟩) n h) : ∀ j u, ((List.range n).map h)[j]? = some u → w.cell? ((⟨b, o, none⟩ : Addr).add j) = some u := by
  intro j u hj
  by_cases e : j < n
  · rw [List.getElem?_map, List.getElem?_range e] at hj
    simp only [Option.map_some, Option.some.injEq] at hj
    subst hj
    obtain ⟨xb, xo, ec, _, hc⟩ := r j e
    cases ec
    rw [Go.WideShapes.add_plain]
    exact hc
  · rw [List.getElem?_eq_none (by simp; omega)] at hj
    cases hj
theorem eB_one (f g : Nat → Int) (n : Nat) : ∀ u ∈ eB f g n, u.oneCell' = true := by
  intro u hu
  obtain ⟨i, _, rfl⟩ := List.mem_map.1 hu
  rfl
theorem own_at {w : World} {B n : Nat} {t : TypeId} {c : Option Addr} {cap : Nat} {xs : List Value} (h : w.ownsRow B t 1 (.slice c n cap) n xs) {b : Nat} (e : c = some ⟨b, 0, none⟩) : B ≤ b ∧ b < w.heap.size := by
  subst e
  exact h.lt b rfl
/-- The own row's growth. -/
theorem grown_OB {w W w1 : World} {B n : Nat} {t : TypeId} {c0 c : Option Addr} {cap : Nat} {xs : List Value} (hown : W.ownsRow B t 1 (.slice c n cap) n xs) (hG : Chg (OB c0) w W) (hc : ∀ b, c = some ⟨b, 0, none⟩ → c0 = some ⟨b, 0, none⟩ ∨ w.heap.size ≤ b) (hg : W.grownBy w1 (Value.ownBlock (.slice c n cap))) : Chg (OB c0) w w1 := by
  refine hG.grown hg (fun k e l => ?_)
  rcases hown.2 with ⟨ev, _⟩ | ⟨g, cap', cur, ev, _⟩
  · rw [ev] at e
    simp [Value.ownBlock] at e
  · cases ev
    simp [Value.ownBlock] at e
    subst e
    rcases hc g rfl with q | q
    · exact q
    · omega
/-- Bytes and a code, of the call's own. -/
def ObAns (w : World) (code : Int) (ys : List Value) (e : Ending) (w' : World) : Prop :=
  ∃ (c : Option Addr) (N cap : Nat), e = .returned (.tuple #[.slice c N cap, .int .i64 code]) ∧ N = ys.length ∧ w'.ownsRow w.heap.size 5 1 (.slice c N cap) N ys ∧ Chg nob w w'
/-- OpeningBytes' answers. -/
def obc (o : OD) (v r n g : Int) : Int := if ook o v r n g then 0 else 1
def obl (o : OD) (v r n g : Int) : List Value := if ook o v r n g then oby o else []
/-- Bytes all. -/
def isB (ys : List Value) : Prop := ∀ u ∈ ys, ∃ x : Int, u = .int .u8 x
theorem isB.app {xs ys : List Value} (h : isB xs) (h' : isB ys) : isB (xs ++ ys) := fun u hu => by
  rcases List.mem_append.1 hu with q | q
  · exact h u q
  · exact h' u q
theorem isB_nil : isB [] := fun u hu => by cases hu
theorem isB_cat {x : Nat → List Value} (h : ∀ i, isB (x i)) : ∀ k, isB (catN x k)
  | 0 => isB_nil
  | k + 1 => (isB_cat h k).app (h k)
theorem isB_e (f g : Nat → Int) (n : Nat) : isB (eB f g n) := fun u hu => by
  obtain ⟨i, _, rfl⟩ := List.mem_map.1 hu
  exact ⟨_, rfl⟩
theorem isB_t (s : ByteArray) : isB (tB s) := fun u hu => by
  unfold tB Go.Lib.strCells at hu
  obtain ⟨i, _, rfl⟩ := List.mem_map.1 hu
  exact ⟨_, rfl⟩
theorem isB_w (a : Int) : isB (wv a) := fun u hu => by
  simp [wv] at hu
  rcases hu with rfl | rfl | rfl | rfl <;> exact ⟨_, rfl⟩
/-- Byte i of a list. -/
def yB (ys : List Value) (i : Nat) : Int :=
  match ys[i]? with
  | some (.int _ x) => x
  | _ => 0
theorem yB_map {ys : List Value} (h : isB ys) : ys = (List.range ys.length).map (fun i => .int .u8 (yB ys i)) := by
  refine List.ext_getElem (by simp) (fun i h1 h2 => ?_)
  obtain ⟨x, e⟩ := h ys[i] (List.getElem_mem h1)
  simp [yB, h1, e]

end Go.Proofs.YtfbjlohnbpienaaGreat

namespace Go.Proofs.YtfbjlohnbpienaaGreat
open Go.ChangeShapes Go.WideShapes Go.ChangeAt Go.RowKit
set_option linter.unusedVariables false
set_option maxRecDepth 100000
set_option linter.unusedSimpArgs false

set_option maxHeartbeats 1000000 in
theorem appendExts_o (B : Nat) (c0 : Option Addr) (n cap0 : Nat) (xs : List Value) (c : Option Addr) (m cap : Nat) (f g : Nat → Int) (w : World) (ho : Hid (w.ownsRow B 5 1 (.slice c0 n cap0) n xs)) (h : Hid (PairV w c m f g)) (hok : okP f g m = true) (m1 : 1 ≤ m) (m2 : m ≤ 4096) (hn : n ≤ 1000000) (hB : B ≤ w.heap.size) :
    Calls Tryz.prog 29 #[.slice c0 n cap0, .slice c m cap] w fun e w' => ApAns w c0 B (n + m * 8) (xs ++ eB f g m) e w' := by
  obtain ⟨i0, hi, hz0, hz1, hz2⟩ := info_parts infoU8
  have HI := hik hi
  have HZ0 := hik hz0
  have HZ1 := hik hz1
  have HZ2 := hik hz2
  clear hi hz0 hz1 hz2
  have hb : bc f g m = 0 := by unfold bc; rw [if_neg (by omega), hok]; rfl
  go_enter Tryz.func29, Tryz.ntmps29
  go_wp2_with fail
  refine (extBytes_yes c m cap f g _ (extBytes_any c m cap f g _ h (by omega)) hb).mono ?_
  rintro e W1 ⟨b1, hb1, rfl, hr, kk⟩
  have HO := hik (flKeep ho.out kk)
  have HR := hik hr
  have K1 := hik (Chg.wide (P := OB c0) kk)
  have S1 := kk.size
  clear hr kk hb1
  go_wp2_with (at_builtin; refine wpList_append_lies _ rfl (.tmp 12) (.tmp 13) 38 rfl B 5 i0 (.int .u8 0) 1 1 Tryz.underlying38 HI.out HZ0.out HZ1.out HZ2.out rfl (by decide) _ n xs rfl HO.out ⟨b1, 0, none⟩ (m * 8) (m * 8) (eB f g m) rfl (by rw [eB_len]; omega) (news_row HR.out) (eB_one f g m) (by omega) (by unfold maxLen; omega) (by omega) (by omega) _ rfl ?_)
  intro g7 cp7 w7 o7 hg7 hat7 hlt7
  have K7 := hik (grown_OB HO.out K1.out (fun b e => .inl e) hg7)
  have O7 := hik o7
  have A7 := hik (show ∀ b, some (⟨g7, 0, none⟩ : Addr) = some ⟨b, 0, none⟩ → c0 = some ⟨b, 0, none⟩ ∨ w.heap.size ≤ b from fun b e => by
    cases e
    rcases hat7 with q | q
    · rcases HO.out.2 with ⟨ev, _⟩ | ⟨g', cap', cur, ev, _⟩
      · rw [ev] at q; simp [Value.ownBlock] at q
      · cases ev
        simp [Value.ownBlock] at q
        subst q
        exact .inl rfl
    · right; omega)
  clear o7 hg7 hat7 hlt7 HR HO K1
  go_wp2
  go_ret
  exact ⟨_, _, rfl, O7.out, K7.out, A7.out⟩

set_option maxHeartbeats 1000000 in
theorem appendTexts_o (B : Nat) (c0 : Option Addr) (n cap0 : Nat) (xs : List Value) (c : Option Addr) (m cap : Nat) (L : Nat → ByteArray) (w : World) (ho : Hid (w.ownsRow B 5 1 (.slice c0 n cap0) n xs)) (h : Hid (RowV w c m (sb L))) (hL : Hid (hsB L m = true)) (m2 : m ≤ 4096) (hn : n ≤ 1000000) (hB : B ≤ w.heap.size) (hcB : Hid (∀ i, i < m → ∀ xb xo, c = some ⟨xb, xo, none⟩ → xb < B)) :
    Calls Tryz.prog 57 #[.slice c0 n cap0, .slice c m cap] w fun e w' => ApAns w c0 B (n + m * 32) (xs ++ tBs L m) e w' := by
  obtain ⟨i0, hi, hz0, hz1, hz2⟩ := info_parts infoU8
  have HI := hik hi
  have HZ0 := hik hz0
  have HZ1 := hik hz1
  have HZ2 := hik hz2
  clear hi hz0 hz1 hz2
  go_enter Tryz.func57, Tryz.ntmps57
  go_wp2
  go_loopw [0, 9] (fun v i W => ∃ (k N : Nat) (c' : Option Addr) (cap' : Nat), k ≤ m ∧ N ≤ 1200000 ∧ i = .int .i64 (k : Int) ∧ v = .slice c' N cap' ∧ Hid (N = n + k * 32) ∧ Hid (W.ownsRow B 5 1 (.slice c' N cap') N (xs ++ tBs L k)) ∧ Hid (Chg (OB c0) w W) ∧ Hid (∀ b, c' = some ⟨b, 0, none⟩ → c0 = some ⟨b, 0, none⟩ ∨ w.heap.size ≤ b)) (fun _ i _ => m - (intOf i).toNat)
  case atStart => exact ⟨0, n, c0, cap0, Nat.zero_le _, by omega, rfl, rfl, hik (by omega), hik (by simpa [tBs, catN] using ho.out), hik (Chg.refl _ _), hik (fun b e => .inl e)⟩
  case round =>
    obtain ⟨k, N, c', cap', hk, hN2, rfl, rfl, HN, HO, HG, HC⟩ := hrel
    rename World => wi
    by_cases hlt : k < m
    · have hk1 : (k : Int) < (m : Int) := by omega
      have hk0 : (0 : Int) ≤ (k : Int) := by omega
      obtain ⟨xb, xo, ec, hxb, hcell⟩ := h.out k hlt
      have hx : wi.cell? ⟨xb, xo + k, none⟩ = some (Value.string (L k)) := by
        rw [HG.out.cell (p := ⟨xb, xo + k, none⟩) hxb (fun e => by
          have q := (own_at (b := xb) ho.out e).1
          have := hcB.out k hlt xb xo ec
          omega)]
        exact hcell
      subst ec
      have hsz : (L k).size = 32 := of_decide_eq_true (allN_at hL.out hlt)
      have HS := hik hsz
      have hsm : (L k).size ≤ 32 := by omega
      have hs0 : 0 < (L k).size := by omega
      clear hcell hsz
      have hB2 := HG.out.size
      have hk9 : k ≤ 4096 := by omega
      go_wp2_with (at_builtin; refine wpList_append_text_lies _ rfl (.tmp 13) (.tmp 14) 38 9 rfl B 5 i0 Tryz.underlying38 Tryz.underlying9 HI.out HZ0.out HZ1.out HZ2.out _ N _ rfl HO.out (L k) rfl hs0 (by unfold maxLen; omega) (by omega) (by omega) ?_)
      intro g7 cp7 w7 o7 hg7 hat7
      have E1 := hik (show N + (L k).size = n + (k + 1) * 32 by rw [HN.out, HS.out]; omega)
      obtain ⟨M, hM⟩ : ∃ M, M = N + (L k).size := ⟨_, rfl⟩
      have HM := hik (show M = n + (k + 1) * 32 by rw [hM]; exact E1.out)
      have hMb : M ≤ 1200000 := by have := HM.out; omega
      rw [← hM] at o7 ⊢
      have O7 : Hid (w7.ownsRow B 5 1 (.slice (some ⟨g7, 0, none⟩) M cp7) M (xs ++ tBs L (k + 1))) := hik (by
        have q := o7
        simpa [tBs, catN, tB] using q)
      have K7 := hik (grown_OB HO.out HG.out HC.out hg7)
      have A7 := hik (show ∀ b, some (⟨g7, 0, none⟩ : Addr) = some ⟨b, 0, none⟩ → c0 = some ⟨b, 0, none⟩ ∨ w.heap.size ≤ b from fun b e => by
        cases e
        rcases hat7 with q | q
        · rcases HO.out.2 with ⟨ev, _⟩ | ⟨g', cap'', cur, ev, _⟩
          · rw [ev] at q; simp [Value.ownBlock] at q
          · cases ev
            simp [Value.ownBlock] at q
            subst q
            exact HC.out _ rfl
        · right; omega)
      clear o7 hg7 hM hx hat7 E1
      go_wp2
      go_roundw
      case rel => exact ⟨k + 1, M, _, _, by omega, hMb, by go_num, rfl, HM, O7, K7, A7⟩
      case measure => simp [intOf]; omega
    · obtain rfl : m = k := by omega
      have hcc : ¬ (m : Int) < (m : Int) := by omega
      go_wp2
      go_ret
      have e := HN.out
      subst e
      exact ⟨_, _, rfl, HO.out, HG.out, HC.out⟩

/-- The bytes of lists of elements, one behind the other. -/
def obE (l : Nat → Nat) (f g : Nat → Nat → Int) (k : Nat) : List Value := catN (fun i => eB (f i) (g i) (l i)) k
theorem obE_len {l : Nat → Nat} {f g : Nat → Nat → Int} {m : Nat} (h : ∀ i, i < m → 1 ≤ l i ∧ l i ≤ 8 ∧ okP (f i) (g i) (l i) = true) {k : Nat} (hk : k ≤ m) : (obE l f g k).length ≤ k * 64 :=
  catN_len k (fun i hi => by rw [eB_len]; have := (h i (by omega)).2.1; omega)
theorem Chg.onto {P Q : Nat → Prop} {w W W' : World} (h : Chg P w W) (k : Chg Q W W') (hp : ∀ i, i < w.heap.size → Q i → P i) : Chg P w W' :=
  ⟨k.os.trans h.os, k.tape.trans h.tape, k.output.trans h.output, Nat.le_trans h.size k.size, fun i hi hn => (k.block i (Nat.lt_of_lt_of_le hi h.size) (fun x => hn (hp i hi x))).trans (h.block i hi hn)⟩
theorem OwB.near {w W W' : World} {c0 : Option Addr} {B n cap : Nat} {t : TypeId} {xs : List Value} (ho : W.ownsRow B t 1 (.slice c0 n cap) n xs) (h : Chg nob w W) (k : Chg (OB c0) W W') (hB : w.heap.size ≤ B) : Chg nob w W' :=
  h.near k (fun i e => by have := (own_at (b := i) ho e).1; omega)
theorem OwB.len {w : World} {B n : Nat} {t : TypeId} {v : Value} {xs : List Value} (ho : w.ownsRow B t 1 v n xs) : n = xs.length := by simpa using ho.1.symm
set_option maxHeartbeats 1000000 in
theorem appendRounds_o (B : Nat) (c0 : Option Addr) (n cap0 : Nat) (xs : List Value) (c : Option Addr) (m cap : Nat) (l : Nat → Nat) (f g : Nat → Nat → Int) (w0 w : World) (ho : Hid (w.ownsRow B 5 1 (.slice c0 n cap0) n xs)) (h : Hid ((dEE m l f g).Rep w0 (.slice c m cap))) (hk : Hid (Chg nob w0 w)) (hB0 : w0.heap.size ≤ B) (hB : B ≤ w.heap.size) (hok : Hid (∀ i, i < m → 1 ≤ l i ∧ l i ≤ 8 ∧ okP (f i) (g i) (l i) = true)) (m2 : m ≤ 8) (hn : n ≤ 100000) :
    Calls Tryz.prog 28 #[.slice c0 n cap0, .slice c m cap] w fun e w' => ApAns w c0 B (n + (obE l f g m).length) (xs ++ obE l f g m) e w' := by
  go_enter Tryz.func28, Tryz.ntmps28
  go_wp2
  go_loopw [0, 9] (fun v i W => ∃ (k N : Nat) (c' : Option Addr) (cap' : Nat), k ≤ m ∧ N ≤ 200000 ∧ i = .int .i64 (k : Int) ∧ v = .slice c' N cap' ∧ Hid (N = n + (obE l f g k).length) ∧ Hid (W.ownsRow B 5 1 (.slice c' N cap') N (xs ++ obE l f g k)) ∧ Hid (Chg nob w0 W) ∧ Hid (Chg (OB c0) w W) ∧ Hid (∀ b, c' = some ⟨b, 0, none⟩ → c0 = some ⟨b, 0, none⟩ ∨ w.heap.size ≤ b)) (fun _ i _ => m - (intOf i).toNat)
  case atStart => exact ⟨0, n, c0, cap0, Nat.zero_le _, by omega, rfl, rfl, hik (by simp [obE, catN]), hik (by simpa [obE, catN] using ho.out), hk, hik (Chg.refl _ _), hik (fun b e => .inl e)⟩
  case round =>
    obtain ⟨k, N, c', cap', hk, hN2, rfl, rfl, HN, HO, HW, HG, HC⟩ := hrel
    rename World => wi
    by_cases hlt : k < m
    · have hk1 : (k : Int) < (m : Int) := by omega
      have hk0 : (0 : Int) ≤ (k : Int) := by omega
      obtain ⟨xb, xo, ec, hxb, hcc⟩ := (rep_list (h.out.keep HW.out)).2 k hlt
      obtain ⟨u, hc, hu⟩ := hcc 0 (by omega)
      obtain ⟨c1, p1, rfl, hP⟩ := hu
      subst ec
      rw [show xo + (k * 1 + 0) = xo + k by omega] at hc
      have PJ := hik hP
      have RK := hik (hok.out k hlt)
      have hBw := HG.out.size
      clear hP hcc
      go_wp2_with fail
      refine (appendExts_o B c' N cap' (xs ++ obE l f g k) c1 (l k) p1 (f k) (g k) _ HO PJ RK.out.2.2 RK.out.1 (by have := RK.out.2.1; omega) (by omega) (by omega)).mono ?_
      rintro e W2 ⟨c2, cap2, rfl, o2, k2, a2⟩
      have HO2 := hik (show W2.ownsRow B 5 1 (.slice c2 (N + l k * 8) cap2) (N + l k * 8) (xs ++ obE l f g (k + 1)) by have q := o2; rw [List.append_assoc] at q; exact q)
      have HW2 := hik (OwB.near HO.out HW.out k2 hB0)
      have HG2 := hik (HG.out.onto k2 (fun i hi e => by
        rcases HC.out i e with q | q
        · exact q
        · omega))
      have HC2 := hik (show ∀ b, c2 = some ⟨b, 0, none⟩ → c0 = some ⟨b, 0, none⟩ ∨ w.heap.size ≤ b from fun b e => by
        rcases a2 b e with q | q
        · exact HC.out b q
        · right; omega)
      have HN3 := hik (show N + l k * 8 = n + (obE l f g (k + 1)).length by rw [HN.out]; simp only [obE, catN, List.length_append, eB_len]; omega)
      have hl := obE_len (fun i hi => hok.out i hi) (k := k + 1) (by omega)
      obtain ⟨M, hM⟩ : ∃ M, M = N + l k * 8 := ⟨_, rfl⟩
      rw [← hM] at HO2 HN3 ⊢
      have hN2 : M ≤ 200000 := by have := HN3.out; omega
      clear o2 k2 a2 hc PJ hl hM RK
      go_wp2
      go_roundw
      case rel => exact ⟨k + 1, M, _, _, by omega, hN2, by go_num, rfl, HN3, HO2, HW2, HG2, HC2⟩
      case measure => simp [intOf]; omega
    · obtain rfl : m = k := by omega
      have hcc : ¬ (m : Int) < (m : Int) := by omega
      go_wp2
      go_ret
      have e := HN.out
      subst e
      exact ⟨_, _, rfl, HO.out, HG.out, HC.out⟩

theorem one_pair0 (W : World) (a b : Int) : PairV (W.alloc (.cells #[.int .i64 a, .int .i64 b] 42)) (some ⟨W.heap.size, 0, none⟩) 1 (fun _ => a) (fun _ => b) := by
  intro i hi
  obtain rfl : i = 0 := by omega
  refine ⟨W.heap.size, 0, rfl, by simp, ?_, ?_⟩ <;> simp
theorem one_pair (W : World) (a b : Int) : PairV (W.drew.alloc (.cells #[.int .i64 a, .int .i64 b] 42)) (some ⟨W.heap.size, 0, none⟩) 1 (fun _ => a) (fun _ => b) := one_pair0 W.drew a b
theorem wv_one9 (a : Int) : ∀ u ∈ wv a, u.oneCell' = true := by
  intro u hu
  simp [wv] at hu
  rcases hu with rfl | rfl | rfl | rfl <;> rfl
set_option maxHeartbeats 1000000 in
theorem appendWord_o (B g n cap0 : Nat) (xs : List Value) (a : Int) (w : World) (ho : Hid (w.ownsRow B 5 1 (.slice (some ⟨g, 0, none⟩) n cap0) n xs)) (a0 : 0 ≤ a) (a1 : a < 2130706433) (hn : n ≤ 1000000) (hB : B ≤ w.heap.size) :
    Calls Tryz.prog 58 #[.slice (some ⟨g, 0, none⟩) n cap0, .int .i64 a] w fun e w' => ApAns w (some ⟨g, 0, none⟩) B (n + 4) (xs ++ wv a) e w' := by
  obtain ⟨i0, hi, hz0, hz1, hz2⟩ := info_parts infoU8
  have HI := hik hi
  have HZ0 := hik hz0
  have HZ1 := hik hz1
  have HZ2 := hik hz2
  clear hi hz0 hz1 hz2
  go_enter Tryz.func58, Tryz.ntmps58
  go_wp2_with (at_builtin; refine wpList_append_lies _ rfl (.tmp 5) (.tmp 17) 38 rfl B 5 i0 (.int .u8 0) 1 1 Tryz.underlying38 HI.out HZ0.out HZ1.out HZ2.out rfl (by decide) _ n xs rfl (ho.out.alloc _) ⟨_, 0, none⟩ 4 4 (wv a) rfl rfl ?c1 (wv_one9 a) (by omega) (by unfold maxLen; omega) (by omega) (by simp; omega) _ rfl ?c2)
  case c1 =>
    intro j u hj
    match j, hj with
    | 0, hj => simp [wv, wb] at hj; subst hj; simp [Addr.add]; omega
    | 1, hj => simp [wv, wb] at hj; subst hj; simp [Addr.add]
    | 2, hj => simp [wv, wb] at hj; subst hj; simp [Addr.add]
    | 3, hj => simp [wv, wb] at hj; subst hj; simp [Addr.add]
    | j + 4, hj => simp [wv] at hj
  case c2 =>
    intro g7 cp7 w7 o7 hg7 hat7 hlt7
    have K7 := hik (show Chg (OB (some ⟨g, 0, none⟩)) w w7 from ((Chg.refl (OB (some ⟨g, 0, none⟩)) w).alloc _).grown hg7 (fun b e _ => by
      simp [Value.ownBlock] at e
      subst e
      rfl))
    have O7 := hik o7
    have A7 := hik (show ∀ b, some (⟨g7, 0, none⟩ : Addr) = some ⟨b, 0, none⟩ → (some ⟨g, 0, none⟩ : Option Addr) = some ⟨b, 0, none⟩ ∨ w.heap.size ≤ b from fun b e => by
      cases e
      rcases hat7 with q | q
      · simp [Value.ownBlock] at q
        subst q
        exact .inl rfl
      · right; first | omega | (simp at q; omega))
    clear o7 hg7 hat7 hlt7
    go_wp2
    go_ret
    exact ⟨_, _, rfl, O7.out, K7.out, A7.out⟩

set_option maxHeartbeats 8000000 in
theorem openingBytes_any (o : OD) (cR : Option Addr) (pR : Nat) (cT : Option Addr) (pT : Nat) (cQ : Option Addr) (pQ : Nat) (v r n g : Int) (w : World) (h : Hid (OpV w o cR pR cT pT cQ pQ)) (hs : Hid o.small) :
    Calls Tryz.prog 30 #[.agg #[.slice cR o.nr pR, .slice cT o.nt pT, .int .i64 o.la, .int .i64 o.lb, .int .i64 o.no, .slice cQ o.nq pQ], .int .i64 v, .agg #[.int .i64 r, .int .i64 n, .int .i64 g]] w fun e w' => ObAns w (obc o v r n g) (obl o v r n g) e w' := by
  have K0 := hik (((Chg.refl nob w).alloc (.cells #[.slice cR o.nr pR, .slice cT o.nt pT, .int .i64 o.la, .int .i64 o.lb, .int .i64 o.no, .slice cQ o.nq pQ] 45)).alloc (.cells #[.int .i64 r, .int .i64 n, .int .i64 g] 53))
  have RA := hik (rowIs_keep (rowN_new w 6 #[.slice cR o.nr pR, .slice cT o.nt pT, .int .i64 o.la, .int .i64 o.lb, .int .i64 o.no, .slice cQ o.nq pQ] 45 rfl) ((Chg.refl nob _).alloc (.cells #[.int .i64 r, .int .i64 n, .int .i64 g] 53)))
  cases hb : ook o v r n g
  · have e1 : obc o v r n g = 1 := by unfold obc; rw [hb]; rfl
    have e2 : obl o v r n g = [] := by unfold obl; rw [hb]; rfl
    rw [e1, e2]
    clear e1 e2
    go_enter Tryz.func30, Tryz.ntmps30
    go_wp2_with fail
    generalize hW : (w.alloc (.cells #[.slice cR o.nr pR, .slice cT o.nt pT, .int .i64 o.la, .int .i64 o.lb, .int .i64 o.no, .slice cQ o.nq pQ] 45)).alloc (.cells #[.int .i64 r, .int .i64 n, .int .i64 g] 53) = W0 at K0 RA ⊢
    clear hW
    refine (openingOK_any o cR pR cT pT cQ pQ v r n g _ (hik (h.out.keep K0.out)) hs).mono ?_
    rintro e W1 ⟨he, k1⟩
    rw [hb] at he
    subst he
    have G1 := hik (K0.out.trans k1)
    clear k1 hb
    go_wp2
    go_ret2
    exact ⟨none, 0, 0, rfl, rfl, ⟨by simp, .inl ⟨rfl, rfl⟩⟩, G1.out⟩
  · have e1 : obc o v r n g = 0 := by unfold obc; rw [hb]; rfl
    have e2 : obl o v r n g = oby o := by unfold obl; rw [hb]; rfl
    rw [e1, e2]
    have OK := hik (ook_ok hb)
    clear e1 e2
    go_enter Tryz.func30, Tryz.ntmps30
    go_wp2_with fail
    generalize hW : (w.alloc (.cells #[.slice cR o.nr pR, .slice cT o.nt pT, .int .i64 o.la, .int .i64 o.lb, .int .i64 o.no, .slice cQ o.nq pQ] 45)).alloc (.cells #[.int .i64 r, .int .i64 n, .int .i64 g] 53) = W0 at K0 RA ⊢
    clear hW
    refine (openingOK_any o cR pR cT pT cQ pQ v r n g _ (hik (h.out.keep K0.out)) hs).mono ?_
    rintro e W1 ⟨he, k1⟩
    rw [hb] at he
    subst he
    have G1 := hik (K0.out.trans k1)
    replace RA := hik (rowIs_keep RA.out k1)
    have hs1 := G1.out.size
    clear k1 hb K0
    have ra0 : W1.cell? ⟨w.heap.size, 0, none⟩ = some (.slice cR o.nr pR) := RA.out.cell (i := 0) (by omega)
    have raz := RA.out.lt
    have hnr6 : o.nr ≤ 6 := by have := OK.out.nr; have := OK.out.v1; omega
    have hnr1 : 1 ≤ o.nr := by have := OK.out.nr; have := OK.out.v0; omega
    obtain ⟨_, _, eT, hTT⟩ := h.out.2.1
    cases eT
    have HT := hik hTT
    have TS := hik OK.out.ts
    have hnt : o.nt ≤ 5 := by have := OK.out.nt; have := OK.out.v1; omega
    clear hTT
    have ra1 : W1.cell? ⟨w.heap.size, 1, none⟩ = some (.slice cT o.nt pT) := RA.out.cell (i := 1) (by omega)
    go_wp2
    have KW := hik ((Chg.refl (fun b => W1.heap.size ≤ b) W1).drew1)
    have SA := hik (fun (WW : World) (kW : Chg (fun b => W1.heap.size ≤ b) W1 WW) => (show (WW.cell? ⟨w.heap.size, 0, none⟩ = some (.slice cR o.nr pR) ∧ WW.cell? ⟨w.heap.size, 1, none⟩ = some (.slice cT o.nt pT)) from ⟨kW.seeQ ra0 (by omega), kW.seeQ ra1 (by omega)⟩))
    refine wp_region_held_drew (S := fun w' => w'.cell? ⟨w.heap.size, 0, none⟩ = some (.slice cR o.nr pR) ∧ w'.cell? ⟨w.heap.size, 1, none⟩ = some (.slice cT o.nt pT)) (by kernel_rfl) (SA.out _ KW.out) (fun hHeld => ?_)
    refine wpAnyH_take (i := 0) (v := ?_) rfl (by kernel_rfl) (by kernel_rfl) (by kernel_rfl) (fun _ _ _ h => h) (Or.inl ⟨by rfl, ?_⟩) (by assumption) ?_
    rotate_left 1
    · (intro w' hSw; (try dsimp only at hSw); go_simp; try with_reducible rfl)
    try simp only [Act.put, List.setIfInBounds_toArray, List.set_cons_zero, List.set_cons_succ, List.getElem_toArray, List.getElem_cons_zero, List.getElem_cons_succ]
    refine wpAnyH_take (i := 1) (v := ?_) rfl (by kernel_rfl) (by kernel_rfl) (by kernel_rfl) (fun _ _ _ h => h) (Or.inl ⟨by rfl, ?_⟩) (by assumption) ?_
    rotate_left 1
    · (intro w' hSw; (try dsimp only at hSw); go_simp; try with_reducible rfl)
    try simp only [Act.put, List.setIfInBounds_toArray, List.set_cons_zero, List.set_cons_succ, List.getElem_toArray, List.getElem_cons_zero, List.getElem_cons_succ]
    refine wpAnyH_take (i := 3) (v := ?_) rfl (by kernel_rfl) (by kernel_rfl) (by kernel_rfl) (fun _ _ _ h => h) (Or.inl ⟨by rfl, ?_⟩) (by assumption) ?_
    rotate_left 1
    · (intro w' hSw; (try dsimp only at hSw); go_simp; try with_reducible rfl)
    try simp only [Act.put, List.setIfInBounds_toArray, List.set_cons_zero, List.set_cons_succ, List.getElem_toArray, List.getElem_cons_zero, List.getElem_cons_succ]
    refine wpAnyH_take (i := 4) (v := ?_) rfl (by kernel_rfl) (by kernel_rfl) (by kernel_rfl) (fun _ _ _ h => h) (Or.inl ⟨by rfl, ?_⟩) (by assumption) ?_
    rotate_left 1
    · (intro w' hSw; (try dsimp only at hSw); go_simp; try with_reducible rfl)
    try simp only [Act.put, List.setIfInBounds_toArray, List.set_cons_zero, List.set_cons_succ, List.getElem_toArray, List.getElem_cons_zero, List.getElem_cons_succ]
    refine wpAnyH_ready (rs := [2]) (by kernel_rfl) (by simp) ?_
    refine AllReadyH.cons rfl (fun K hK => ?_) AllReadyH.nil
    refine stepL_callN 28 #[.const (.slice none 0 0), .tmp 19] #[38, 41] (by rfl) (by rfl) #[.slice none 0 0, .slice cR o.nr pR] (by simp only [List.map_toArray, List.map_cons, List.map_nil] <;> rfl) (run_go Tryz.func28 (by kernel_rfl) (by kernel_rfl) _ _) (appendRounds_o W1.heap.size none 0 0 [] cR o.nr pR o.rl o.rf o.rg w _ (hik ⟨by simp, .inl ⟨rfl, rfl⟩⟩) (hik h.out.1) (hik (G1.out.near KW.out (fun i e => Nat.le_trans hs1 e))) hs1 KW.out.size (hik (fun i hi => ⟨by rw [(OK.out.rd i hi).1]; omega, by rw [(OK.out.rd i hi).1]; omega, by rw [(OK.out.rd i hi).1]; exact (OK.out.rd i hi).2⟩)) (by omega) (by omega)) ?_
    rintro e W2 ⟨c', cap', he, o1, kk, _⟩
    have kk := kk.mono (Q := (fun b => W1.heap.size ≤ b)) (fun i hi e => by cases e)
    obtain ⟨N, hNe⟩ : ∃ N, N = 0 + (obE o.rl o.rf o.rg o.nr).length := ⟨_, rfl⟩
    rw [← hNe] at o1 he
    have hN : N ≤ 1000 := by have := obR_len OK.out (k := o.nr) (by omega); have e9 : (obE o.rl o.rf o.rg o.nr).length = (obR o o.nr).length := rfl; omega
    have HO1 : Hid (W2.ownsRow W1.heap.size 5 1 (.slice c' N cap') N (obR o o.nr)) := hik o1
    have hpos : 0 < N := by
      have q := OwB.len HO1.out
      obtain ⟨m, hm⟩ : ∃ m, o.nr = m + 1 := ⟨o.nr - 1, by omega⟩
      rw [hm] at q
      have e8 : (obR o (m + 1)).length = (obR o m).length + o.rl m * 8 := by simp [obR, catN, eB_len]
      rw [e8, (OK.out.rd m (by omega)).1] at q
      omega
    obtain ⟨g1, cp1, e1, hg1, hg1'⟩ := HO1.out.form hpos
    cases e1
    clear o1 hNe
    refine ⟨_, he, ?_⟩
    replace KW := hik (KW.out.trans kk)
    refine hK.out _ _ (SA.out _ KW.out) (fun hHeld => ?_)
    clear hK K
    try simp only [Act.put, List.setIfInBounds_toArray, List.set_cons_zero, List.set_cons_succ, List.getElem_toArray, List.getElem_cons_zero, List.getElem_cons_succ]
    clear he kk
    refine wpAnyH_ready (rs := [5]) (by kernel_rfl) (by simp) ?_
    refine AllReadyH.cons rfl (fun K hK => ?_) AllReadyH.nil
    refine stepL_callN 57 #[.tmp 20, .tmp 22] #[38, 25] (by rfl) (by rfl) #[.slice (some ⟨g1, 0, none⟩) N cap', .slice cT o.nt pT] (by simp only [List.map_toArray, List.map_cons, List.map_nil] <;> rfl) (run_go Tryz.func57 (by kernel_rfl) (by kernel_rfl) _ _) (appendTexts_o W1.heap.size (some ⟨g1, 0, none⟩) N cap' (obR o o.nr) cT o.nt pT o.ts _ HO1 (hik (HT.out.keep (G1.out.near KW.out (fun i e => Nat.le_trans hs1 e)))) TS (by omega) (by omega) KW.out.size (hik (fun i hi xb xo e => by obtain ⟨yb, yo, e2, l, _⟩ := HT.out i hi; rw [e] at e2; cases e2; omega))) ?_
    rintro e W3 ⟨c3, cap3, he, o3, kk, _⟩
    have kk := kk.mono (Q := (fun b => W1.heap.size ≤ b)) (fun i hi e => by have e' : g1 = i := (by cases e; rfl); rw [← e']; exact hg1)
    obtain ⟨N3, hN3⟩ : ∃ N3, N3 = N + o.nt * 32 := ⟨_, rfl⟩
    have hN3b : N3 ≤ 1200 := by omega
    have hN3p : 0 < N3 := by omega
    rw [← hN3] at o3 he
    obtain ⟨g3, cp3, e3, hg3, hg3'⟩ := o3.form hN3p
    cases e3
    have HO3 := hik o3
    clear o3 hN3 HO1 hg1 hg1' hpos
    refine ⟨_, he, ?_⟩
    replace KW := hik (KW.out.trans kk)
    refine hK.out _ _ (SA.out _ KW.out) (fun hHeld => ?_)
    clear hK K
    try simp only [Act.put, List.setIfInBounds_toArray, List.set_cons_zero, List.set_cons_succ, List.getElem_toArray, List.getElem_cons_zero, List.getElem_cons_succ]
    clear he kk
    refine wpAnyH_take (i := 6) (v := ?_) rfl (by kernel_rfl) (by kernel_rfl) (by kernel_rfl) (fun _ _ _ h => h) (Or.inl ⟨by rfl, ?_⟩) (by assumption) ?_
    rotate_left 1
    · (intro w' hSw; (try dsimp only at hSw); go_simp; try with_reducible rfl)
    try simp only [Act.put, List.setIfInBounds_toArray, List.set_cons_zero, List.set_cons_succ, List.getElem_toArray, List.getElem_cons_zero, List.getElem_cons_succ]
    refine wpAnyH_done (by kernel_rfl) ?_ _
    have HG3 := hik ((Chg.refl nob W1).near KW.out (fun i e => e))
    clear SA hHeld KW
    clear ra0 ra1
    have GW3 := hik (G1.out.trans HG3.out)
    have ra2 : W3.cell? ⟨w.heap.size, 2, none⟩ = some (.int .i64 o.la) := HG3.out.see (RA.out.cell (i := 2) (by omega))
    have ra3 : W3.cell? ⟨w.heap.size, 3, none⟩ = some (.int .i64 o.lb) := HG3.out.see (RA.out.cell (i := 3) (by omega))
    have ra4 : W3.cell? ⟨w.heap.size, 4, none⟩ = some (.int .i64 o.no) := HG3.out.see (RA.out.cell (i := 4) (by omega))
    have hs3 := HG3.out.size
    have EL := hik OK.out.el
    have hno0 := OK.out.n0
    have hno1 := OK.out.n1
    go_wp2
    have KW := hik ((Chg.refl (fun b => b = g3 ∨ W3.heap.size ≤ b) W3).drew1)
    have SA := hik (fun (WW : World) (kW : Chg (fun b => b = g3 ∨ W3.heap.size ≤ b) W3 WW) => (show (WW.cell? ⟨w.heap.size, 2, none⟩ = some (.int .i64 o.la) ∧ WW.cell? ⟨w.heap.size, 3, none⟩ = some (.int .i64 o.lb) ∧ WW.cell? ⟨w.heap.size, 4, none⟩ = some (.int .i64 o.no)) from ⟨kW.seeQ ra2 (by omega), kW.seeQ ra3 (by omega), kW.seeQ ra4 (by omega)⟩))
    refine wp_region_held_drew (S := fun w' => w'.cell? ⟨w.heap.size, 2, none⟩ = some (.int .i64 o.la) ∧ w'.cell? ⟨w.heap.size, 3, none⟩ = some (.int .i64 o.lb) ∧ w'.cell? ⟨w.heap.size, 4, none⟩ = some (.int .i64 o.no)) (by kernel_rfl) (SA.out _ KW.out) (fun hHeld => ?_)
    refine wpAnyH_take (i := 0) (v := ?_) rfl (by kernel_rfl) (by kernel_rfl) (by kernel_rfl) (fun _ _ _ h => h) (Or.inl ⟨by rfl, ?_⟩) (by assumption) ?_
    rotate_left 1
    · (intro w' hSw; (try dsimp only at hSw); go_simp; try with_reducible rfl)
    try simp only [Act.put, List.setIfInBounds_toArray, List.set_cons_zero, List.set_cons_succ, List.getElem_toArray, List.getElem_cons_zero, List.getElem_cons_succ]
    refine wpAnyH_take (i := 1) (v := ?_) rfl (by kernel_rfl) (by kernel_rfl) (by kernel_rfl) (fun _ _ _ h => h) (Or.inl ⟨by rfl, ?_⟩) (by assumption) ?_
    rotate_left 1
    · (intro w' hSw; (try dsimp only at hSw); go_simp; try with_reducible rfl)
    try simp only [Act.put, List.setIfInBounds_toArray, List.set_cons_zero, List.set_cons_succ, List.getElem_toArray, List.getElem_cons_zero, List.getElem_cons_succ]
    refine wpAnyH_take (i := 2) (v := ?_) rfl (by kernel_rfl) (by kernel_rfl) (by kernel_rfl) (fun _ _ _ h => h) (Or.inl ⟨by rfl, ?_⟩) (by assumption) ?_
    rotate_left 1
    · (intro w' hSw; (try dsimp only at hSw); go_simp; try with_reducible rfl)
    try simp only [Act.put, List.setIfInBounds_toArray, List.set_cons_zero, List.set_cons_succ, List.getElem_toArray, List.getElem_cons_zero, List.getElem_cons_succ]
    refine wpAnyH_take (i := 5) (v := ?_) rfl (by kernel_rfl) (by kernel_rfl) (by kernel_rfl) (fun _ _ _ h => h) (Or.inl ⟨by rfl, ?_⟩) (by assumption) ?_
    rotate_left 1
    · (intro w' hSw; (try dsimp only at hSw); go_simp; try with_reducible rfl)
    try simp only [Act.put, List.setIfInBounds_toArray, List.set_cons_zero, List.set_cons_succ, List.getElem_toArray, List.getElem_cons_zero, List.getElem_cons_succ]
    refine wpAnyH_take (i := 6) (v := ?_) rfl (by kernel_rfl) (by kernel_rfl) (by kernel_rfl) (fun _ _ _ h => h) (Or.inl ⟨by rfl, ?_⟩) (by assumption) ?_
    rotate_left 1
    · (intro w' hSw; (try dsimp only at hSw); go_simp; try with_reducible rfl)
    try simp only [Act.put, List.setIfInBounds_toArray, List.set_cons_zero, List.set_cons_succ, List.getElem_toArray, List.getElem_cons_zero, List.getElem_cons_succ]
    refine wpAnyH_ready (rs := [3]) (by kernel_rfl) (by simp) ?_
    refine AllReadyH.cons rfl (fun K hK => ?_) AllReadyH.nil
    simp only [List.getElem_toArray, List.getElem_cons_zero, List.getElem_cons_succ]
    go_simp
    replace KW := hik (KW.out.alloc (.cells #[.int .i64 o.la, .int .i64 o.lb] 42))
    have HO4 := hik (HO3.out.alloc (.cells #[.int .i64 o.la, .int .i64 o.lb] 42))
    refine hK.out _ _ (SA.out _ KW.out) (fun hHeld => ?_)
    clear hK K
    try simp only [Act.put, List.setIfInBounds_toArray, List.set_cons_zero, List.set_cons_succ, List.getElem_toArray, List.getElem_cons_zero, List.getElem_cons_succ]
    refine wpAnyH_ready (rs := [4]) (by kernel_rfl) (by simp) ?_
    refine AllReadyH.cons rfl (fun K hK => ?_) AllReadyH.nil
    refine stepL_callN 29 #[.tmp 24, .tmp 27] #[38, 73] (by rfl) (by rfl) #[.slice (some ⟨g3, 0, none⟩) N3 cap3, .slice (some ⟨W3.heap.size, 0, none⟩) 1 1] (by simp only [List.map_toArray, List.map_cons, List.map_nil] <;> rfl) (run_go Tryz.func29 (by kernel_rfl) (by kernel_rfl) _ _) (appendExts_o W1.heap.size (some ⟨g3, 0, none⟩) N3 cap3 _ (some ⟨W3.heap.size, 0, none⟩) 1 1 (fun _ => o.la) (fun _ => o.lb) _ (hik HO4.out) (hik (one_pair W3 o.la o.lb)) (by simp [okP, EL.out]) (by omega) (by omega) (by omega) (by simp; omega)) ?_
    rintro e V1 ⟨c4, cap4, he, o4, kk, a4⟩
    obtain ⟨g4, cp4, e4, hg4, hg4'⟩ := o4.form (by omega)
    cases e4
    have A4 := hik (show g4 = g3 ∨ W3.heap.size ≤ g4 by
      rcases a4 g4 rfl with q | q
      · cases q; exact .inl rfl
      · right; simp at q; omega)
    have HO5 := hik o4
    have kk := kk.mono (Q := (fun b => b = g3 ∨ W3.heap.size ≤ b)) (fun i hi e => .inl (by cases e; rfl))
    have hz4 := KW.out.size
    clear o4 a4
    refine ⟨_, he, ?_⟩
    replace KW := hik (KW.out.trans kk)
    refine hK.out _ _ (SA.out _ KW.out) (fun hHeld => ?_)
    clear hK K
    try simp only [Act.put, List.setIfInBounds_toArray, List.set_cons_zero, List.set_cons_succ, List.getElem_toArray, List.getElem_cons_zero, List.getElem_cons_succ]
    clear he kk
    refine wpAnyH_ready (rs := [7]) (by kernel_rfl) (by simp) ?_
    refine AllReadyH.cons rfl (fun K hK => ?_) AllReadyH.nil
    refine stepL_callN 58 #[.tmp 28, .tmp 30] #[38, 3] (by rfl) (by rfl) #[.slice (some ⟨g4, 0, none⟩) (N3 + 1 * 8) cap4, .int .i64 o.no] (by simp only [List.map_toArray, List.map_cons, List.map_nil] <;> rfl) (run_go Tryz.func58 (by kernel_rfl) (by kernel_rfl) _ _) (appendWord_o W1.heap.size g4 (N3 + 1 * 8) cap4 _ o.no _ HO5 hno0 (by omega) (by omega) (by have := KW.out.size; omega)) ?_
    rintro e V2 ⟨c5, cap5, he, o5, kk, a5⟩
    obtain ⟨g5, cp5, e5, hg5, hg5'⟩ := o5.form (by omega)
    cases e5
    have HO6 := hik o5
    have kk := kk.mono (Q := (fun b => b = g3 ∨ W3.heap.size ≤ b)) (fun i hi e => by have e' : g4 = i := (by cases e; rfl); rw [← e']; exact A4.out)
    clear o5 a5
    refine ⟨_, he, ?_⟩
    replace KW := hik (KW.out.trans kk)
    refine hK.out _ _ (SA.out _ KW.out) (fun hHeld => ?_)
    clear hK K
    try simp only [Act.put, List.setIfInBounds_toArray, List.set_cons_zero, List.set_cons_succ, List.getElem_toArray, List.getElem_cons_zero, List.getElem_cons_succ]
    clear he kk
    refine wpAnyH_take (i := 8) (v := ?_) rfl (by kernel_rfl) (by kernel_rfl) (by kernel_rfl) (fun _ _ _ h => h) (Or.inl ⟨by rfl, ?_⟩) (by assumption) ?_
    rotate_left 1
    · (intro w' hSw; (try dsimp only at hSw); go_simp; try with_reducible rfl)
    try simp only [Act.put, List.setIfInBounds_toArray, List.set_cons_zero, List.set_cons_succ, List.getElem_toArray, List.getElem_cons_zero, List.getElem_cons_succ]
    refine wpAnyH_done (by kernel_rfl) ?_ _
    have HG5 := hik (HG3.out.near KW.out (fun i e => by rcases e with q | q <;> omega))
    replace HO5 := hik (show V2.ownsRow W1.heap.size 5 1 (.slice (some ⟨g5, 0, none⟩) (N3 + 1 * 8 + 4) cap5) (N3 + 1 * 8 + 4) (obH o) from HO6.out)
    clear SA hHeld KW HO4 HO6 A4 HO3 ra2 ra3 ra4 HG3
    have hnq8 : o.nq ≤ 8 := by have := OK.out.nq; have := OK.out.q1; omega
    have ra5 : V2.cell? ⟨w.heap.size, 5, none⟩ = some (.slice cQ o.nq pQ) := HG5.out.see (RA.out.cell (i := 5) (by omega))
    have raz2 := Nat.lt_of_lt_of_le RA.out.lt HG5.out.size
    go_wp2
    clear ra5 raz2
    go_loopw [8, 35] (fun v i W => ∃ (k N g' cap' : Nat), k ≤ o.nq ∧ N ≤ 20000 ∧ i = .int .i64 (k : Int) ∧ v = .slice (some ⟨g', 0, none⟩) N cap' ∧ Hid (W.ownsRow W1.heap.size 5 1 (.slice (some ⟨g', 0, none⟩) N cap') N (obH o ++ obQs o k)) ∧ Hid (Chg nob W1 W)) (fun _ i _ => o.nq - (intOf i).toNat)
    case atStart => exact ⟨0, _, g5, cap5, Nat.zero_le _, by omega, rfl, rfl, hik (by simpa [obQs, catN] using HO5.out), HG5⟩
    case round =>
      clear HO5 HG5
      obtain ⟨k, N5, g6, cap6, hk, hN5, rfl, rfl, HO, HG⟩ := hrel
      rename World => wj
      have GW := hik (G1.out.trans HG.out)
      have og := own_at HO.out (b := g6) rfl
      by_cases hlt : k < o.nq
      · have hk1 : (k : Int) < (o.nq : Int) := by omega
        have hk0 : (0 : Int) ≤ (k : Int) := by omega
        obtain ⟨xb, xo, ca, pa, cb, pb, ec, hxb, hc0, hc1, hP, hS⟩ := dQs_at h.out.2.2 hlt
        replace hxb := Nat.lt_of_lt_of_le hxb GW.out.size
        replace hc0 := GW.out.see hc0
        replace hc1 := GW.out.see hc1
        subst ec
        obtain ⟨_, _, eP, hPP⟩ := hP
        cases eP
        replace hPP := PairV.keep hPP GW.out
        have QK := hik (qrB_ok (OK.out.qr k hlt))
        have hnp : (o.q k).np ≤ 12 := by have := QK.out.np; have := OK.out.v1; omega
        have hnp1 : 1 ≤ (o.q k).np := by have := QK.out.np; have := OK.out.v0; omega
        have hnqk : (o.q k).nq ≤ 6 := by have := QK.out.nq; have := OK.out.v1; omega
        have KA := hik ((Chg.refl nob wj).alloc (.cells #[.slice ca (o.q k).np pa, .slice cb (o.q k).nq pb] 106))
        have RQ := hik (row2_new wj (.slice ca (o.q k).np pa) (.slice cb (o.q k).nq pb) 106)
        have PJ := hik (PairV.keep hPP KA.out)
        have HOA := hik (flKeep HO.out KA.out)
        have SJ := hik hS
        have HBQ := hik (show wj.heap.size < (wj.alloc (.cells #[.slice ca (o.q k).np pa, .slice cb (o.q k).nq pb] 106)).heap.size by simp)
        clear hPP hS
        go_wp2_with fail
        generalize hQ : wj.heap.size = bq at RQ HBQ ⊢
        generalize hW : wj.alloc (.cells #[.slice ca (o.q k).np pa, .slice cb (o.q k).nq pb] 106) = W6 at KA RQ PJ HOA HBQ ⊢
        have hbq := hik hQ
        clear hQ hW
        refine (appendExts_o W1.heap.size (some ⟨g6, 0, none⟩) N5 cap6 (obH o ++ obQs o k) ca (o.q k).np pa (o.q k).f (o.q k).g _ HOA PJ QK.out.ok hnp1 (by omega) (by omega) (HG.out.trans KA.out).size).mono ?_
        rintro e W7 ⟨c7, cap7, rfl, o7, k7, a7⟩
        have HG7 := hik (OwB.near HOA.out (HG.out.trans KA.out) k7 (Nat.le_refl _))
        replace RQ := hik (rowIs_chg RQ.out k7 (fun e => by have e' : g6 = bq := (by cases e; rfl); have := hbq.out; omega))
        obtain ⟨N7, hN7⟩ : ∃ N7, N7 = N5 + (o.q k).np * 8 := ⟨_, rfl⟩
        have hN7p : 0 < N7 := by omega
        rw [← hN7] at o7 ⊢
        obtain ⟨g7, cp7, e7, hg7, hg7'⟩ := o7.form hN7p
        cases e7
        have hN7b : N7 ≤ 21000 := by omega
        have HG7b := hik (show g7 ≠ bq by
          rcases a7 g7 rfl with q | q
          · cases q; have := hbq.out; omega
          · have := HBQ.out; omega)
        have HO7 := hik o7
        have bq1 := row2_c1 RQ.out
        have bqz := RQ.out.lt
        clear o7 k7 a7 hN7 hc0 hc1 PJ HOA HO og
        go_wp2
        clear bq1 bqz
        go_loopw [8, 46] (fun v i W => ∃ (j N g' cap' : Nat), j ≤ (o.q k).nq ∧ N ≤ 24000 ∧ i = .int .i64 (j : Int) ∧ v = .slice (some ⟨g', 0, none⟩) N cap' ∧ Hid (W.ownsRow W1.heap.size 5 1 (.slice (some ⟨g', 0, none⟩) N cap') N (obH o ++ obQs o k ++ eB (o.q k).f (o.q k).g (o.q k).np ++ obP (o.q k) j)) ∧ Hid (Chg nob W1 W)) (fun _ i _ => (o.q k).nq - (intOf i).toNat)
        case atStart => exact ⟨0, N7, g7, cap7, Nat.zero_le _, by omega, rfl, rfl, hik (by have q := HO7.out; simpa [obP, catN] using q), HG7⟩
        case round =>
          clear HO7 HG7 RQ
          obtain ⟨j, N8, g8, cap8, hj, hN8, rfl, rfl, HO8, HG8⟩ := hrel
          rename World => wk
          have GW8 := hik (G1.out.trans HG8.out)
          by_cases hjl : j < (o.q k).nq
          · have hj1 : (j : Int) < ((o.q k).nq : Int) := by omega
            have hj0 : (0 : Int) ≤ (j : Int) := by omega
            obtain ⟨yb, yo, ey, hyb, hcc⟩ := (rep_list SJ.out).2 j hjl
            obtain ⟨u, hc, hu⟩ := hcc 0 (by omega)
            obtain ⟨c1, p1, rfl, hP⟩ := hu
            subst ey
            rw [show yo + (j * 1 + 0) = yo + j by omega] at hc
            have hcw := GW8.out.see hc
            replace hyb := Nat.lt_of_lt_of_le hyb GW8.out.size
            have PJ := hik hP
            have QJ := hik (QK.out.pt j hjl)
            have hl8 : (o.q k).l j ≤ 8 := by have := QJ.out.1; have := OK.out.v1; have := OK.out.r1; omega
            clear hP hcc hc
            go_wp2_with fail
            refine (appendTexts_o W1.heap.size (some ⟨g8, 0, none⟩) N8 cap8 _ c1 ((o.q k).l j) p1 ((o.q k).T j) _ HO8 (hik (PJ.out.keep GW8.out)) (hik QJ.out.2) (by omega) (by omega) HG8.out.size (hik (fun i hi xb xo e => by obtain ⟨yb, yo, e2, l, _⟩ := PJ.out i hi; rw [e] at e2; cases e2; omega))).mono ?_
            rintro e W9 ⟨c9, cap9, rfl, o9, k9, a9⟩
            have HG9 := hik (OwB.near HO8.out HG8.out k9 (Nat.le_refl _))
            obtain ⟨N9, hN9⟩ : ∃ N9, N9 = N8 + (o.q k).l j * 32 := ⟨_, rfl⟩
            rw [← hN9] at o9 ⊢
            have HO9 := hik (show W9.ownsRow W1.heap.size 5 1 (.slice c9 N9 cap9) N9 (obH o ++ obQs o k ++ eB (o.q k).f (o.q k).g (o.q k).np ++ obP (o.q k) (j + 1)) by
              have q := o9
              simpa [obP, catN, List.append_assoc] using q)
            have hlen : N9 ≤ 24000 := by
              have l0 := OwB.len HO9.out
              have l1 := obQs_len OK.out (k := k) (by omega)
              have l2 := obH_len OK.out
              have l3 := obP_len QK.out OK.out.v1 OK.out.r1 (k := j + 1) (by omega)
              simp only [List.length_append, eB_len] at l0
              omega
            have hN9p : 0 < N9 := by have := QJ.out.1; have := OK.out.r0; have := QK.out.nq; omega
            obtain ⟨g9, cp9, e9, hg9, hg9'⟩ := HO9.out.form hN9p
            cases e9
            clear o9 k9 a9 hN9 hcw PJ HO8
            go_wp2
            go_roundw
            case rel => exact ⟨j + 1, N9, g9, cap9, by omega, hlen, by go_num, rfl, HO9, HG9⟩
            case measure => simp [intOf]; omega
          · have hcc : ¬ (j : Int) < ((o.q k).nq : Int) := by omega
            have ej : j = (o.q k).nq := by omega
            have HO9 := hik (show wk.ownsRow W1.heap.size 5 1 (.slice (some ⟨g8, 0, none⟩) N8 cap8) N8 (obH o ++ obQs o (k + 1)) by
              have q := HO8.out
              rw [ej] at q
              simpa [obQs, catN, obQ, List.append_assoc] using q)
            have hl := obQs_len OK.out (k := k + 1) (by omega)
            have hl2 := obH_len OK.out
            have hN9 : N8 ≤ 20000 := by have := OwB.len HO9.out; rw [List.length_append] at this; omega
            clear HO8 ej
            go_wp2
            go_roundw
            case rel => exact ⟨_, _, _, .int .i64 ((k + 1 : Nat) : Int), ⟨k + 1, by omega, N8, hN9, rfl, g8, cap8, rfl, HO9⟩, rfl, rfl, rfl, by go_num⟩
            case measure => simp [intOf]; omega
      · have hcc : ¬ (k : Int) < (o.nq : Int) := by omega
        have ek : k = o.nq := by omega
        have HO9 := hik (show wj.ownsRow W1.heap.size 5 1 (.slice (some ⟨g6, 0, none⟩) N5 cap6) N5 (oby o) by rw [show oby o = obH o ++ obQs o k by rw [ek]; rfl]; exact HO.out)
        clear ek HO
        go_wp2
        go_ret2
        exact ⟨_, N5, _, rfl, OwB.len HO9.out, Go.Joins.ownsRow_le HO9.out hs1, GW.out⟩

end Go.Proofs.YtfbjlohnbpienaaGreat
