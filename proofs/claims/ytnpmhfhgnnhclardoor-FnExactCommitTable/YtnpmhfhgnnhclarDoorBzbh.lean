/- Several texts in one: Trees in memory: words and laws. No program is walked here. · What the program's rows of a tree and its root are: contracts. Conditions: 1, 2, 4 to 256 leaves, none of more than 65535 bytes; the tables hold the shifts and the rounds' constants. -/
import Derived.Test.YtnpmhfhgnnhclarDoorBzbd
import Derived.Test.YtnpmhfhgnnhclarDoorBzbg
import Derived.Test.YtnpmhfhgnnhclarDoorBzbi
namespace Go.Proofs.YtnpmhfhgnnhclarDoor
open Go.RowKit
set_option linter.unusedVariables false
set_option maxRecDepth 100000

/-- k of n leaves' nodes are made. -/
structure RLf (w W : World) (n k : Nat) (nb : Nat → Nat) (L : Nat → ByteArray) : Prop where
  row : Prow W w.heap.size n (fun j => if j < k then ptr (nb j) else nul)
  new : ∀ j, j < k → w.heap.size < nb j ∧ Nod W (nb j) (lf (L j)) nul nul
  inj : ∀ i j, i < k → j < k → nb i = nb j → i = j
  chg : Chg nob w W
theorem RLf.start (w : World) (n : Nat) (L : Nat → ByteArray) : RLf w (w.alloc (.cells (madeCells #[nul] n) 62)) n 0 (fun _ => 0) L :=
  ⟨World.rowIs.congr (World.rowIs_made w nul n 62) (fun i _ => by rw [if_neg (by omega)]), fun j hj => absurd hj (by omega), fun i j hi => absurd hi (by omega), (Chg.refl _ _).alloc _⟩
theorem RLf.step {w W W1 : World} {n k : Nat} {nb : Nat → Nat} {L : Nat → ByteArray} (h : RLf w W n k nb L) (hk : k < n) (c : Chg nob W W1) :
    RLf w ((W1.setCell ⟨w.heap.size, k, none⟩ (ptr W1.heap.size)).alloc (.cells #[.string (lf (L k)), nul, nul] 64)) n (k + 1) (fun j => if j = k then W1.heap.size else nb j) L := by
  have hrl : w.heap.size < W.heap.size := World.rowIs.lt h.row
  have hsz := c.size
  have r1 : Prow W1 w.heap.size n (fun j => if j < k then ptr (nb j) else nul) := h.row.chg c (fun x => x)
  refine ⟨World.rowIs.alloc (World.rowIs.congr (World.rowIs.set r1 k (ptr W1.heap.size)) (fun i _ => ?_)) _, fun j hj => ?_, fun i j hi' hj' he => ?_, ?_⟩
  · by_cases e : i = k
    · subst e; rw [if_pos rfl, if_pos (by omega), if_pos rfl]
    · rw [if_neg e, if_neg e]
      by_cases e' : i < k
      · rw [if_pos e', if_pos (by omega)]
      · rw [if_neg e', if_neg (by omega)]
  · by_cases e : j = k
    · subst e
      rw [if_pos rfl]
      have q := Nod.new (W1.setCell ⟨w.heap.size, j, none⟩ (ptr W1.heap.size)) (lf (L j))
      rw [show (W1.setCell ⟨w.heap.size, j, none⟩ (ptr W1.heap.size)).heap.size = W1.heap.size by simp] at q
      exact ⟨by omega, q⟩
    · rw [if_neg e]
      have q := h.new j (by omega)
      exact ⟨q.1, World.rowIs.alloc (World.rowIs.setOther (a := ⟨w.heap.size, k, none⟩) (q.2.keep c) (by show ¬ nb j = w.heap.size; omega) _) _⟩
  · by_cases ei : i = k
    · by_cases ej : j = k
      · omega
      · rw [if_pos ei, if_neg ej] at he
        have q := (h.new j (by omega)).2.lt
        omega
    · by_cases ej : j = k
      · rw [if_neg ei, if_pos ej] at he
        have q := (h.new i (by omega)).2.lt
        omega
      · rw [if_neg ei, if_neg ej] at he
        exact h.inj i j (by omega) (by omega) he
  · exact ((h.chg.trans c).setCell (p := ⟨w.heap.size, k, none⟩) (fun q => absurd q (by simp)) _).alloc _

/-- The rows of a tree of 2 to the d leaves up to row j, in memory from B on. -/
structure Tr (B : Nat) (W : World) (L : Nat → ByteArray) (d j : Nat) (hh : Nat → Nat) (nb : Nat → Nat → Nat) : Prop where
  row : ∀ l, l ≤ j → B ≤ hh l ∧ Prow W (hh l) (2 ^ (d - l)) (fun i => ptr (nb l i))
  low : ∀ l i, l ≤ j → i < 2 ^ (d - l) → B ≤ nb l i
  link : ∀ l i, l < j → i < 2 ^ (d - l) → Nod W (nb l i) (lev L l i) (ptr (nb l (sib i))) (ptr (nb (l + 1) (i / 2)))
  top : ∀ i, i < 2 ^ (d - j) → Nod W (nb j i) (lev L j i) nul nul
  inj : ∀ i i', i < 2 ^ (d - j) → i' < 2 ^ (d - j) → nb j i = nb j i' → i = i'
theorem Tr.chg {B : Nat} {P : Nat → Prop} {W W' : World} {L : Nat → ByteArray} {d j : Nat} {hh : Nat → Nat} {nb : Nat → Nat → Nat} (h : Tr B W L d j hh nb) (c : Chg P W W') (h1 : ∀ l, l ≤ j → ¬ P (hh l)) (h2 : ∀ l i, l ≤ j → i < 2 ^ (d - l) → ¬ P (nb l i)) : Tr B W' L d j hh nb :=
  ⟨fun l hl => ⟨(h.row l hl).1, (h.row l hl).2.chg c (h1 l hl)⟩, h.low, fun l i hl hi => (h.link l i hl hi).chg c (h2 l i (by omega) hi), fun i hi => (h.top i hi).chg c (h2 j i (Nat.le_refl _) hi), h.inj⟩
theorem Tr.keep {B : Nat} {W W' : World} {L : Nat → ByteArray} {d j : Nat} {hh : Nat → Nat} {nb : Nat → Nat → Nat} (h : Tr B W L d j hh nb) (c : Chg nob W W') : Tr B W' L d j hh nb := h.chg c (fun _ _ x => x) (fun _ _ _ _ x => x)
/-- Each place of a tree is a node. -/
theorem Tr.nod {B : Nat} {W : World} {L : Nat → ByteArray} {d j : Nat} {hh : Nat → Nat} {nb : Nat → Nat → Nat} (h : Tr B W L d j hh nb) {l i : Nat} (hl : l ≤ j) (hi : i < 2 ^ (d - l)) : ∃ s a, Nod W (nb l i) (lev L l i) s a := by
  by_cases e : l = j
  · subst e; exact ⟨_, _, h.top i hi⟩
  · exact ⟨_, _, h.link l i (by omega) hi⟩
theorem Tr.first {w W : World} {L : Nat → ByteArray} {d n : Nat} {nb : Nat → Nat} (h : RLf w W n n nb L) (hn : n = 2 ^ d) : Tr w.heap.size W L d 0 (fun _ => w.heap.size) (fun _ => nb) := by
  subst hn
  refine ⟨fun l hl => ⟨Nat.le_refl _, ?_⟩, fun l i hl hi => ?_, fun l i hl => absurd hl (by omega), fun i hi => (h.new i hi).2, fun i i' hi hi' e => h.inj i i' hi hi' e⟩
  · obtain rfl : l = 0 := by omega
    exact World.rowIs.congr h.row (fun i hi => if_pos hi)
  · obtain rfl : l = 0 := by omega
    have := (h.new i hi).1
    omega
/-- One row more. -/
theorem Tr.next {B : Nat} {W W' : World} {L : Nat → ByteArray} {d j r : Nat} {hh : Nat → Nat} {nb : Nat → Nat → Nat} {nb' : Nat → Nat} (h : Tr B W L d j hh nb) (hB : B ≤ W.heap.size) (hj : j < d) (hr : r = 2 ^ (d - (j + 1))) (k : RAb W W' r r (nb j) nb' (lev L j)) :
    Tr B W' L d (j + 1) (fun l => if l = j + 1 then W.heap.size else hh l) (fun l => if l = j + 1 then nb' else nb l) := by
  have hq : 2 ^ (d - j) = 2 * r := by rw [hr, show d - j = d - (j + 1) + 1 by omega, Nat.pow_succ]; omega
  refine ⟨fun l hl => ?_, fun l i hl hi => ?_, fun l i hl hi => ?_, fun i hi => ?_, fun i i' hi hi' e => ?_⟩
  · by_cases e : l = j + 1
    · subst e
      rw [if_pos rfl, if_pos rfl, ← hr]
      exact ⟨hB, World.rowIs.congr k.row (fun i hi => by rw [if_pos hi])⟩
    · rw [if_neg e, if_neg e]
      have q := h.row l (by omega)
      refine ⟨q.1, q.2.chg k.chg ?_⟩
      rintro ⟨i, hi, e'⟩
      exact (h.top i (by omega)).not_row q.2 e'.symm
  · by_cases e : l = j + 1
    · subst e
      rw [if_pos rfl]
      have := (k.new i (by rw [hr]; exact hi)).1
      omega
    · rw [if_neg e]
      exact h.low l i (by omega) hi
  · by_cases e : l = j
    · subst e
      rw [if_neg (by omega), if_pos rfl]
      exact k.old i (by omega)
    · rw [if_neg (by omega), if_neg (by omega)]
      refine (h.link l i (by omega) hi).chg k.chg ?_
      rintro ⟨i', hi', e'⟩
      exact (h.link l i (by omega) hi).apart (h.top i' (by omega)) e'
  · rw [if_pos rfl]
    exact (k.new i (by rw [hr]; exact hi)).2
  · rw [if_pos rfl] at e
    exact k.inj i i' (by rw [hr]; exact hi) (by rw [hr]; exact hi') e
/-- A row as a value. -/
def rsv (hh : Nat → Nat) (d j : Nat) : Value := .slice (some ⟨hh j, 0, none⟩) (2 ^ (d - j)) (2 ^ (d - j))
/-- The rows of a tree, in new memory. -/
def RwAns (w : World) (L : Nat → ByteArray) (d : Nat) (e : Ending) (w' : World) : Prop :=
  ∃ (g capo : Nat) (hh : Nat → Nat) (nb : Nat → Nat → Nat), e = .returned (.slice (some ⟨g, 0, none⟩) (d + 1) capo) ∧ (∀ j, j ≤ d → w'.cell? ⟨g, j, none⟩ = some (rsv hh d j)) ∧ Tr w.heap.size w' L d d hh nb ∧ Chg nob w w'

end Go.Proofs.YtnpmhfhgnnhclarDoor

namespace Go.Proofs.YtnpmhfhgnnhclarDoor
open Go.ChangeShapes Go.WideShapes Go.ChangeAt Go.RowKit
set_option linter.unusedVariables false
set_option maxRecDepth 100000
set_option linter.unusedSimpArgs false

theorem infoNr : (Tryd.prog.info? 65).map (fun i => (i.zero, i.size, i.bytes)) = some (some (.slice none 0 0), 1, 24) := by kernel_rfl
theorem owns_chg1 {P : Nat → Prop} {w w' : World} {B : Nat} {t : TypeId} {z g m cap : Nat} {n : Nat} {xs : List Value} (h : w.ownsRow B t z (.slice (some ⟨g, 0, none⟩) m cap) n xs) (k : Chg P w w') (hp : ¬ P g) : w'.ownsRow B t z (.slice (some ⟨g, 0, none⟩) m cap) n xs := by
  obtain ⟨hl, h⟩ := h
  refine ⟨hl, ?_⟩
  rcases h with h | ⟨g', cap', cur, e, hb, hc, r⟩
  · exact .inl h
  · have eg : g = g' := by simp at e; exact e.1
    subst eg
    exact .inr ⟨g, cap', cur, e, hb, (k.block g (Array.getElem?_eq_some_iff.1 hc).1 hp).trans hc, r⟩
/-- A block of another type is another one. -/
theorem owns_not {w : World} {B b : Nat} {t u : TypeId} {z g m cap : Nat} {n n' : Nat} {xs : List Value} {f : Nat → Value} (h : w.ownsRow B t z (.slice (some ⟨g, 0, none⟩) m cap) n xs) (k : w.rowIs b u n' f) (hne : ¬ t = u) : ¬ b = g := by
  rintro rfl
  obtain ⟨hl, h⟩ := h
  rcases h with ⟨h, _⟩ | ⟨g', cap', cur, e, hb, hc, r⟩
  · exact absurd h (by simp)
  · have eg : b = g' := by simp at e; exact e.1
    subst eg
    obtain ⟨c, hb', _⟩ := k
    rw [hc] at hb'
    simp at hb'
    exact hne hb'.2

set_option maxRecDepth 100000 in
set_option maxHeartbeats 4000000 in
theorem rowsOf_any (c : Option Addr) (n cap d : Nat) (L : Nat → ByteArray) (w : World) (h : Hid (RowV w c n (sb L))) (ht : Hid (Tabs w)) (hz : Hid (∀ i, i < n → (L i).size ≤ 65535)) (hd : d ≤ 8) (hnd : Hid (n = 2 ^ d)) :
    Calls Tryd.prog 53 #[.slice c n cap] w fun e w' => RwAns w L d e w' := by
  have hn256 : n ≤ 256 := by rw [hnd.out]; exact two_le d hd
  have hn1 : 1 ≤ n := by rw [hnd.out]; exact two_pos d
  obtain ⟨i0, hi0, hz0, hz1, hz2⟩ := info_parts infoNp
  have HI := hik hi0
  have HZ0 := hik hz0
  have HZ1 := hik hz1
  have hb : i0.bytes * n ≤ 281474976710656 := by rw [hz2]; omega
  clear hi0 hz0 hz1 hz2
  obtain ⟨i1, hj, hy0, hy1, hy2⟩ := info_parts infoNr
  have HJ := hik hj
  have HY0 := hik hy0
  have HY1 := hik hy1
  have HY2 := hik hy2
  clear hj hy0 hy1 hy2
  go_enter Tryd.func53, Tryd.ntmps53
  go_wp2_with (at_make; refine wpList_make_row _ rfl (.tmp 8) (.tmp 8) 65 rfl 62 i0 (.pointer none) Tryd.underlying65 HI.out HZ0.out HZ1.out rfl .i64 .i64 n rfl rfl hb (by omega) ?_)
  clear hb HI HZ0 HZ1
  go_loopw [12] (fun i W => ∃ (k : Nat) (nb : Nat → Nat), k ≤ n ∧ i = .int .i64 k ∧ Hid (RLf w W n k nb L)) (fun i _ => n - (intOf i).toNat)
  case atStart => exact ⟨0, fun _ => 0, Nat.zero_le _, rfl, hik (RLf.start w n L)⟩
  case round =>
    obtain ⟨k, nb, hk, rfl, HR⟩ := hrel
    by_cases hlt : k < n
    · obtain ⟨xb, xo, rfl, hxb, hcell⟩ := (h.out.keep HR.out.chg) k hlt
      have hx : _ = some (Value.string (L k)) := hcell
      clear hcell
      have hzk : ((L k).size : Int) ≤ 1099511627776 := by have := hz.out k hlt; omega
      go_wp2_with (first | (go_at_call 71; refine (leafText_any (L k) _ hzk).mono ?_; rintro e W1 ⟨rfl, hw⟩; subst hw) | (go_at_call 70; refine (hashOf_any (lfT (L k)) _ (hik (ht.out.keep HR.out.chg)) (by have := hz.out k hlt; rw [lfT_size]; omega)).mono ?_; rintro e W2 ⟨rfl, k2⟩; have HR2 := hik (RLf.step HR.out hlt k2); have z2 := World.rowIs.cell (rowIs_keep HR.out.row k2) hlt; have f2 := World.rowIs.frozen (rowIs_keep HR.out.row k2) k; have l2 := World.rowIs.lt (rowIs_keep HR.out.row k2); simp only [Nat.lt_irrefl, if_false] at z2; unfold nul at z2; clear k2))
      go_roundw
      case rel => exact ⟨k + 1, _, by omega, by go_num, HR2⟩
      case measure => simp [intOf]; omega
    · obtain rfl : k = n := by omega
      have T0 := hik (Tr.first HR.out hnd.out)
      have G0 := hik HR.out.chg
      clear HR
      have hs0 := G0.out.size
      go_wp2
      go_loopw [3, 6] (fun v3 v6 W => ∃ (j q g capo : Nat) (hh : Nat → Nat) (nb : Nat → Nat → Nat), j ≤ d ∧ v3 = .slice (some ⟨hh j, 0, none⟩) q q ∧ v6 = .slice (some ⟨g, 0, none⟩) (j + 1) capo ∧ Hid (q = 2 ^ (d - j)) ∧ Hid (W.ownsRow w.heap.size 65 1 (.slice (some ⟨g, 0, none⟩) (j + 1) capo) (j + 1) ((List.range (j + 1)).map (rsv hh d))) ∧ Hid (Tr w.heap.size W L d j hh nb) ∧ Hid (Chg nob w W)) (fun v3 _ _ => match v3 with | .slice _ q _ => q | _ => 0)
      case atStart =>
        refine ⟨0, k, wr.heap.size, 1, fun _ => w.heap.size, fun _ => nb, by omega, rfl, rfl, hik (by rw [hnd.out]; rfl), hik ?_, hik (T0.out.keep ((Chg.refl nob wr).alloc _)), hik (G0.out.alloc _)⟩
        have q := owns_one wr w.heap.size 65 (.slice (some ⟨w.heap.size, 0, none⟩) k k) hs0
        have e : (List.range (0 + 1)).map (rsv (fun _ => w.heap.size) d) = [.slice (some ⟨w.heap.size, 0, none⟩) k k] := by
          rw [hnd.out]; rfl
        rw [e]
        exact q
      case round =>
        clear T0 G0
        obtain ⟨j, q, g, capo, hh, nb, hj, rfl, rfl, HQ, HO, HT, HG⟩ := hrel
        have hsw := HG.out.size
        by_cases hjd : j < d
        · obtain ⟨r, hr⟩ : ∃ r, r = 2 ^ (d - (j + 1)) := ⟨_, rfl⟩
          have hqr : q = 2 * r := by rw [HQ.out, hr, show d - j = d - (j + 1) + 1 by omega, Nat.pow_succ]; omega
          have hr1 : 1 ≤ r := by rw [hr]; exact two_pos _
          have hr2 : r ≤ 256 := by rw [hr]; exact two_le _ (by omega)
          have hq1 : 1 < (q : Int) := by omega
          have HQR := hik hqr
          have HR2 := hik hr
          have PR : Hid (Prow wr (hh j) q (fun i => ptr (nb j i))) := hik (by rw [HQ.out]; exact (HT.out.row j (Nat.le_refl _)).2)
          have NR : Hid (∀ i, i < 2 * r → w.heap.size ≤ nb j i ∧ Nod wr (nb j i) (lev L j i) nul nul) := hik (fun i hi => ⟨HT.out.low j i (Nat.le_refl _) (by rw [← HQ.out, HQR.out]; exact hi), HT.out.top i (by rw [← HQ.out, HQR.out]; exact hi)⟩)
          have NI : Hid (∀ i i', i < 2 * r → i' < 2 * r → nb j i = nb j i' → i = i') := hik (fun i i' hi hi' => HT.out.inj i i' (by rw [← HQ.out, HQR.out]; exact hi) (by rw [← HQ.out, HQR.out]; exact hi'))
          clear hqr hr
          go_wp2_with fail
          refine (rowAbove_any (hh j) q q r (nb j) (lev L j) w _ ht HG PR NR NI (hik (lev_size L j)) hr2 HQR).mono ?_
          rintro e W1 ⟨nb', rfl, ra⟩
          have RA := hik ra
          clear ra
          have O4 := hik (owns_chg1 HO.out RA.out.chg (by
            rintro ⟨i, hi, e⟩
            exact owns_not HO.out (NR.out i hi).2 (by decide) e.symm))
          have T4 := hik (Tr.next HT.out hsw hjd HR2.out RA.out)
          have G4 := hik (HG.out.near RA.out.chg (fun b e => by obtain ⟨i, hi, e⟩ := e; rw [e]; exact (NR.out i hi).1))
          have hs4 := G4.out.size
          have hb4 := World.rowIs.lt RA.out.row
          clear HO HT HG PR NR NI RA
          go_wp2_with (at_builtin; refine wpList_append_lies _ rfl (.tmp 33) (.tmp 35) 41 rfl w.heap.size 65 i1 (.slice none 0 0) 1 24 Tryd.underlying41 HJ.out HY0.out HY1.out HY2.out rfl (by decide) _ (j + 1) _ rfl (O4.out.alloc _) ⟨W1.heap.size, 0, none⟩ 1 1 [.slice (some ⟨wr.heap.size, 0, none⟩) r r] rfl rfl ?c1 ?c2 (by decide) (by unfold maxLen; omega) (by omega) (by simp; omega) (W1.heap.size + 1) (by simp) ?_; (case c1 => (intro j' u hj'; match j', hj' with | 0, hj' => (simp at hj'; subst hj'; simp [Addr.add]) | j' + 1, hj' => (simp at hj'))); (case c2 => (intro u hu; simp at hu; subst hu; rfl)); intro g' cp' w1 hown hgr hat hlt'; have HOWN := hik hown; have HGR := hik hgr; have HAT := hik hat; clear hown hgr hat hlt')
          · have hgr : World.grownBy _ w1 (some g) := HGR.out
            have k1 : Chg (fun b => b = g) W1 w1 := (((Chg.refl (fun b => b = g) W1).alloc (.cells #[.slice (some ⟨wr.heap.size, 0, none⟩) r r] 65)).grown hgr (fun b e _ => by simpa using e.symm))
            obtain ⟨h2, hh2⟩ : ∃ h2 : Nat → Nat, h2 = fun l => if l = j + 1 then wr.heap.size else hh l := ⟨_, rfl⟩
            have e1 : h2 (j + 1) = wr.heap.size := by rw [hh2]; simp
            have HOW : Hid (w1.ownsRow w.heap.size 65 1 (.slice (some ⟨g', 0, none⟩) (j + 1 + 1) cp') (j + 1 + 1) ((List.range (j + 1 + 1)).map (rsv h2 d))) := hik (by
              have q := HOWN.out
              have e3 : (List.range (j + 1 + 1)).map (rsv h2 d) = (List.range (j + 1)).map (rsv hh d) ++ [.slice (some ⟨wr.heap.size, 0, none⟩) r r] := by
                rw [← snoc_map]
                congr 1
                · apply List.map_congr_left
                  intro i hi
                  have : i < j + 1 := by simpa using hi
                  unfold rsv
                  rw [hh2]
                  simp [show ¬ i = j + 1 by omega]
                · unfold rsv
                  rw [e1, ← HR2.out]
              rw [e3]
              exact q)
            have T5 := hik (T4.out.chg k1 (fun l hl => fun e => owns_not O4.out (T4.out.row l hl).2 (by decide) e) (fun l i hl hi => fun e => by
              obtain ⟨s, a, q⟩ := T4.out.nod hl hi
              exact owns_not O4.out q (by decide) e))
            rw [← hh2] at T5
            have G5 := hik (G4.out.near k1 (fun i e => by have := (O4.out.lt g rfl).1; omega))
            clear hgr k1 hh2 O4 T4 G4 HOWN HGR HAT
            go_roundw
            case rel => exact ⟨j + 1, r, g', cp', h2, _, by omega, by rw [e1], rfl, HR2, HOW, T5, G5⟩
            case measure => (have := HQR.out; simp; omega)
        · obtain rfl : j = d := by omega
          have hq : q = 1 := by rw [HQ.out]; simp
          have hq1 : ¬ 1 < (q : Int) := by omega
          have HQ1 := hik hq
          clear hq
          have HC : Hid (∀ i, i ≤ j → wr.cell? ⟨g, i, none⟩ = some (rsv hh j i)) := hik (fun i hi => by
            have := HO.out.cells rfl i (rsv hh j i) (by rw [List.getElem?_map, List.getElem?_range (by omega)]; rfl)
            rw [Go.WideShapes.add_plain, Nat.zero_add] at this
            exact this)
          go_wp2
          go_ret
          exact ⟨g, capo, hh, nb, rfl, HC.out, HT.out, HG.out⟩

end Go.Proofs.YtnpmhfhgnnhclarDoor
