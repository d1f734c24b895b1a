/- Several texts in one: Claims that are none: what the program's SumVerify answers, by codes; the prover's rounds have room: contracts. Conditions: right tables of one length that can be read, a right source with draws left. · Lists with one element bent: what FnSumLies hands to the answer. · Drawn tables of a kind of sums: right ones, in new memory. Conditions: a code that can be read; kinds 1 and 2, 0 to 3 variables. · The walk of the law FnSumLies. Conditions: two lists of bytes that can be read; the two tables lie. -/
import Derived.Test.YtgiefpipflcbgadGreatDoorBzaj
import Derived.Test.YtgiefpipflcbgadGreatDoorSumG
import Derived.Test.YtgiefpipflcbgadGreatDoorBzas
import Derived.Test.YtgiefpipflcbgadGreatDoorBzan
import Derived.Test.YtgiefpipflcbgadGreatDoorBzaf
import Derived.Test.YtgiefpipflcbgadGreatDoorSrcS
import Derived.Test.YtgiefpipflcbgadGreatDoorBzao
import Derived.Test.YtgiefpipflcbgadGreatDoorBzac
import Derived.Deep.DeepCutAuto
import Derived.Deep.AppendLies
namespace Go.Proofs.YtgiefpipflcbgadGreatDoor
open Go.ChangeShapes Go.WideShapes Go.ChangeAt Go.RowKit
set_option linter.unusedVariables false
set_option maxRecDepth 100000
set_option linter.unusedSimpArgs false

theorem exAd_nb (x : El) (d : Nat) (hd : d ≤ 100) (w : World) : Calls Tryz.prog 20 #[.agg #[.int .i64 x.v.1, .int .i64 x.v.2], .agg #[.int .i64 (d : Int), .int .i64 0]] w fun e w' => e = .returned (.tuple #[.agg #[.int .i64 (El.ad x (El.nb d)).v.1, .int .i64 (El.ad x (El.nb d)).v.2], .int .i64 0]) ∧ Chg nob w w' := by
  have q := extAdd_any x.v.1 x.v.2 (El.nb d).v.1 (El.nb d).v.2 w
  have e1 := eok_el x
  have e2 := eok_el (El.nb d)
  rw [show ebad x.v.1 x.v.2 (El.nb d).v.1 (El.nb d).v.2 = 0 by unfold ebad; rw [e1, e2]; rfl] at q
  unfold eb at q
  rw [e1, e2] at q
  simp only [Bool.and_self, if_true] at q
  rw [nbv8 (by omega), show (El.nb d).v.2 = 0 from rfl] at q
  have a1 : (El.ad x (El.nb d)).v.1 = (x.v.1 + (d : Int)) % 2130706433 := by
    rw [← nbv8 (k := d) (by omega)]; rfl
  have a2 : (El.ad x (El.nb d)).v.2 = (x.v.2 + 0) % 2130706433 := by
    rw [show (0 : Int) = (El.nb d).v.2 from rfl]; rfl
  rw [a1, a2]
  exact q

/-- A check's answer, by its code alone. -/
def VcAns (w : World) (q : Int) (e : Ending) (w' : World) : Prop :=
  ∃ (c1 : Option Addr) (n1 p1 : Nat) (y1 y2 : Int) (c2 : Option Addr) (n2 p2 : Nat) (a : Int) (s : ByteArray) (c : Int), e = .returned (.tuple #[.slice c1 n1 p1, .agg #[.int .i64 y1, .int .i64 y2], .agg #[.slice c2 n2 p2, .int .i64 a, .string s, .int .i64 c], .int .i64 q]) ∧ Chg nob w w'

section
variable {k v : Nat} {f g : Nat → Int} {len : Nat} {at' : Int} {st : ByteArray} {ct : Int} {t : Nat → Nat → El}

theorem verC_el (hk : k = 1 ∨ k = 2) (hok : sokb f g len at' st ct = true) (x : El) (m vars : Nat) (hm : m ≤ 4096) (U : Nat → Nat → El) (c : Option Addr) (cap : Nat) (A : Nat → Option Addr) (C : Nat → Nat) (cs : Option Addr) (caps : Nat) (w : World) (h : Hid (RowsV w c m A (fun _ => k + 2) C (fun i => cA (U i)) (fun i => cB (U i)))) (hs : Hid (PairV w cs len f g)) (ht : Hid (Tabs w)) :
    Calls Tryz.prog 14 #[.int .i64 (k : Int), .agg #[.int .i64 x.v.1, .int .i64 x.v.2], .slice c m cap, .int .i64 (vars : Int), .agg #[.slice cs len caps, .int .i64 at', .string st, .int .i64 ct]] w fun e w' => VcAns w (svc8 (k : Int) x.v.1 x.v.2 m (fun _ => k + 2) (fun i => cA (U i)) (fun i => cB (U i)) (vars : Int) f g len at' st ct) e w' := by
  obtain ⟨p1, p2, p3, p4, p5⟩ := sokb_parts hok
  refine (verX_any (k : Int) x.v.1 x.v.2 c m cap A (fun _ => k + 2) C _ _ (vars : Int) cs len caps f g at' st ct w h (hik (fun i _ => by show k + 2 ≤ _; omega)) (by omega) hs (by omega) (by omega) ht).mono (fun e w' ⟨cP, capP, cS, capS, he, _, _, _, kk⟩ => ⟨cP, _, capP, _, _, cS, _, capS, _, _, _, he, kk⟩)

theorem sVerC_el (hk : k = 1 ∨ k = 2) (hok : sokb f g len at' st ct = true) (x : El) (m vars : Nat) (hm : m ≤ 4096) (U : Nat → Nat → El) (c : Option Addr) (cap : Nat) (A : Nat → Option Addr) (C : Nat → Nat) (cs : Option Addr) (caps : Nat) (w : World) (h : Hid (RowsV w c m A (fun _ => k + 2) C (fun i => cA (U i)) (fun i => cB (U i)))) (hs : Hid (PairV w cs len f g)) :
    Calls Tryz.prog 21 #[.int .i64 (k : Int), .agg #[.int .i64 x.v.1, .int .i64 x.v.2], .slice c m cap, .int .i64 (vars : Int), .agg #[.slice cs len caps, .int .i64 at', .string st, .int .i64 ct]] w fun e w' => VcAns w (svc8 (k : Int) x.v.1 x.v.2 m (fun _ => k + 2) (fun i => cA (U i)) (fun i => cB (U i)) (vars : Int) f g len at' st ct) e w' := by
  obtain ⟨p1, p2, p3, p4, p5⟩ := sokb_parts hok
  refine (sVerX_any (k : Int) x.v.1 x.v.2 c m cap A (fun _ => k + 2) C _ _ (vars : Int) cs len caps f g at' st ct w h (hik (fun i _ => by show k + 2 ≤ _; omega)) (by omega) hs (by omega) (by omega)).mono (fun e w' ⟨cP, capP, cS, capS, he, _, _, kk⟩ => ⟨cP, _, capP, _, _, cS, _, capS, _, _, _, he, kk⟩)
/-- A claim that is another one is refused at once. -/
theorem svc_lie (hk : k = 1 ∨ k = 2) (hv : v ≤ 6) (hv1 : 1 ≤ v) (hok : sokb f g len at' st ct = true) (ha : at' ≤ 3) (hc : ct ≤ 3) (d : Nat) (h0 : 1 ≤ d) (h : d < 100) : svc8 (k : Int) (El.ad (sms k t (2 ^ v)) (El.nb d)).v.1 (El.ad (sms k t (2 ^ v)) (El.nb d)).v.2 v (fun _ => k + 2) (fun i => cA (prd k f g len v ⟨t, at', st, ct⟩ i)) (fun i => cB (prd k f g len v ⟨t, at', st, ct⟩ i)) (v : Int) f g len at' st ct = 10 := by
  rw [vcc_svc, if_pos (vcc_el hk hv hok ha hc _ _), Int.toNat_natCast, elFs, elP_el]
  exact vcd_lie hk hv1 (ad_lie _ h0 h) rfl
/-- One round too few. -/
theorem svc_few (hk : k = 1 ∨ k = 2) (hv : v ≤ 6) (hv1 : 1 ≤ v) (hok : sokb f g len at' st ct = true) (ha : at' ≤ 3) (hc : ct ≤ 3) (x : El) (G : Nat → Nat → El) : svc8 (k : Int) x.v.1 x.v.2 (v - 1) (fun _ => k + 2) (fun i => cA (G i)) (fun i => cB (G i)) (v : Int) f g len at' st ct = 18 := by
  have e : vcc (k : Int) x.v.1 x.v.2 (v - 1) (fun _ => k + 2) (fun i => cA (G i)) (fun i => cB (G i)) (v : Int) f g len at' st ct = 18 := by
    unfold vcc
    rw [if_neg (by omega), if_pos (eok_el x), if_pos (rkb_el (by omega) G _ _), if_pos hok, if_pos (show kdb (k : Int) = true from decide_eq_true (by omega)), if_neg (by omega), if_neg (by omega), if_neg (by unfold spb; simp; omega), if_neg (by omega)]
  rw [vcc_svc, if_neg (by rw [e]; decide), e]

theorem proveC_el (hk : k = 1 ∨ k = 2) (hv : v ≤ 6) (hok : sokb f g len at' st ct = true) (ha : at' ≤ 3) (hc : ct ≤ 3) (c : Option Addr) (cap : Nat) (cs : Option Addr) (caps : Nat) (w : World) (h : Hid (RowsE w c (2 * k) (2 ^ v) t)) (hs : Hid (PairV w cs len f g)) (ht : Hid (Tabs w)) :
    Calls Tryz.prog 10 #[.int .i64 (k : Int), .slice c (2 * k) cap, .agg #[.slice cs len caps, .int .i64 at', .string st, .int .i64 ct]] w fun e w' => PIAns w 0 v (k + 2) (2 * k) len (prd k f g len v ⟨t, at', st, ct⟩) (ppt k f g len v ⟨t, at', st, ct⟩) (pvl k f g len v ⟨t, at', st, ct⟩) f g (pst k f g len v ⟨t, at', st, ct⟩ v).a (pst k f g len v ⟨t, at', st, ct⟩ v).s (pst k f g len v ⟨t, at', st, ct⟩ v).c e w' ∧ rdCap e ∧ rdIn w' (k + 2) e := by
  obtain ⟨A, C, hV⟩ := RowsE.toV h.out
  have h64 := pow_le6 hv
  obtain ⟨p1, p2, p3, p4, p5⟩ := sokb_parts hok
  have h3 : spb at' ct 6 = false := by unfold spb; simp; omega
  exact prvU_any hk c (2 * k) v cap rfl hv A (fun _ => 2 ^ v) C (fun i => cA (t i)) (fun i => cB (t i)) (fun i => (pst k f g len v ⟨t, at', st, ct⟩ i).t) (prd k f g len v ⟨t, at', st, ct⟩) (ppt k f g len v ⟨t, at', st, ct⟩) (fun i => (pst k f g len v ⟨t, at', st, ct⟩ i).a) (fun i => (pst k f g len v ⟨t, at', st, ct⟩ i).s) (fun i => (pst k f g len v ⟨t, at', st, ct⟩ i).c) cs len caps f g w (hik hV) (hik (fun i _ => by show 2 ^ v ≤ _; omega)) (by omega) hs ht (hik (ac8_el hk hv t)) (hik rfl) (hik (elFs t).symm) hok h3
    (hik (fun i => pst_t k f g len v _ i)) (hik (fun i => rfl)) (hik (fun i => pst_s k f g len v _ i)) (hik (fun i => pst_aS k f g len v _ i)) (hik (fun i => pst_cS k f g len v _ i)) (hik (fun i => ppt_v p2 k v _ i)) (hik (fun i => pst_size p4 i))
    (hik (fun i hi => by
      have z : at' ≤ (pst k f g len v ⟨t, at', st, ct⟩ i).a ∧ (pst k f g len v ⟨t, at', st, ct⟩ i).a ≤ at' + i := pst_a (k := k) (f := f) (g := g) (len := len) (v := v) (p := ⟨t, at', st, ct⟩) i
      omega))
    (hik (fun i hi => by
      have z : 0 ≤ (pst k f g len v ⟨t, at', st, ct⟩ i).c ∧ (pst k f g len v ⟨t, at', st, ct⟩ i).c ≤ ct + i := pst_c (k := k) (f := f) (g := g) (len := len) (v := v) (p := ⟨t, at', st, ct⟩) p5.1 i
      omega))
end

end Go.Proofs.YtgiefpipflcbgadGreatDoor

namespace Go.Proofs.YtgiefpipflcbgadGreatDoor
open Go.ChangeShapes Go.WideShapes Go.ChangeAt Go.RowKit
set_option linter.unusedVariables false
set_option linter.unusedSimpArgs false

theorem own_cell {w : World} {B b n : Nat} {f g : Nat → Int} (h : OwnE w B (some ⟨b, 0, none⟩) n f g) {i : Nat} (hi : i < n * 2) : w.cell? ⟨b, i, none⟩ = some (pf f g i) := by
  rcases h with h0 | ⟨b', N, hh, e, _, hr, hN, he⟩
  · omega
  · cases e
    rw [World.rowIs.cell hr (by omega), he i hi]
/-- The first element of a list is another one. -/
def bentE (u : Nat → El) (x : El) (i : Nat) : El := if i = 0 then x else u i
theorem own_bent {w : World} {B g cap k : Nat} {u : Nat → El} {x : El} (h : w.ownsRow B 31 2 (.slice (some ⟨g, 0, none⟩) (1 + (k + 1)) cap) (1 + (k + 1)) ([.int .i64 x.v.1, .int .i64 x.v.2] ++ (List.range ((k + 1) * 2)).map (fun j => pf (cA u) (cB u) (j + 2)))) : OwnE w B (some ⟨g, 0, none⟩) (k + 2) (cA (bentE u x)) (cB (bentE u x)) := by
  have e : [.int .i64 x.v.1, .int .i64 x.v.2] ++ (List.range ((k + 1) * 2)).map (fun j => pf (cA u) (cB u) (j + 2)) = (List.range ((1 + (k + 1)) * 2)).map (pf (cA (bentE u x)) (cB (bentE u x))) := by
    rw [show (1 + (k + 1)) * 2 = (k + 1) * 2 + 1 + 1 by omega, List.range_succ_eq_map, List.map_cons, List.range_succ_eq_map, List.map_cons, List.map_cons, List.map_map, List.map_map]
    show _ = _ :: _ :: _
    refine congrArg (fun l => [Value.int .i64 x.v.1, Value.int .i64 x.v.2] ++ l) (List.map_congr_left (fun j _ => ?_))
    show pf (cA u) (cB u) (j + 2) = pf (cA (bentE u x)) (cB (bentE u x)) (j + 1 + 1)
    unfold pf cA cB bentE
    rw [if_neg (show ¬ (j + 1 + 1) / 2 = 0 by omega)]
  rw [e] at h
  obtain ⟨c, cap', ec, _, ho⟩ := OwnE.of_owns h
  cases ec
  rw [show 1 + (k + 1) = k + 2 by omega] at ho
  exact ho
theorem OwnE.farS {W W' : World} {B B' X : Nat} {c : Option Addr} {n : Nat} {f g : Nat → Int} {v : Value} {m : Nat} {xs : List Value} (h : OwnE W B c n f g) (o : W.ownsRow B' 26 1 v m xs) (e : v.ownBlock = some X) (k : Chg (fun b => b = X) W W') : OwnE W' B c n f g := by
  rcases h with h0 | ⟨b, N, hh, ec, hb, hr, q⟩
  · exact .inl h0
  · have hne : ¬ b = X := fun e2 => by
      subst e2
      exact absurd (owns_kind o e hr) (by decide)
    exact OwnE.chg (.inr ⟨b, N, hh, ec, hb, hr, q⟩) k (fun b' _ ec' e2 => hne (by rw [ec] at ec'; cases ec'; exact e2))
theorem rows_bent {W : World} {B B2 B3 rb ro g7 cp7 g8 cp8 v m : Nat} {H Cr : Nat → Nat} {G : Nat → Nat → El} {x : El} (o7 : W.ownsRow B 26 1 (.slice (some ⟨g7, 0, none⟩) v cp7) v ((List.range v).map (fun j => Value.slice (some ⟨H j, 0, none⟩) m (Cr j)))) (hR : OwnSS W B2 (some ⟨rb, ro, none⟩) v m H Cr (fun i => cA (G i)) (fun i => cB (G i))) (h8 : OwnE W B3 (some ⟨g8, 0, none⟩) m (cA (bentE (G 0) x)) (cB (bentE (G 0) x))) (hH : ∀ i, i < v → H i ≠ g7) (h78 : g8 ≠ g7) (hv : 1 ≤ v) :
    RowsV (W.setCell ⟨g7, 0, none⟩ (.slice (some ⟨g8, 0, none⟩) m cp8)) (some ⟨g7, 0, none⟩) v (fun i => if i = 0 then some ⟨g8, 0, none⟩ else some ⟨H i, 0, none⟩) (fun _ => m) (fun i => if i = 0 then cp8 else Cr i) (fun i => cA (if i = 0 then bentE (G 0) x else G i)) (fun i => cB (if i = 0 then bentE (G 0) x else G i)) := by
  have k : Chg (fun b => b = g7) W (W.setCell ⟨g7, 0, none⟩ (.slice (some ⟨g8, 0, none⟩) m cp8)) := Chg.setCell (P := fun b => b = g7) (Chg.refl _ W) (p := ⟨g7, 0, none⟩) (fun _ => rfl) _
  have hl := (o7.lt g7 rfl).2
  intro i hi
  have hc := o7.cells (g := g7) rfl i (.slice (some ⟨H i, 0, none⟩) m (Cr i)) (by rw [List.getElem?_map, List.getElem?_range hi]; rfl)
  rw [Go.WideShapes.add_plain, Nat.zero_add] at hc
  refine ⟨g7, 0, rfl, Nat.lt_of_lt_of_le hl k.size, ?_, ?_⟩
  · by_cases q : i = 0
    · subst q
      exact World.cell?_setCell_same _ _ _ hc
    · simp only [if_neg q, Nat.zero_add]
      rw [World.cell?_setCell_other _ _ _ _ (show (⟨g7, 0, none⟩ : Addr) ≠ ⟨g7, i, none⟩ from fun e => q (by injection e with _ e2; exact e2.symm))]
      exact hc
  · by_cases q : i = 0
    · simp only [q, if_true]
      exact OwnE.pairs (h8.chg k (fun b _ ec e => h78 (by cases ec; exact e)))
    · simp only [q, if_false]
      exact OwnE.pairs ((hR.inn i hi).chg k (fun b _ ec e => hH i hi (by cases ec; exact e)))

end Go.Proofs.YtgiefpipflcbgadGreatDoor

namespace Go.Proofs.YtgiefpipflcbgadGreatDoor
open Go.ChangeShapes Go.WideShapes Go.ChangeAt Go.RowKit
set_option linter.unusedVariables false
set_option maxRecDepth 100000
set_option linter.unusedSimpArgs false

/-- Drawn tables, in memory of their own. -/
def DrawnTs (n m N b : Nat) (w : World) (e : Ending) (w' : World) : Prop :=
  ∃ (t : Nat → Nat → El) (c0 : Option Addr) (cap0 : Nat), e = .returned (.slice c0 m cap0) ∧ RowsQ (fun x => w.heap.size ≤ x ∧ x < w'.heap.size) w' c0 m N t ∧ Src n w' b ∧ Chg (fun k => k = b) w w'
theorem own_row9 {w : World} {B n : Nat} {c : Option Addr} {f g : Nat → Int} (ho : OwnE w B c n f g) (hn : 1 ≤ n) : ∃ b M h, c = some ⟨b, 0, none⟩ ∧ B ≤ b ∧ w.rowIs b 31 M h := by
  rcases ho with rfl | ⟨b, N, h, ec, hb, hr, _, _⟩
  · omega
  · exact ⟨b, N, h, ec, hb, hr⟩
/-- Lists, one more. -/
def exT (t : Nat → Nat → El) (k : Nat) (x : Nat → El) (i : Nat) : Nat → El := if i = k then x else t i
theorem exT_at (t : Nat → Nat → El) (k : Nat) (x : Nat → El) : exT t k x k = x := if_pos rfl
theorem TbsO.congr {W : World} {B g j H : Nat} {A : Nat → Option Addr} {u u' : Nat → Nat → El} (h : TbsO W B g j H A u) (e : ∀ i, i < j → u i = u' i) : TbsO W B g j H A u' := by
  intro i hi
  obtain ⟨b, r⟩ := h i hi
  rw [e i hi] at r
  exact ⟨b, r⟩

set_option maxHeartbeats 4000000 in
theorem tables0_any {k : Nat} (hk : k = 1 ∨ k = 2) (n b : Nat) (w : World) (h : Src n w b) (hn : n ≤ 999999900000) :
    Calls Tryz.prog 23 #[.pointer (some ⟨b, 0, none⟩), .int .i64 (k : Int), .int .i64 0] w fun e w' => DrawnTs (n + 39 * 1 * (2 * k)) (2 * k) 1 b w e w' := by
  obtain ⟨i1, hi, hz0, hz1, hz2⟩ := info_parts infoRow
  have HI := hik hi
  have HZ0 := hik hz0
  have HZ1 := hik hz1
  have HZ2 := hik hz2
  have hb := h.lt
  have H := hik (h.keep ((Chg.refl nob w).alloc (.cells #[] 26)))
  obtain ⟨d, hd⟩ : ∃ d, d = 2 * k := ⟨_, rfl⟩
  have hd4 : d ≤ 4 := by rcases hk with rfl | rfl <;> omega
  have QD := hik (fun (w : World) => sTbl_any (k : Int) (d : Int) (by rw [IntKind.wrap_i64]; omega) w)
  rw [← hd]
  clear hi hz0 hz1 hz2 h hd hk
  go_enter Tryz.func23, Tryz.ntmps23
  go_wp2_with fail
  go_loopw [7, 8] (fun u i W => ∃ (j : Nat) (A : Nat → Option Addr) (Cc : Nat → Nat) (t : Nat → Nat → El) (g cp : Nat), j ≤ d ∧ i = .int .i64 (j : Int) ∧ u = .slice (some ⟨g, 0, none⟩) j cp ∧ Hid (W.ownsRow w.heap.size 26 1 (.slice (some ⟨g, 0, none⟩) j cp) j ((List.range j).map (fun i => Value.slice (A i) 1 (Cc i)))) ∧ Hid (TbsO W w.heap.size g j 1 A t) ∧ Hid (Src (n + 39 * 1 * j) W b) ∧ Hid (Chg (fun i => i = b) w W)) (fun _ i _ => d - (intOf i).toNat)
  case atStart => exact ⟨0, fun _ => none, fun _ => 0, fun _ _ => El.zr, w.heap.size, 0, Nat.zero_le _, rfl, rfl, hik (flNone w w.heap.size 26 1 (Nat.le_refl _)), hik (fun i hi => absurd hi (by omega)), H, hik ((Chg.refl _ _).alloc _)⟩
  case round =>
    obtain ⟨j, A, Cc, t, g, cp, hj, rfl, rfl, HW, HT, HS, HC⟩ := hrel
    rename World => wi
    by_cases hlt : j < d
    · have hj1 : (j : Int) < (d : Int) := by omega
      go_wp2_with fail
      refine (QD.out _).mono ?_
      rintro e W1 ⟨rfl, hw⟩
      have hw' := hw.symm
      clear hw
      subst hw'
      have hsz := HC.out.size
      have hgl := hik (HW.out.lt g rfl)
      go_wp2_with fail
      refine (exts_any 1 (n + 39 * 1 * j) b _ HS.out (by omega) (by omega)).mono ?_
      rintro e W2 ⟨f, g9, c6, cap6, he, ho6, hok, hS1, hB1⟩
      have he' : e = .returned (.slice c6 1 cap6) := he
      clear he
      subst he'
      obtain ⟨b6, M6, hh6, e6, hb6, r6⟩ := own_row9 ho6 (by omega)
      subst e6
      have P6 := hik (show PairE W2 (some ⟨b6, 0, none⟩) 1 (elF f g9) from PairE.of (OwnE.pairs ho6) hok)
      have hl6 : b6 < W2.heap.size := r6.lt
      have hbg : b6 ≠ g := by have := hgl.out.2; omega
      have hbB : w.heap.size ≤ b6 := by omega
      replace HW := hik (owns_src HW.out hb hB1)
      replace HT := hik (HT.out.chg hB1 (fun i x hi ex e => by
        obtain ⟨y, ey, hy, _⟩ := HT.out i hi
        rw [ex] at ey
        cases ey
        omega))
      replace HC := hik (HC.out.trans hB1)
      have HS2 := hik hS1
      have hs2 := HC.out.size
      clear ho6 r6 hb6 hok hS1 hB1 HS
      go_wp2_with (at_builtin; refine wpList_append_lies _ ?g0 (.tmp 16) (.tmp 22) 24 ?g1 w.heap.size 26 i1 (.slice none 0 0) 1 24 Tryz.underlying24 HI.out HZ0.out HZ1.out HZ2.out rfl (by decide) (.slice (some ⟨g, 0, none⟩) j cp) j _ ?b1 (HW.out.alloc _) ⟨_, 0, none⟩ 1 1 [.slice (some ⟨b6, 0, none⟩) 1 cap6] ?b3 ?b4 (rwNews _ _ _) (rwOne _ _ _) (by decide) ?b7 ?b8 ?b9 _ rfl ?b10)
      case g0 => rfl
      case g1 => rfl
      case b1 => rfl
      case b3 => rfl
      case b4 => rfl
      case b7 => unfold maxLen; omega
      case b8 => omega
      case b9 => simp; omega
      case b10 =>
        intro g7 cp7 w7 o7 hg7 hat7 hlt7
        have hat7' := hik (show g = g7 ∨ g7 = (W2.alloc (.cells #[.slice (some ⟨b6, 0, none⟩) 1 cap6] 26)).heap.size from by
          rcases hat7 with q | q
          · exact .inl (by simpa [Value.ownBlock] using q)
          · exact .inr (by simpa using q))
        have C7 := hik (((Chg.refl (fun x => x = g) W2).alloc (.cells #[.slice (some ⟨b6, 0, none⟩) 1 cap6] 26)).trans ((Chg.refl (fun x => x = g) (W2.alloc (.cells #[.slice (some ⟨b6, 0, none⟩) 1 cap6] 26))).grown hg7 (fun x e _ => by have q : some g = some x := e; cases q; rfl)))
        have HT2 := hik (TbsO.grown ((TbsO.ext (HT.out.congr (u' := exT t j (elF f g9)) (fun i hi => by unfold exT; rw [if_neg (by omega)])) hbB hbg hl6 (by rw [exT_at]; exact P6.out)).keep ((Chg.refl nob _).alloc (.cells #[.slice (some ⟨b6, 0, none⟩) 1 cap6] 26))) hg7 hat7'.out)
        have HO : Hid (w7.ownsRow w.heap.size 26 1 (.slice (some ⟨g7, 0, none⟩) (j + 1) cp7) (j + 1) ((List.range (j + 1)).map (fun i => Value.slice ((fun i => if i = j then some ⟨b6, 0, none⟩ else A i) i) 1 ((fun i => if i = j then cap6 else Cc i) i)))) := hik (by rw [← rwExt]; exact o7)
        have HS7 : Hid (Src (n + 39 * 1 * j + 39 * 1) w7 b) := hik (HS2.out.chg C7.out (fun x e => by have := hgl.out.1; omega))
        have HC7 := hik ((HC.out.alloc _).grown hg7 (fun x e l => absurd (HW.out.lt x e).1 (by omega)))
        clear o7 hg7 hat7 hlt7 C7 HW HT HC HS2
        go_wp2
        go_roundw
        case rel => exact ⟨j + 1, _, _, _, g7, cp7, by omega, by go_num, rfl, HO, HT2, hik (HS7.out.mono (by omega)), HC7⟩
        case measure => simp [intOf]; omega
    · obtain rfl : d = j := by omega
      have hcc : ¬ (d : Int) < (d : Int) := by omega
      go_wp2_with fail
      refine (QD.out _).mono ?_
      rintro e W1 ⟨rfl, hw⟩
      have hw' := hw.symm
      clear hw
      subst hw'
      go_wp2
      go_ret
      exact ⟨t, _, cp, rfl, RowsQ.of_owns HW.out HT.out, HS.out, HC.out⟩

set_option maxHeartbeats 4000000 in
theorem tables1_any {k : Nat} (hk : k = 1 ∨ k = 2) (n b : Nat) (w : World) (h : Src n w b) (hn : n ≤ 999999900000) :
    Calls Tryz.prog 23 #[.pointer (some ⟨b, 0, none⟩), .int .i64 (k : Int), .int .i64 1] w fun e w' => DrawnTs (n + 39 * 2 * (2 * k)) (2 * k) 2 b w e w' := by
  obtain ⟨i1, hi, hz0, hz1, hz2⟩ := info_parts infoRow
  have HI := hik hi
  have HZ0 := hik hz0
  have HZ1 := hik hz1
  have HZ2 := hik hz2
  have hb := h.lt
  have H := hik (h.keep ((Chg.refl nob w).alloc (.cells #[] 26)))
  obtain ⟨d, hd⟩ : ∃ d, d = 2 * k := ⟨_, rfl⟩
  have hd4 : d ≤ 4 := by rcases hk with rfl | rfl <;> omega
  have QD := hik (fun (w : World) => sTbl_any (k : Int) (d : Int) (by rw [IntKind.wrap_i64]; omega) w)
  rw [← hd]
  clear hi hz0 hz1 hz2 h hd hk
  go_enter Tryz.func23, Tryz.ntmps23
  go_wp2_with fail
  go_loopw [7, 8] (fun u i W => ∃ (j : Nat) (A : Nat → Option Addr) (Cc : Nat → Nat) (t : Nat → Nat → El) (g cp : Nat), j ≤ d ∧ i = .int .i64 (j : Int) ∧ u = .slice (some ⟨g, 0, none⟩) j cp ∧ Hid (W.ownsRow w.heap.size 26 1 (.slice (some ⟨g, 0, none⟩) j cp) j ((List.range j).map (fun i => Value.slice (A i) 2 (Cc i)))) ∧ Hid (TbsO W w.heap.size g j 2 A t) ∧ Hid (Src (n + 39 * 2 * j) W b) ∧ Hid (Chg (fun i => i = b) w W)) (fun _ i _ => d - (intOf i).toNat)
  case atStart => exact ⟨0, fun _ => none, fun _ => 0, fun _ _ => El.zr, w.heap.size, 0, Nat.zero_le _, rfl, rfl, hik (flNone w w.heap.size 26 1 (Nat.le_refl _)), hik (fun i hi => absurd hi (by omega)), H, hik ((Chg.refl _ _).alloc _)⟩
  case round =>
    obtain ⟨j, A, Cc, t, g, cp, hj, rfl, rfl, HW, HT, HS, HC⟩ := hrel
    rename World => wi
    by_cases hlt : j < d
    · have hj1 : (j : Int) < (d : Int) := by omega
      go_wp2_with fail
      refine (QD.out _).mono ?_
      rintro e W1 ⟨rfl, hw⟩
      have hw' := hw.symm
      clear hw
      subst hw'
      have hsz := HC.out.size
      have hgl := hik (HW.out.lt g rfl)
      go_wp2_with fail
      refine (exts_any 2 (n + 39 * 2 * j) b _ HS.out (by omega) (by omega)).mono ?_
      rintro e W2 ⟨f, g9, c6, cap6, he, ho6, hok, hS1, hB1⟩
      have he' : e = .returned (.slice c6 2 cap6) := he
      clear he
      subst he'
      obtain ⟨b6, M6, hh6, e6, hb6, r6⟩ := own_row9 ho6 (by omega)
      subst e6
      have P6 := hik (show PairE W2 (some ⟨b6, 0, none⟩) 2 (elF f g9) from PairE.of (OwnE.pairs ho6) hok)
      have hl6 : b6 < W2.heap.size := r6.lt
      have hbg : b6 ≠ g := by have := hgl.out.2; omega
      have hbB : w.heap.size ≤ b6 := by omega
      replace HW := hik (owns_src HW.out hb hB1)
      replace HT := hik (HT.out.chg hB1 (fun i x hi ex e => by
        obtain ⟨y, ey, hy, _⟩ := HT.out i hi
        rw [ex] at ey
        cases ey
        omega))
      replace HC := hik (HC.out.trans hB1)
      have HS2 := hik hS1
      have hs2 := HC.out.size
      clear ho6 r6 hb6 hok hS1 hB1 HS
      go_wp2_with (at_builtin; refine wpList_append_lies _ ?g0 (.tmp 16) (.tmp 22) 24 ?g1 w.heap.size 26 i1 (.slice none 0 0) 1 24 Tryz.underlying24 HI.out HZ0.out HZ1.out HZ2.out rfl (by decide) (.slice (some ⟨g, 0, none⟩) j cp) j _ ?b1 (HW.out.alloc _) ⟨_, 0, none⟩ 1 1 [.slice (some ⟨b6, 0, none⟩) 2 cap6] ?b3 ?b4 (rwNews _ _ _) (rwOne _ _ _) (by decide) ?b7 ?b8 ?b9 _ rfl ?b10)
      case g0 => rfl
      case g1 => rfl
      case b1 => rfl
      case b3 => rfl
      case b4 => rfl
      case b7 => unfold maxLen; omega
      case b8 => omega
      case b9 => simp; omega
      case b10 =>
        intro g7 cp7 w7 o7 hg7 hat7 hlt7
        have hat7' := hik (show g = g7 ∨ g7 = (W2.alloc (.cells #[.slice (some ⟨b6, 0, none⟩) 2 cap6] 26)).heap.size from by
          rcases hat7 with q | q
          · exact .inl (by simpa [Value.ownBlock] using q)
          · exact .inr (by simpa using q))
        have C7 := hik (((Chg.refl (fun x => x = g) W2).alloc (.cells #[.slice (some ⟨b6, 0, none⟩) 2 cap6] 26)).trans ((Chg.refl (fun x => x = g) (W2.alloc (.cells #[.slice (some ⟨b6, 0, none⟩) 2 cap6] 26))).grown hg7 (fun x e _ => by have q : some g = some x := e; cases q; rfl)))
        have HT2 := hik (TbsO.grown ((TbsO.ext (HT.out.congr (u' := exT t j (elF f g9)) (fun i hi => by unfold exT; rw [if_neg (by omega)])) hbB hbg hl6 (by rw [exT_at]; exact P6.out)).keep ((Chg.refl nob _).alloc (.cells #[.slice (some ⟨b6, 0, none⟩) 2 cap6] 26))) hg7 hat7'.out)
        have HO : Hid (w7.ownsRow w.heap.size 26 1 (.slice (some ⟨g7, 0, none⟩) (j + 1) cp7) (j + 1) ((List.range (j + 1)).map (fun i => Value.slice ((fun i => if i = j then some ⟨b6, 0, none⟩ else A i) i) 2 ((fun i => if i = j then cap6 else Cc i) i)))) := hik (by rw [← rwExt]; exact o7)
        have HS7 : Hid (Src (n + 39 * 2 * j + 39 * 2) w7 b) := hik (HS2.out.chg C7.out (fun x e => by have := hgl.out.1; omega))
        have HC7 := hik ((HC.out.alloc _).grown hg7 (fun x e l => absurd (HW.out.lt x e).1 (by omega)))
        clear o7 hg7 hat7 hlt7 C7 HW HT HC HS2
        go_wp2
        go_roundw
        case rel => exact ⟨j + 1, _, _, _, g7, cp7, by omega, by go_num, rfl, HO, HT2, hik (HS7.out.mono (by omega)), HC7⟩
        case measure => simp [intOf]; omega
    · obtain rfl : d = j := by omega
      have hcc : ¬ (d : Int) < (d : Int) := by omega
      go_wp2_with fail
      refine (QD.out _).mono ?_
      rintro e W1 ⟨rfl, hw⟩
      have hw' := hw.symm
      clear hw
      subst hw'
      go_wp2
      go_ret
      exact ⟨t, _, cp, rfl, RowsQ.of_owns HW.out HT.out, HS.out, HC.out⟩

set_option maxHeartbeats 4000000 in
theorem tables2_any {k : Nat} (hk : k = 1 ∨ k = 2) (n b : Nat) (w : World) (h : Src n w b) (hn : n ≤ 999999900000) :
    Calls Tryz.prog 23 #[.pointer (some ⟨b, 0, none⟩), .int .i64 (k : Int), .int .i64 2] w fun e w' => DrawnTs (n + 39 * 4 * (2 * k)) (2 * k) 4 b w e w' := by
  obtain ⟨i1, hi, hz0, hz1, hz2⟩ := info_parts infoRow
  have HI := hik hi
  have HZ0 := hik hz0
  have HZ1 := hik hz1
  have HZ2 := hik hz2
  have hb := h.lt
  have H := hik (h.keep ((Chg.refl nob w).alloc (.cells #[] 26)))
  obtain ⟨d, hd⟩ : ∃ d, d = 2 * k := ⟨_, rfl⟩
  have hd4 : d ≤ 4 := by rcases hk with rfl | rfl <;> omega
  have QD := hik (fun (w : World) => sTbl_any (k : Int) (d : Int) (by rw [IntKind.wrap_i64]; omega) w)
  rw [← hd]
  clear hi hz0 hz1 hz2 h hd hk
  go_enter Tryz.func23, Tryz.ntmps23
  go_wp2_with fail
  go_loopw [7, 8] (fun u i W => ∃ (j : Nat) (A : Nat → Option Addr) (Cc : Nat → Nat) (t : Nat → Nat → El) (g cp : Nat), j ≤ d ∧ i = .int .i64 (j : Int) ∧ u = .slice (some ⟨g, 0, none⟩) j cp ∧ Hid (W.ownsRow w.heap.size 26 1 (.slice (some ⟨g, 0, none⟩) j cp) j ((List.range j).map (fun i => Value.slice (A i) 4 (Cc i)))) ∧ Hid (TbsO W w.heap.size g j 4 A t) ∧ Hid (Src (n + 39 * 4 * j) W b) ∧ Hid (Chg (fun i => i = b) w W)) (fun _ i _ => d - (intOf i).toNat)
  case atStart => exact ⟨0, fun _ => none, fun _ => 0, fun _ _ => El.zr, w.heap.size, 0, Nat.zero_le _, rfl, rfl, hik (flNone w w.heap.size 26 1 (Nat.le_refl _)), hik (fun i hi => absurd hi (by omega)), H, hik ((Chg.refl _ _).alloc _)⟩
  case round =>
    obtain ⟨j, A, Cc, t, g, cp, hj, rfl, rfl, HW, HT, HS, HC⟩ := hrel
    rename World => wi
    by_cases hlt : j < d
    · have hj1 : (j : Int) < (d : Int) := by omega
      go_wp2_with fail
      refine (QD.out _).mono ?_
      rintro e W1 ⟨rfl, hw⟩
      have hw' := hw.symm
      clear hw
      subst hw'
      have hsz := HC.out.size
      have hgl := hik (HW.out.lt g rfl)
      go_wp2_with fail
      refine (exts_any 4 (n + 39 * 4 * j) b _ HS.out (by omega) (by omega)).mono ?_
      rintro e W2 ⟨f, g9, c6, cap6, he, ho6, hok, hS1, hB1⟩
      have he' : e = .returned (.slice c6 4 cap6) := he
      clear he
      subst he'
      obtain ⟨b6, M6, hh6, e6, hb6, r6⟩ := own_row9 ho6 (by omega)
      subst e6
      have P6 := hik (show PairE W2 (some ⟨b6, 0, none⟩) 4 (elF f g9) from PairE.of (OwnE.pairs ho6) hok)
      have hl6 : b6 < W2.heap.size := r6.lt
      have hbg : b6 ≠ g := by have := hgl.out.2; omega
      have hbB : w.heap.size ≤ b6 := by omega
      replace HW := hik (owns_src HW.out hb hB1)
      replace HT := hik (HT.out.chg hB1 (fun i x hi ex e => by
        obtain ⟨y, ey, hy, _⟩ := HT.out i hi
        rw [ex] at ey
        cases ey
        omega))
      replace HC := hik (HC.out.trans hB1)
      have HS2 := hik hS1
      have hs2 := HC.out.size
      clear ho6 r6 hb6 hok hS1 hB1 HS
      go_wp2_with (at_builtin; refine wpList_append_lies _ ?g0 (.tmp 16) (.tmp 22) 24 ?g1 w.heap.size 26 i1 (.slice none 0 0) 1 24 Tryz.underlying24 HI.out HZ0.out HZ1.out HZ2.out rfl (by decide) (.slice (some ⟨g, 0, none⟩) j cp) j _ ?b1 (HW.out.alloc _) ⟨_, 0, none⟩ 1 1 [.slice (some ⟨b6, 0, none⟩) 4 cap6] ?b3 ?b4 (rwNews _ _ _) (rwOne _ _ _) (by decide) ?b7 ?b8 ?b9 _ rfl ?b10)
      case g0 => rfl
      case g1 => rfl
      case b1 => rfl
      case b3 => rfl
      case b4 => rfl
      case b7 => unfold maxLen; omega
      case b8 => omega
      case b9 => simp; omega
      case b10 =>
        intro g7 cp7 w7 o7 hg7 hat7 hlt7
        have hat7' := hik (show g = g7 ∨ g7 = (W2.alloc (.cells #[.slice (some ⟨b6, 0, none⟩) 4 cap6] 26)).heap.size from by
          rcases hat7 with q | q
          · exact .inl (by simpa [Value.ownBlock] using q)
          · exact .inr (by simpa using q))
        have C7 := hik (((Chg.refl (fun x => x = g) W2).alloc (.cells #[.slice (some ⟨b6, 0, none⟩) 4 cap6] 26)).trans ((Chg.refl (fun x => x = g) (W2.alloc (.cells #[.slice (some ⟨b6, 0, none⟩) 4 cap6] 26))).grown hg7 (fun x e _ => by have q : some g = some x := e; cases q; rfl)))
        have HT2 := hik (TbsO.grown ((TbsO.ext (HT.out.congr (u' := exT t j (elF f g9)) (fun i hi => by unfold exT; rw [if_neg (by omega)])) hbB hbg hl6 (by rw [exT_at]; exact P6.out)).keep ((Chg.refl nob _).alloc (.cells #[.slice (some ⟨b6, 0, none⟩) 4 cap6] 26))) hg7 hat7'.out)
        have HO : Hid (w7.ownsRow w.heap.size 26 1 (.slice (some ⟨g7, 0, none⟩) (j + 1) cp7) (j + 1) ((List.range (j + 1)).map (fun i => Value.slice ((fun i => if i = j then some ⟨b6, 0, none⟩ else A i) i) 4 ((fun i => if i = j then cap6 else Cc i) i)))) := hik (by rw [← rwExt]; exact o7)
        have HS7 : Hid (Src (n + 39 * 4 * j + 39 * 4) w7 b) := hik (HS2.out.chg C7.out (fun x e => by have := hgl.out.1; omega))
        have HC7 := hik ((HC.out.alloc _).grown hg7 (fun x e l => absurd (HW.out.lt x e).1 (by omega)))
        clear o7 hg7 hat7 hlt7 C7 HW HT HC HS2
        go_wp2
        go_roundw
        case rel => exact ⟨j + 1, _, _, _, g7, cp7, by omega, by go_num, rfl, HO, HT2, hik (HS7.out.mono (by omega)), HC7⟩
        case measure => simp [intOf]; omega
    · obtain rfl : d = j := by omega
      have hcc : ¬ (d : Int) < (d : Int) := by omega
      go_wp2_with fail
      refine (QD.out _).mono ?_
      rintro e W1 ⟨rfl, hw⟩
      have hw' := hw.symm
      clear hw
      subst hw'
      go_wp2
      go_ret
      exact ⟨t, _, cp, rfl, RowsQ.of_owns HW.out HT.out, HS.out, HC.out⟩

set_option maxHeartbeats 4000000 in
theorem tables3_any {k : Nat} (hk : k = 1 ∨ k = 2) (n b : Nat) (w : World) (h : Src n w b) (hn : n ≤ 999999900000) :
    Calls Tryz.prog 23 #[.pointer (some ⟨b, 0, none⟩), .int .i64 (k : Int), .int .i64 3] w fun e w' => DrawnTs (n + 39 * 8 * (2 * k)) (2 * k) 8 b w e w' := by
  obtain ⟨i1, hi, hz0, hz1, hz2⟩ := info_parts infoRow
  have HI := hik hi
  have HZ0 := hik hz0
  have HZ1 := hik hz1
  have HZ2 := hik hz2
  have hb := h.lt
  have H := hik (h.keep ((Chg.refl nob w).alloc (.cells #[] 26)))
  obtain ⟨d, hd⟩ : ∃ d, d = 2 * k := ⟨_, rfl⟩
  have hd4 : d ≤ 4 := by rcases hk with rfl | rfl <;> omega
  have QD := hik (fun (w : World) => sTbl_any (k : Int) (d : Int) (by rw [IntKind.wrap_i64]; omega) w)
  rw [← hd]
  clear hi hz0 hz1 hz2 h hd hk
  go_enter Tryz.func23, Tryz.ntmps23
  go_wp2_with fail
  go_loopw [7, 8] (fun u i W => ∃ (j : Nat) (A : Nat → Option Addr) (Cc : Nat → Nat) (t : Nat → Nat → El) (g cp : Nat), j ≤ d ∧ i = .int .i64 (j : Int) ∧ u = .slice (some ⟨g, 0, none⟩) j cp ∧ Hid (W.ownsRow w.heap.size 26 1 (.slice (some ⟨g, 0, none⟩) j cp) j ((List.range j).map (fun i => Value.slice (A i) 8 (Cc i)))) ∧ Hid (TbsO W w.heap.size g j 8 A t) ∧ Hid (Src (n + 39 * 8 * j) W b) ∧ Hid (Chg (fun i => i = b) w W)) (fun _ i _ => d - (intOf i).toNat)
  case atStart => exact ⟨0, fun _ => none, fun _ => 0, fun _ _ => El.zr, w.heap.size, 0, Nat.zero_le _, rfl, rfl, hik (flNone w w.heap.size 26 1 (Nat.le_refl _)), hik (fun i hi => absurd hi (by omega)), H, hik ((Chg.refl _ _).alloc _)⟩
  case round =>
    obtain ⟨j, A, Cc, t, g, cp, hj, rfl, rfl, HW, HT, HS, HC⟩ := hrel
    rename World => wi
    by_cases hlt : j < d
    · have hj1 : (j : Int) < (d : Int) := by omega
      go_wp2_with fail
      refine (QD.out _).mono ?_
      rintro e W1 ⟨rfl, hw⟩
      have hw' := hw.symm
      clear hw
      subst hw'
      have hsz := HC.out.size
      have hgl := hik (HW.out.lt g rfl)
      go_wp2_with fail
      refine (exts_any 8 (n + 39 * 8 * j) b _ HS.out (by omega) (by omega)).mono ?_
      rintro e W2 ⟨f, g9, c6, cap6, he, ho6, hok, hS1, hB1⟩
      have he' : e = .returned (.slice c6 8 cap6) := he
      clear he
      subst he'
      obtain ⟨b6, M6, hh6, e6, hb6, r6⟩ := own_row9 ho6 (by omega)
      subst e6
      have P6 := hik (show PairE W2 (some ⟨b6, 0, none⟩) 8 (elF f g9) from PairE.of (OwnE.pairs ho6) hok)
      have hl6 : b6 < W2.heap.size := r6.lt
      have hbg : b6 ≠ g := by have := hgl.out.2; omega
      have hbB : w.heap.size ≤ b6 := by omega
      replace HW := hik (owns_src HW.out hb hB1)
      replace HT := hik (HT.out.chg hB1 (fun i x hi ex e => by
        obtain ⟨y, ey, hy, _⟩ := HT.out i hi
        rw [ex] at ey
        cases ey
        omega))
      replace HC := hik (HC.out.trans hB1)
      have HS2 := hik hS1
      have hs2 := HC.out.size
      clear ho6 r6 hb6 hok hS1 hB1 HS
      go_wp2_with (at_builtin; refine wpList_append_lies _ ?g0 (.tmp 16) (.tmp 22) 24 ?g1 w.heap.size 26 i1 (.slice none 0 0) 1 24 Tryz.underlying24 HI.out HZ0.out HZ1.out HZ2.out rfl (by decide) (.slice (some ⟨g, 0, none⟩) j cp) j _ ?b1 (HW.out.alloc _) ⟨_, 0, none⟩ 1 1 [.slice (some ⟨b6, 0, none⟩) 8 cap6] ?b3 ?b4 (rwNews _ _ _) (rwOne _ _ _) (by decide) ?b7 ?b8 ?b9 _ rfl ?b10)
      case g0 => rfl
      case g1 => rfl
      case b1 => rfl
      case b3 => rfl
      case b4 => rfl
      case b7 => unfold maxLen; omega
      case b8 => omega
      case b9 => simp; omega
      case b10 =>
        intro g7 cp7 w7 o7 hg7 hat7 hlt7
        have hat7' := hik (show g = g7 ∨ g7 = (W2.alloc (.cells #[.slice (some ⟨b6, 0, none⟩) 8 cap6] 26)).heap.size from by
          rcases hat7 with q | q
          · exact .inl (by simpa [Value.ownBlock] using q)
          · exact .inr (by simpa using q))
        have C7 := hik (((Chg.refl (fun x => x = g) W2).alloc (.cells #[.slice (some ⟨b6, 0, none⟩) 8 cap6] 26)).trans ((Chg.refl (fun x => x = g) (W2.alloc (.cells #[.slice (some ⟨b6, 0, none⟩) 8 cap6] 26))).grown hg7 (fun x e _ => by have q : some g = some x := e; cases q; rfl)))
        have HT2 := hik (TbsO.grown ((TbsO.ext (HT.out.congr (u' := exT t j (elF f g9)) (fun i hi => by unfold exT; rw [if_neg (by omega)])) hbB hbg hl6 (by rw [exT_at]; exact P6.out)).keep ((Chg.refl nob _).alloc (.cells #[.slice (some ⟨b6, 0, none⟩) 8 cap6] 26))) hg7 hat7'.out)
        have HO : Hid (w7.ownsRow w.heap.size 26 1 (.slice (some ⟨g7, 0, none⟩) (j + 1) cp7) (j + 1) ((List.range (j + 1)).map (fun i => Value.slice ((fun i => if i = j then some ⟨b6, 0, none⟩ else A i) i) 8 ((fun i => if i = j then cap6 else Cc i) i)))) := hik (by rw [← rwExt]; exact o7)
        have HS7 : Hid (Src (n + 39 * 8 * j + 39 * 8) w7 b) := hik (HS2.out.chg C7.out (fun x e => by have := hgl.out.1; omega))
        have HC7 := hik ((HC.out.alloc _).grown hg7 (fun x e l => absurd (HW.out.lt x e).1 (by omega)))
        clear o7 hg7 hat7 hlt7 C7 HW HT HC HS2
        go_wp2
        go_roundw
        case rel => exact ⟨j + 1, _, _, _, g7, cp7, by omega, by go_num, rfl, HO, HT2, hik (HS7.out.mono (by omega)), HC7⟩
        case measure => simp [intOf]; omega
    · obtain rfl : d = j := by omega
      have hcc : ¬ (d : Int) < (d : Int) := by omega
      go_wp2_with fail
      refine (QD.out _).mono ?_
      rintro e W1 ⟨rfl, hw⟩
      have hw' := hw.symm
      clear hw
      subst hw'
      go_wp2
      go_ret
      exact ⟨t, _, cp, rfl, RowsQ.of_owns HW.out HT.out, HS.out, HC.out⟩

/-- Drawn tables out of a code. -/
def NewTs (m N : Nat) (w : World) (e : Ending) (w' : World) : Prop := ∃ (t : Nat → Nat → El) (c0 : Option Addr) (cap0 : Nat), e = .returned (.slice c0 m cap0) ∧ RowsQ (fun x => w.heap.size ≤ x ∧ x < w'.heap.size) w' c0 m N t ∧ Chg nob w w'

set_option maxHeartbeats 1000000 in
theorem tablesOf_any {k : Nat} (hk : k = 1 ∨ k = 2) (v : Nat) (hv : v ≤ 3) (c : Option Addr) (len cap : Nat) (w : World) (h : Bytes w c len) (hl : (len : Int) ≤ 9223372036854775807) :
    Calls Tryz.prog 6 #[.slice c len cap, .int .i64 (k : Int), .int .i64 (v : Int)] w fun e w' => NewTs (2 * k) (2 ^ v) w e w' := by
  have H := hik h
  have HK := hik hk
  clear h hk
  have QT := hik (fun (n b : Nat) (w : World) (h : Src n w b) (hn : n ≤ 999999900000) => (show Calls Tryz.prog 23 #[.pointer (some ⟨b, 0, none⟩), .int .i64 (k : Int), .int .i64 (v : Int)] w fun e w' => DrawnTs (n + 39 * 2 ^ v * (2 * k)) (2 * k) (2 ^ v) b w e w' from by
    rcases (show v = 0 ∨ v = 1 ∨ v = 2 ∨ v = 3 by omega) with rfl | rfl | rfl | rfl
    · exact tables0_any HK.out n b w h hn
    · exact tables1_any HK.out n b w h hn
    · exact tables2_any HK.out n b w h hn
    · exact tables3_any HK.out n b w h hn))
  go_enter Tryz.func6, Tryz.ntmps6
  go_wp2_with fail
  refine (l00Source_any c len cap _ H.out hl).mono ?_
  rintro e w1 ⟨rfl, hS, hB⟩
  have HS := hik hS
  have HB := hik (chg_of_below hB)
  clear hS hB
  go_wp2_with fail
  refine (QT.out 0 w.heap.size _ HS.out (by omega)).mono ?_
  rintro e w2 ⟨t, c0, cap0, rfl, hr, _, hk2⟩
  have HR := hik (hr.mono (R := fun x => w.heap.size ≤ x ∧ x < w2.heap.size) (fun x hx => ⟨Nat.le_trans HB.out.size hx.1, hx.2⟩))
  have HC := hik (HB.out.near hk2 (fun i e => by omega))
  clear hr hk2
  go_wp2
  go_ret
  exact ⟨t, c0, cap0, rfl, HR.out, HC.out⟩

end Go.Proofs.YtgiefpipflcbgadGreatDoor

namespace Go.Proofs.YtgiefpipflcbgadGreatDoor
open Go.ChangeShapes Go.WideShapes Go.ChangeAt Go.RowKit
set_option linter.unusedVariables false
set_option maxRecDepth 100000
set_option linter.unusedSimpArgs false

set_option maxHeartbeats 8000000 in
theorem walkLies (a0 : Option Addr) (len0 cap0 : Nat) (a1 : Option Addr) (len1 cap1 : Nat) (w : World) (HB0 : Hid (Bytes w a0 len0)) (HB1 : Hid (Bytes w a1 len1)) (hn0 : (len0 : Int) ≤ 9223372036854775807) (hn1 : (len1 : Int) ≤ 9223372036854775807) (ht : Hid (Tabs w)) :
    Calls Tryz.prog 4 #[.slice a0 len0 cap0, .slice a1 len1 cap1] w fun e w' => e = .returned (.bool true) ∧ Below w.heap.size w w' := by
  by_cases hl : 1048576 < (len0 : Int)
  · go_enter Tryz.func4, Tryz.ntmps4
    go_wp2_with fail
    go_ret
    exact ⟨rfl, Below.refl _ _⟩
  by_cases hl1 : 1048576 < (len1 : Int)
  · go_enter Tryz.func4, Tryz.ntmps4
    go_wp2_with fail
    go_ret
    exact ⟨rfl, Below.refl _ _⟩
  go_enter Tryz.func4, Tryz.ntmps4
  go_wp2_with fail
  refine (at_any a1 len1 cap1 0 2 _ (HB1.out.below (Below.refl _ _)) hn1 (by omega) (by omega) (by omega) (by omega)).mono ?_
  rintro e W1 ⟨x1, rfl, hx1, hx2, kk⟩
  replace kk := Chg.of_below kk
  have G := hik kk
  obtain ⟨k, hk⟩ : ∃ k : Nat, (k : Int) = 1 + x1 := ⟨(1 + x1).toNat, by omega⟩
  have hw1 : IntKind.i64.wrap (1 + x1) = (k : Int) := by rw [IntKind.wrap_i64]; omega
  have hk12 : k = 1 ∨ k = 2 := by omega
  have HK := hik hk12
  have hk2 : k ≤ 2 ∧ 1 ≤ k := by omega
  clear hk hx1 hx2 hk12
  clear kk
  go_wp2_with fail
  refine (at_any a1 len1 cap1 1 3 _ (HB1.out.below G.out.belowAll) hn1 (by omega) (by omega) (by omega) (by omega)).mono ?_
  rintro e W2 ⟨x2, rfl, hy1, hy2, kk⟩
  replace kk := Chg.of_below kk
  replace G := hik (G.out.trans kk)
  obtain ⟨v, hv⟩ : ∃ v : Nat, (v : Int) = 1 + x2 := ⟨(1 + x2).toNat, by omega⟩
  have hw2 : IntKind.i64.wrap (1 + x2) = (v : Int) := by rw [IntKind.wrap_i64]; omega
  have hv3 : v ≤ 3 := by omega
  have hv6 : v ≤ 6 := by omega
  have hv1 : 1 ≤ v := by omega
  clear hy1 hy2 hw1 hv
  clear kk
  go_wp2_with fail
  refine (tablesOf_any HK.out v hv3 a0 len0 cap0 _ (HB0.out.below G.out.belowAll) hn0).mono ?_
  rintro e W3 ⟨t, cT, pT, rfl, hT, kk⟩
  replace G := hik (G.out.trans kk)
  have TB := hik (RowsQ.toE hT)
  obtain ⟨n, hn⟩ : ∃ n, n = 2 * k := ⟨_, rfl⟩
  have HN := hik hn
  have hn4 : n ≤ 4 := by omega
  clear hT hw2
  clear kk
  go_wp2_with fail
  refine (sourceOf_any a1 len1 cap1 _ (HB1.out.below G.out.belowAll) hn1).mono ?_
  rintro e W4 ⟨cs, len, caps, f, g, at', st, ct, rfl, hO, hok, h5, ha3, hc3, kk⟩
  replace G := hik (G.out.trans kk)
  replace TB := hik (RowsE.keep TB.out kk)
  have OS := hik hO
  have HOK := hik hok
  have hl64 : len ≤ 64 := by omega
  have hlen : len ≤ 1099511627776 := by omega
  obtain ⟨Sm, hSm⟩ : ∃ x, x = sms k t (2 ^ v) := ⟨_, rfl⟩
  obtain ⟨Gg, hGg⟩ : ∃ x, x = prd k f g len v ⟨t, at', st, ct⟩ := ⟨_, rfl⟩
  obtain ⟨Rr, hRr⟩ : ∃ x, x = ppt k f g len v ⟨t, at', st, ct⟩ := ⟨_, rfl⟩
  obtain ⟨Vv, hVv⟩ : ∃ x, x = pvl k f g len v ⟨t, at', st, ct⟩ := ⟨_, rfl⟩
  obtain ⟨aa, haa⟩ : ∃ x, x = (pst k f g len v ⟨t, at', st, ct⟩ v).a := ⟨_, rfl⟩
  obtain ⟨ss, hss⟩ : ∃ x, x = (pst k f g len v ⟨t, at', st, ct⟩ v).s := ⟨_, rfl⟩
  obtain ⟨cc, hcc⟩ : ∃ x, x = (pst k f g len v ⟨t, at', st, ct⟩ v).c := ⟨_, rfl⟩
  have QA := hik (fun (c : Option Addr) (cap : Nat) (W : World) (h : Hid (RowsE W c (2 * k) (2 ^ v) t)) => sum_el HK.out hv6 t c cap W h)
  have QC := hik (fun (c : Option Addr) (cap : Nat) (cs : Option Addr) (caps : Nat) (W : World) (h : Hid (RowsE W c (2 * k) (2 ^ v) t)) (hs : Hid (PairV W cs len f g)) (ht : Hid (Tabs W)) => proveC_el (t := t) HK.out hv6 HOK.out ha3 hc3 c cap cs caps W h hs ht)
  have QV := hik (fun (x : El) (m : Nat) (hm : m ≤ 4096) (U : Nat → Nat → El) (c : Option Addr) (cap : Nat) (A : Nat → Option Addr) (C : Nat → Nat) (cs : Option Addr) (caps : Nat) (W : World) (h : Hid (RowsV W c m A (fun _ => k + 2) C (fun i => cA (U i)) (fun i => cB (U i)))) (hs : Hid (PairV W cs len f g)) (ht : Hid (Tabs W)) => verC_el HK.out HOK.out x m v hm U c cap A C cs caps W h hs ht)
  have QW := hik (fun (x : El) (m : Nat) (hm : m ≤ 4096) (U : Nat → Nat → El) (c : Option Addr) (cap : Nat) (A : Nat → Option Addr) (C : Nat → Nat) (cs : Option Addr) (caps : Nat) (W : World) (h : Hid (RowsV W c m A (fun _ => k + 2) C (fun i => cA (U i)) (fun i => cB (U i)))) (hs : Hid (PairV W cs len f g)) => sVerC_el HK.out HOK.out x m v hm U c cap A C cs caps W h hs)
  have L1 := hik (fun (d : Nat) (h0 : 1 ≤ d) (h : d < 100) => svc_lie (t := t) HK.out hv6 hv1 HOK.out ha3 hc3 d h0 h)
  have L2 := hik (fun (x : El) (G : Nat → Nat → El) => svc_few HK.out hv6 hv1 HOK.out ha3 hc3 x G)
  rw [← hSm] at QA
  rw [← hGg, ← hRr, ← hVv, ← haa, ← hss, ← hcc] at QC
  rw [← hSm, ← hGg] at L1
  rw [← hn] at QA QC TB ⊢
  clear hO hok h5 ha3 hc3 hSm hGg hRr hVv haa hss hcc hn
  clear kk
  go_upto_region 7 with fail
  obtain ⟨q5, hq5⟩ : ∃ q, q = W4.heap.size := ⟨_, rfl⟩
  have kk := (Chg.refl nob W4).alloc (.cells #[.slice cs len caps, .int .i64 at', .string st, .int .i64 ct] 28)
  replace G := hik (G.out.trans kk)
  replace TB := hik (RowsE.keep TB.out kk)
  replace OS := hik (OS.out.keep kk)
  have RS : Hid (World.rowIs (W4.alloc (.cells #[.slice cs len caps, .int .i64 at', .string st, .int .i64 ct] 28)) (q5) 28 4 (pv4 (.slice cs len caps) (.int .i64 at') (.string st) (.int .i64 ct))) := hik (by rw [hq5]; simpa using row4_new W4 (.slice cs len caps) (.int .i64 at') (.string st) (.int .i64 ct) 28)
  clear kk
  rw [← hq5]
  generalize hE : (W4.alloc (.cells #[.slice cs len caps, .int .i64 at', .string st, .int .i64 ct] 28)) = W5 at G TB OS RS ⊢
  clear hE hq5
  go_wp2_with fail
  refine (QA.out cT pT _ TB).mono ?_
  rintro e W6 ⟨rfl, kk⟩
  replace G := hik (G.out.trans kk)
  replace TB := hik (RowsE.keep TB.out kk)
  replace OS := hik (OS.out.keep kk)
  replace RS := hik (rowIs_keep RS.out kk)
  clear kk
  go_upto_region 8 with fail
  obtain ⟨q7, hq7⟩ : ∃ q, q = W6.heap.size := ⟨_, rfl⟩
  have kk := (Chg.refl nob W6).alloc (.cells #[.int .i64 Sm.v.1, .int .i64 Sm.v.2] 31)
  replace G := hik (G.out.trans kk)
  replace TB := hik (RowsE.keep TB.out kk)
  replace OS := hik (OS.out.keep kk)
  replace RS := hik (rowIs_keep RS.out kk)
  have E1 : Hid (World.rowIs (W6.alloc (.cells #[.int .i64 Sm.v.1, .int .i64 Sm.v.2] 31)) (q7) 31 2 (pv2 (.int .i64 Sm.v.1) (.int .i64 Sm.v.2))) := hik (by rw [hq7]; simpa using row2_new W6 (.int .i64 Sm.v.1) (.int .i64 Sm.v.2) 31)
  clear kk
  rw [← hq7]
  generalize hE : (W6.alloc (.cells #[.int .i64 Sm.v.1, .int .i64 Sm.v.2] 31)) = W7 at G TB OS RS E1 ⊢
  clear hE hq7
  go_upto_region 8 with fail
  go_cut [11, 12] (fun pp qq W => ∃ (gg d : Nat), pp = .pointer (some ⟨gg, 0, none⟩) ∧ qq = .int .i64 0 ∧ Hid (1 ≤ d ∧ d < 100) ∧ Hid (W.rowIs gg 31 2 (pv2 (.int .i64 (El.ad Sm (El.nb d)).v.1) (.int .i64 (El.ad Sm (El.nb d)).v.2))) ∧ Hid (Chg nob W7 W) ∧ Hid (W7.heap.size ≤ gg))
  case first =>
    as_aux_lemma =>
      have xE10 : W7.cell? ⟨q7, 0, none⟩ = some (.int .i64 Sm.v.1) := E1.out.cell (by omega)
      have xE11 : W7.cell? ⟨q7, 1, none⟩ = some (.int .i64 Sm.v.2) := E1.out.cell (by omega)
      have KW := hik ((Chg.refl nob W7).drew1)
      have SA := hik (fun (WW : World) (kW : Chg nob W7 WW) => (show (WW.cell? ⟨q7, 0, none⟩ = some (.int .i64 Sm.v.1) ∧ WW.cell? ⟨q7, 1, none⟩ = some (.int .i64 Sm.v.2)) from ⟨kW.see xE10, kW.see xE11⟩))
      refine wp_region_held_drew (S := fun w' => w'.cell? ⟨q7, 0, none⟩ = some (.int .i64 Sm.v.1) ∧ w'.cell? ⟨q7, 1, none⟩ = some (.int .i64 Sm.v.2)) (by kernel_rfl) ⟨xE10, xE11⟩ (fun hHeld => ?_)
      refine wpAnyH_take (i := 0) (v := ?_) rfl (by kernel_rfl) (by kernel_rfl) (by kernel_rfl) (fun _ _ _ h => h) (Or.inl ⟨by rfl, ?_⟩) (by assumption) ?_
      rotate_left 1
      · (intro w' hSw; (try dsimp only at hSw); go_simp; try with_reducible rfl)
      try simp only [Act.put, List.setIfInBounds_toArray, List.set_cons_zero, List.set_cons_succ, List.getElem_toArray, List.getElem_cons_zero, List.getElem_cons_succ]
      refine wpAnyH_take (i := 1) (v := ?_) rfl (by kernel_rfl) (by kernel_rfl) (by kernel_rfl) (fun _ _ _ h => h) (Or.inl ⟨by rfl, ?_⟩) (by assumption) ?_
      rotate_left 1
      · (intro w' hSw; (try dsimp only at hSw); go_simp; try with_reducible rfl)
      try simp only [Act.put, List.setIfInBounds_toArray, List.set_cons_zero, List.set_cons_succ, List.getElem_toArray, List.getElem_cons_zero, List.getElem_cons_succ]
      refine wpAnyH_ready (rs := [2, 9]) (by kernel_rfl) (by simp) ?_
      refine AllReadyH.cons rfl (fun K hK => ?_) ?_
      · refine stepL_callN 5 #[.tmp 65, .const (.int .i64 2), .const (.int .i64 90)] #[22, 3, 3] (by rfl) (by rfl) #[.slice a1 len1 cap1, .int .i64 2, .int .i64 90] (by simp only [List.map_toArray, List.map_cons, List.map_nil] <;> rfl) (run_go Tryz.func5 (by kernel_rfl) (by kernel_rfl) _ _) (at_any a1 len1 cap1 2 90 _ (HB1.out.below (G.out.trans KW.out).belowAll) hn1 (by omega) (by omega) (by omega) (by omega)) ?_
        rintro e U1 ⟨x3, he, hx3, hx4, kk⟩
        replace kk := Chg.of_below kk
        refine ⟨_, he, ?_⟩
        replace KW := hik (KW.out.trans kk)
        refine hK.out _ _ (SA.out _ KW.out) (fun hHeld => ?_)
        clear hK K
        try simp only [Act.put, List.setIfInBounds_toArray, List.set_cons_zero, List.set_cons_succ, List.getElem_toArray, List.getElem_cons_zero, List.getElem_cons_succ]
        clear he kk
        obtain ⟨d, hd⟩ : ∃ d : Nat, (d : Int) = 1 + x3 := ⟨(1 + x3).toNat, by omega⟩
        have hwd : IntKind.i64.wrap (1 + x3) = (d : Int) := by rw [IntKind.wrap_i64]; omega
        have HD := hik (show 1 ≤ d ∧ d < 100 by omega)
        clear hd hx3 hx4
        refine wpAnyH_take (i := 3) (v := .int .i64 (d : Int)) rfl (by kernel_rfl) (by kernel_rfl) (by kernel_rfl) (fun _ _ _ h => h) (Or.inl ⟨by rfl, ?_⟩) (by assumption) ?_
        · (intro w' hSw; (try dsimp only at hSw); go_simp; first | done | exact hwd | rw [hwd])
        try simp only [Act.put, List.setIfInBounds_toArray, List.set_cons_zero, List.set_cons_succ, List.getElem_toArray, List.getElem_cons_zero, List.getElem_cons_succ]
        refine wpAnyH_take (i := 4) (v := ?_) rfl (by kernel_rfl) (by kernel_rfl) (by kernel_rfl) (fun _ _ _ h => h) (Or.inl ⟨by rfl, ?_⟩) (by assumption) ?_
        rotate_left 1
        · (intro w' hSw; (try dsimp only at hSw); go_simp; try with_reducible rfl)
        try simp only [Act.put, List.setIfInBounds_toArray, List.set_cons_zero, List.set_cons_succ, List.getElem_toArray, List.getElem_cons_zero, List.getElem_cons_succ]
        refine wpAnyH_ready (rs := [5, 9]) (by kernel_rfl) (by simp) ?_
        refine AllReadyH.cons rfl (fun K hK => ?_) ?_
        · refine stepL_callN 20 #[.tmp 64, .tmp 68] #[31, 31] (by rfl) (by rfl) #[.agg #[.int .i64 Sm.v.1, .int .i64 Sm.v.2], .agg #[.int .i64 (d : Int), .int .i64 0]] (by simp only [List.map_toArray, List.map_cons, List.map_nil] <;> rfl) (run_go Tryz.func20 (by kernel_rfl) (by kernel_rfl) _ _) (exAd_nb Sm d (by have := HD.out; omega) _) ?_
          rintro e U2 ⟨he, kk⟩
          refine ⟨_, he, ?_⟩
          replace KW := hik (KW.out.trans kk)
          refine hK.out _ _ (SA.out _ KW.out) (fun hHeld => ?_)
          clear hK K
          try simp only [Act.put, List.setIfInBounds_toArray, List.set_cons_zero, List.set_cons_succ, List.getElem_toArray, List.getElem_cons_zero, List.getElem_cons_succ]
          clear he kk
          refine wpAnyH_take (i := 6) (v := ?_) rfl (by kernel_rfl) (by kernel_rfl) (by kernel_rfl) (fun _ _ _ h => h) (Or.inl ⟨by rfl, ?_⟩) (by assumption) ?_
          rotate_left 1
          · (intro w' hSw; (try dsimp only at hSw); go_simp; try with_reducible rfl)
          try simp only [Act.put, List.setIfInBounds_toArray, List.set_cons_zero, List.set_cons_succ, List.getElem_toArray, List.getElem_cons_zero, List.getElem_cons_succ]
          refine wpAnyH_take (i := 7) (v := ?_) rfl (by kernel_rfl) (by kernel_rfl) (by kernel_rfl) (fun _ _ _ h => h) (Or.inl ⟨by rfl, ?_⟩) (by assumption) ?_
          rotate_left 1
          · (intro w' hSw; (try dsimp only at hSw); go_simp; try with_reducible rfl)
          try simp only [Act.put, List.setIfInBounds_toArray, List.set_cons_zero, List.set_cons_succ, List.getElem_toArray, List.getElem_cons_zero, List.getElem_cons_succ]
          refine wpAnyH_take (i := 8) (v := ?_) rfl (by kernel_rfl) (by kernel_rfl) (by kernel_rfl) (fun _ _ _ h => h) (Or.inl ⟨by rfl, ?_⟩) (by assumption) ?_
          rotate_left 1
          · (intro w' hSw; (try dsimp only at hSw); go_simp; try with_reducible rfl)
          try simp only [Act.put, List.setIfInBounds_toArray, List.set_cons_zero, List.set_cons_succ, List.getElem_toArray, List.getElem_cons_zero, List.getElem_cons_succ]
          refine wpAnyH_ready (rs := [9]) (by kernel_rfl) (by simp) ?_
          refine AllReadyH.cons rfl (fun K hK => ?_) AllReadyH.nil
          simp only [List.getElem_toArray, List.getElem_cons_zero, List.getElem_cons_succ]
          go_simp
          obtain ⟨gg, hgg⟩ : ∃ q, q = U2.heap.size := ⟨_, rfl⟩
          have EB : Hid (ElB ((World.alloc U2 (.cells #[.int .i64 0, .int .i64 0] 31))) gg El.zr) := hik (by rw [hgg]; exact ElB.zero U2)
          have lg : W7.heap.size ≤ gg := by rw [hgg]; exact KW.out.size
          replace KW : Hid (Chg nob W7 ((World.alloc U2 (.cells #[.int .i64 0, .int .i64 0] 31)))) := hik (KW.out.alloc _)
          generalize hUA : (World.alloc U2 (.cells #[.int .i64 0, .int .i64 0] 31)) = UA3 at EB KW ⊢
          clear hUA
          rw [← hgg]
          clear hgg
          refine hK.out _ _ (SA.out _ KW.out) (fun hHeld => ?_)
          clear hK K
          try simp only [Act.put, List.setIfInBounds_toArray, List.set_cons_zero, List.set_cons_succ, List.getElem_toArray, List.getElem_cons_zero, List.getElem_cons_succ]
          refine wpAnyH_ready (rs := [10]) (by kernel_rfl) (by simp) ?_
          refine AllReadyH.cons rfl (fun K hK => ?_) AllReadyH.nil
          have g0 : UA3.cell? ⟨gg, 0, none⟩ = some (.int .i64 0) := EB.out.c0
          have g1 : UA3.cell? ⟨gg, 1, none⟩ = some (.int .i64 0) := EB.out.c1
          have f0 := EB.out.fz 0
          have f1 := EB.out.fz 1
          have ln : gg < UA3.heap.size := EB.out.lt
          simp only [List.getElem_toArray, List.getElem_cons_zero, List.getElem_cons_succ]
          go_simp
          have EX := hik (row2_set EB.out (.int .i64 (El.ad Sm (El.nb d)).v.1) (.int .i64 (El.ad Sm (El.nb d)).v.2))
          replace KW := hik (chg2_set KW.out gg (fun l => absurd l (by omega)) (.int .i64 (El.ad Sm (El.nb d)).v.1) (.int .i64 (El.ad Sm (El.nb d)).v.2))
          refine hK.out _ _ (SA.out _ KW.out) (fun hHeld => ?_)
          clear hK K
          try simp only [Act.put, List.setIfInBounds_toArray, List.set_cons_zero, List.set_cons_succ, List.getElem_toArray, List.getElem_cons_zero, List.getElem_cons_succ]
          clear g0 g1 f0 f1 ln EB
          refine wpAnyH_take (i := 11) (v := ?_) rfl (by kernel_rfl) (by kernel_rfl) (by kernel_rfl) (fun _ _ _ h => h) (Or.inl ⟨by rfl, ?_⟩) (by assumption) ?_
          rotate_left 1
          · (intro w' hSw; (try dsimp only at hSw); go_simp; try with_reducible rfl)
          try simp only [Act.put, List.setIfInBounds_toArray, List.set_cons_zero, List.set_cons_succ, List.getElem_toArray, List.getElem_cons_zero, List.getElem_cons_succ]
          refine wpAnyH_done (by kernel_rfl) ?_ _
          clear SA
          go_wp2_with fail
          go_meet
          exact ⟨gg, d, rfl, rfl, HD, EX, KW, hik lg⟩
        · refine AllReadyH.cons rfl (fun K hK => ?_) AllReadyH.nil
          simp only [List.getElem_toArray, List.getElem_cons_zero, List.getElem_cons_succ]
          go_simp
          obtain ⟨gg, hgg⟩ : ∃ q, q = U1.heap.size := ⟨_, rfl⟩
          have EB : Hid (ElB ((World.alloc U1 (.cells #[.int .i64 0, .int .i64 0] 31))) gg El.zr) := hik (by rw [hgg]; exact ElB.zero U1)
          have lg : W7.heap.size ≤ gg := by rw [hgg]; exact KW.out.size
          replace KW : Hid (Chg nob W7 ((World.alloc U1 (.cells #[.int .i64 0, .int .i64 0] 31)))) := hik (KW.out.alloc _)
          generalize hUA : (World.alloc U1 (.cells #[.int .i64 0, .int .i64 0] 31)) = UA2 at EB KW ⊢
          clear hUA
          rw [← hgg]
          clear hgg
          refine hK.out _ _ (SA.out _ KW.out) (fun hHeld => ?_)
          clear hK K
          try simp only [Act.put, List.setIfInBounds_toArray, List.set_cons_zero, List.set_cons_succ, List.getElem_toArray, List.getElem_cons_zero, List.getElem_cons_succ]
          refine wpAnyH_ready (rs := [5]) (by kernel_rfl) (by simp) ?_
          refine AllReadyH.cons rfl (fun K hK => ?_) AllReadyH.nil
          refine stepL_callN 20 #[.tmp 64, .tmp 68] #[31, 31] (by rfl) (by rfl) #[.agg #[.int .i64 Sm.v.1, .int .i64 Sm.v.2], .agg #[.int .i64 (d : Int), .int .i64 0]] (by simp only [List.map_toArray, List.map_cons, List.map_nil] <;> rfl) (run_go Tryz.func20 (by kernel_rfl) (by kernel_rfl) _ _) (exAd_nb Sm d (by have := HD.out; omega) _) ?_
          rintro e U3 ⟨he, kk⟩
          replace EB := hik (EB.out.keep kk)
          refine ⟨_, he, ?_⟩
          replace KW := hik (KW.out.trans kk)
          refine hK.out _ _ (SA.out _ KW.out) (fun hHeld => ?_)
          clear hK K
          try simp only [Act.put, List.setIfInBounds_toArray, List.set_cons_zero, List.set_cons_succ, List.getElem_toArray, List.getElem_cons_zero, List.getElem_cons_succ]
          clear he kk
          refine wpAnyH_take (i := 6) (v := ?_) rfl (by kernel_rfl) (by kernel_rfl) (by kernel_rfl) (fun _ _ _ h => h) (Or.inl ⟨by rfl, ?_⟩) (by assumption) ?_
          rotate_left 1
          · (intro w' hSw; (try dsimp only at hSw); go_simp; try with_reducible rfl)
          try simp only [Act.put, List.setIfInBounds_toArray, List.set_cons_zero, List.set_cons_succ, List.getElem_toArray, List.getElem_cons_zero, List.getElem_cons_succ]
          refine wpAnyH_take (i := 7) (v := ?_) rfl (by kernel_rfl) (by kernel_rfl) (by kernel_rfl) (fun _ _ _ h => h) (Or.inl ⟨by rfl, ?_⟩) (by assumption) ?_
          rotate_left 1
          · (intro w' hSw; (try dsimp only at hSw); go_simp; try with_reducible rfl)
          try simp only [Act.put, List.setIfInBounds_toArray, List.set_cons_zero, List.set_cons_succ, List.getElem_toArray, List.getElem_cons_zero, List.getElem_cons_succ]
          refine wpAnyH_take (i := 8) (v := ?_) rfl (by kernel_rfl) (by kernel_rfl) (by kernel_rfl) (fun _ _ _ h => h) (Or.inl ⟨by rfl, ?_⟩) (by assumption) ?_
          rotate_left 1
          · (intro w' hSw; (try dsimp only at hSw); go_simp; try with_reducible rfl)
          try simp only [Act.put, List.setIfInBounds_toArray, List.set_cons_zero, List.set_cons_succ, List.getElem_toArray, List.getElem_cons_zero, List.getElem_cons_succ]
          refine wpAnyH_ready (rs := [10]) (by kernel_rfl) (by simp) ?_
          refine AllReadyH.cons rfl (fun K hK => ?_) AllReadyH.nil
          have g0 : U3.cell? ⟨gg, 0, none⟩ = some (.int .i64 0) := EB.out.c0
          have g1 : U3.cell? ⟨gg, 1, none⟩ = some (.int .i64 0) := EB.out.c1
          have f0 := EB.out.fz 0
          have f1 := EB.out.fz 1
          have ln : gg < U3.heap.size := EB.out.lt
          simp only [List.getElem_toArray, List.getElem_cons_zero, List.getElem_cons_succ]
          go_simp
          have EX := hik (row2_set EB.out (.int .i64 (El.ad Sm (El.nb d)).v.1) (.int .i64 (El.ad Sm (El.nb d)).v.2))
          replace KW := hik (chg2_set KW.out gg (fun l => absurd l (by omega)) (.int .i64 (El.ad Sm (El.nb d)).v.1) (.int .i64 (El.ad Sm (El.nb d)).v.2))
          refine hK.out _ _ (SA.out _ KW.out) (fun hHeld => ?_)
          clear hK K
          try simp only [Act.put, List.setIfInBounds_toArray, List.set_cons_zero, List.set_cons_succ, List.getElem_toArray, List.getElem_cons_zero, List.getElem_cons_succ]
          clear g0 g1 f0 f1 ln EB
          refine wpAnyH_take (i := 11) (v := ?_) rfl (by kernel_rfl) (by kernel_rfl) (by kernel_rfl) (fun _ _ _ h => h) (Or.inl ⟨by rfl, ?_⟩) (by assumption) ?_
          rotate_left 1
          · (intro w' hSw; (try dsimp only at hSw); go_simp; try with_reducible rfl)
          try simp only [Act.put, List.setIfInBounds_toArray, List.set_cons_zero, List.set_cons_succ, List.getElem_toArray, List.getElem_cons_zero, List.getElem_cons_succ]
          refine wpAnyH_done (by kernel_rfl) ?_ _
          clear SA
          go_wp2_with fail
          go_meet
          exact ⟨gg, d, rfl, rfl, HD, EX, KW, hik lg⟩
      · refine AllReadyH.cons rfl (fun K hK => ?_) AllReadyH.nil
        simp only [List.getElem_toArray, List.getElem_cons_zero, List.getElem_cons_succ]
        go_simp
        obtain ⟨gg, hgg⟩ : ∃ q, q = W7.heap.size := ⟨_, rfl⟩
        have EB : Hid (ElB ((World.alloc W7 (.cells #[.int .i64 0, .int .i64 0] 31)).drew) gg El.zr) := hik (by rw [hgg]; exact ElB.keep (ElB.zero W7) (Chg.refl nob _).drew1)
        have lg : W7.heap.size ≤ gg := by rw [hgg]; exact Nat.le_refl _
        replace KW : Hid (Chg nob W7 ((World.alloc W7 (.cells #[.int .i64 0, .int .i64 0] 31)).drew)) := hik (((Chg.refl nob W7).alloc _).drew1)
        generalize hUA : (World.alloc W7 (.cells #[.int .i64 0, .int .i64 0] 31)).drew = UA1 at EB KW ⊢
        clear hUA
        rw [← hgg]
        clear hgg
        refine hK.out _ _ (SA.out _ KW.out) (fun hHeld => ?_)
        clear hK K
        try simp only [Act.put, List.setIfInBounds_toArray, List.set_cons_zero, List.set_cons_succ, List.getElem_toArray, List.getElem_cons_zero, List.getElem_cons_succ]
        refine wpAnyH_ready (rs := [2]) (by kernel_rfl) (by simp) ?_
        refine AllReadyH.cons rfl (fun K hK => ?_) AllReadyH.nil
        refine stepL_callN 5 #[.tmp 65, .const (.int .i64 2), .const (.int .i64 90)] #[22, 3, 3] (by rfl) (by rfl) #[.slice a1 len1 cap1, .int .i64 2, .int .i64 90] (by simp only [List.map_toArray, List.map_cons, List.map_nil] <;> rfl) (run_go Tryz.func5 (by kernel_rfl) (by kernel_rfl) _ _) (at_any a1 len1 cap1 2 90 _ (HB1.out.below (G.out.trans KW.out).belowAll) hn1 (by omega) (by omega) (by omega) (by omega)) ?_
        rintro e U2 ⟨x3, he, hx3, hx4, kk⟩
        replace kk := Chg.of_below kk
        replace EB := hik (EB.out.keep kk)
        refine ⟨_, he, ?_⟩
        replace KW := hik (KW.out.trans kk)
        refine hK.out _ _ (SA.out _ KW.out) (fun hHeld => ?_)
        clear hK K
        try simp only [Act.put, List.setIfInBounds_toArray, List.set_cons_zero, List.set_cons_succ, List.getElem_toArray, List.getElem_cons_zero, List.getElem_cons_succ]
        clear he kk
        obtain ⟨d, hd⟩ : ∃ d : Nat, (d : Int) = 1 + x3 := ⟨(1 + x3).toNat, by omega⟩
        have hwd : IntKind.i64.wrap (1 + x3) = (d : Int) := by rw [IntKind.wrap_i64]; omega
        have HD := hik (show 1 ≤ d ∧ d < 100 by omega)
        clear hd hx3 hx4
        refine wpAnyH_take (i := 3) (v := .int .i64 (d : Int)) rfl (by kernel_rfl) (by kernel_rfl) (by kernel_rfl) (fun _ _ _ h => h) (Or.inl ⟨by rfl, ?_⟩) (by assumption) ?_
        · (intro w' hSw; (try dsimp only at hSw); go_simp; first | done | exact hwd | rw [hwd])
        try simp only [Act.put, List.setIfInBounds_toArray, List.set_cons_zero, List.set_cons_succ, List.getElem_toArray, List.getElem_cons_zero, List.getElem_cons_succ]
        refine wpAnyH_take (i := 4) (v := ?_) rfl (by kernel_rfl) (by kernel_rfl) (by kernel_rfl) (fun _ _ _ h => h) (Or.inl ⟨by rfl, ?_⟩) (by assumption) ?_
        rotate_left 1
        · (intro w' hSw; (try dsimp only at hSw); go_simp; try with_reducible rfl)
        try simp only [Act.put, List.setIfInBounds_toArray, List.set_cons_zero, List.set_cons_succ, List.getElem_toArray, List.getElem_cons_zero, List.getElem_cons_succ]
        refine wpAnyH_ready (rs := [5]) (by kernel_rfl) (by simp) ?_
        refine AllReadyH.cons rfl (fun K hK => ?_) AllReadyH.nil
        refine stepL_callN 20 #[.tmp 64, .tmp 68] #[31, 31] (by rfl) (by rfl) #[.agg #[.int .i64 Sm.v.1, .int .i64 Sm.v.2], .agg #[.int .i64 (d : Int), .int .i64 0]] (by simp only [List.map_toArray, List.map_cons, List.map_nil] <;> rfl) (run_go Tryz.func20 (by kernel_rfl) (by kernel_rfl) _ _) (exAd_nb Sm d (by have := HD.out; omega) _) ?_
        rintro e U3 ⟨he, kk⟩
        replace EB := hik (EB.out.keep kk)
        refine ⟨_, he, ?_⟩
        replace KW := hik (KW.out.trans kk)
        refine hK.out _ _ (SA.out _ KW.out) (fun hHeld => ?_)
        clear hK K
        try simp only [Act.put, List.setIfInBounds_toArray, List.set_cons_zero, List.set_cons_succ, List.getElem_toArray, List.getElem_cons_zero, List.getElem_cons_succ]
        clear he kk
        refine wpAnyH_take (i := 6) (v := ?_) rfl (by kernel_rfl) (by kernel_rfl) (by kernel_rfl) (fun _ _ _ h => h) (Or.inl ⟨by rfl, ?_⟩) (by assumption) ?_
        rotate_left 1
        · (intro w' hSw; (try dsimp only at hSw); go_simp; try with_reducible rfl)
        try simp only [Act.put, List.setIfInBounds_toArray, List.set_cons_zero, List.set_cons_succ, List.getElem_toArray, List.getElem_cons_zero, List.getElem_cons_succ]
        refine wpAnyH_take (i := 7) (v := ?_) rfl (by kernel_rfl) (by kernel_rfl) (by kernel_rfl) (fun _ _ _ h => h) (Or.inl ⟨by rfl, ?_⟩) (by assumption) ?_
        rotate_left 1
        · (intro w' hSw; (try dsimp only at hSw); go_simp; try with_reducible rfl)
        try simp only [Act.put, List.setIfInBounds_toArray, List.set_cons_zero, List.set_cons_succ, List.getElem_toArray, List.getElem_cons_zero, List.getElem_cons_succ]
        refine wpAnyH_take (i := 8) (v := ?_) rfl (by kernel_rfl) (by kernel_rfl) (by kernel_rfl) (fun _ _ _ h => h) (Or.inl ⟨by rfl, ?_⟩) (by assumption) ?_
        rotate_left 1
        · (intro w' hSw; (try dsimp only at hSw); go_simp; try with_reducible rfl)
        try simp only [Act.put, List.setIfInBounds_toArray, List.set_cons_zero, List.set_cons_succ, List.getElem_toArray, List.getElem_cons_zero, List.getElem_cons_succ]
        refine wpAnyH_ready (rs := [10]) (by kernel_rfl) (by simp) ?_
        refine AllReadyH.cons rfl (fun K hK => ?_) AllReadyH.nil
        have g0 : U3.cell? ⟨gg, 0, none⟩ = some (.int .i64 0) := EB.out.c0
        have g1 : U3.cell? ⟨gg, 1, none⟩ = some (.int .i64 0) := EB.out.c1
        have f0 := EB.out.fz 0
        have f1 := EB.out.fz 1
        have ln : gg < U3.heap.size := EB.out.lt
        simp only [List.getElem_toArray, List.getElem_cons_zero, List.getElem_cons_succ]
        go_simp
        have EX := hik (row2_set EB.out (.int .i64 (El.ad Sm (El.nb d)).v.1) (.int .i64 (El.ad Sm (El.nb d)).v.2))
        replace KW := hik (chg2_set KW.out gg (fun l => absurd l (by omega)) (.int .i64 (El.ad Sm (El.nb d)).v.1) (.int .i64 (El.ad Sm (El.nb d)).v.2))
        refine hK.out _ _ (SA.out _ KW.out) (fun hHeld => ?_)
        clear hK K
        try simp only [Act.put, List.setIfInBounds_toArray, List.set_cons_zero, List.set_cons_succ, List.getElem_toArray, List.getElem_cons_zero, List.getElem_cons_succ]
        clear g0 g1 f0 f1 ln EB
        refine wpAnyH_take (i := 11) (v := ?_) rfl (by kernel_rfl) (by kernel_rfl) (by kernel_rfl) (fun _ _ _ h => h) (Or.inl ⟨by rfl, ?_⟩) (by assumption) ?_
        rotate_left 1
        · (intro w' hSw; (try dsimp only at hSw); go_simp; try with_reducible rfl)
        try simp only [Act.put, List.setIfInBounds_toArray, List.set_cons_zero, List.set_cons_succ, List.getElem_toArray, List.getElem_cons_zero, List.getElem_cons_succ]
        refine wpAnyH_done (by kernel_rfl) ?_ _
        clear SA
        go_wp2_with fail
        go_meet
        exact ⟨gg, d, rfl, rfl, HD, EX, KW, hik lg⟩
  case rest =>
    as_aux_lemma =>
      obtain ⟨q8, d1, rfl, rfl, EWD, EW, KX, EWL⟩ := hcut
      rename World => W8
      have EW8 := hik KX.out.size
      replace G := hik (G.out.trans KX.out)
      replace TB := hik (RowsE.keep TB.out KX.out)
      replace OS := hik (OS.out.keep KX.out)
      replace RS := hik (rowIs_keep RS.out KX.out)
      replace E1 := hik (rowIs_keep E1.out KX.out)
      clear KX
      have zRS : q5 < W8.heap.size := RS.out.lt
      have xRS0 : W8.cell? ⟨q5, 0, none⟩ = some (.slice cs len caps) := RS.out.cell (by omega)
      have xRS1 : W8.cell? ⟨q5, 1, none⟩ = some (.int .i64 at') := RS.out.cell (by omega)
      have xRS2 : W8.cell? ⟨q5, 2, none⟩ = some (.string st) := RS.out.cell (by omega)
      have xRS3 : W8.cell? ⟨q5, 3, none⟩ = some (.int .i64 ct) := RS.out.cell (by omega)
      go_wp2_with fail
      refine (QC.out cT pT cs caps _ TB (hik OS.out.pairs) (hik (ht.out.keep G.out))).mono ?_
      rintro e W9 ⟨⟨cR, pR, H, Cr, cP, pP, cV, pV, cS, pS, rfl, hR, hP, hV, hS, hap, kk⟩, hcap, hin⟩
      clear zRS xRS0 xRS1 xRS2 xRS3
      replace G := hik (G.out.trans kk)
      replace TB := hik (RowsE.keep TB.out kk)
      replace OS := hik (OS.out.keep kk)
      replace RS := hik (rowIs_keep RS.out kk)
      replace E1 := hik (rowIs_keep E1.out kk)
      replace EW := hik (rowIs_keep EW.out kk)
      have OR := hik hR
      have hcp : v ≤ pR ∧ (pR : Int) ≤ 9223372036854775807 := hcap
      have HCr := hik (show ∀ i, i < v → Cr i = k + 2 from fun i hi => by
        obtain ⟨xb, xo, ec, _, _, hc, _⟩ := hR.top i hi
        subst ec
        obtain ⟨A, hA⟩ := hin _ xb xo v pR rfl rfl i hi
        rw [hc] at hA
        injection hA with h1
        injection h1 with _ _ h3)
      clear hR hP hV hS hap hcap hin
      clear kk
      go_upto_region 10 with fail
      obtain ⟨q10, hq10⟩ : ∃ q, q = W9.heap.size := ⟨_, rfl⟩
      have kk := (Chg.refl nob W9).alloc (.cells #[.slice cS len pS, .int .i64 aa, .string ss, .int .i64 cc] 28)
      replace G := hik (G.out.trans kk)
      replace TB := hik (RowsE.keep TB.out kk)
      replace OS := hik (OS.out.keep kk)
      replace RS := hik (rowIs_keep RS.out kk)
      replace E1 := hik (rowIs_keep E1.out kk)
      replace EW := hik (rowIs_keep EW.out kk)
      replace OR := hik (OR.out.keep kk)
      have R1 : Hid (World.rowIs (W9.alloc (.cells #[.slice cS len pS, .int .i64 aa, .string ss, .int .i64 cc] 28)) (q10) 28 4 (pv4 (.slice cS len pS) (.int .i64 aa) (.string ss) (.int .i64 cc))) := hik (by rw [hq10]; simpa using row4_new W9 (.slice cS len pS) (.int .i64 aa) (.string ss) (.int .i64 cc) 28)
      clear kk
      rw [← hq10]
      generalize hE : (W9.alloc (.cells #[.slice cS len pS, .int .i64 aa, .string ss, .int .i64 cc] 28)) = W10 at G TB OS RS E1 EW OR R1 ⊢
      clear hE hq10
      have zEW : q8 < W10.heap.size := EW.out.lt
      have xEW0 : W10.cell? ⟨q8, 0, none⟩ = some (.int .i64 (El.ad Sm (El.nb d1)).v.1) := EW.out.cell (by omega)
      have xEW1 : W10.cell? ⟨q8, 1, none⟩ = some (.int .i64 (El.ad Sm (El.nb d1)).v.2) := EW.out.cell (by omega)
      have zRS : q5 < W10.heap.size := RS.out.lt
      have xRS0 : W10.cell? ⟨q5, 0, none⟩ = some (.slice cs len caps) := RS.out.cell (by omega)
      have xRS1 : W10.cell? ⟨q5, 1, none⟩ = some (.int .i64 at') := RS.out.cell (by omega)
      have xRS2 : W10.cell? ⟨q5, 2, none⟩ = some (.string st) := RS.out.cell (by omega)
      have xRS3 : W10.cell? ⟨q5, 3, none⟩ = some (.int .i64 ct) := RS.out.cell (by omega)
      go_wp2_with fail
      refine (QV.out (El.ad Sm (El.nb d1)) v (by omega) Gg cR pR _ _ cs caps _ (hik OR.out.rows) (hik OS.out.pairs) (hik (ht.out.keep G.out))).mono ?_
      rintro e W11 ⟨b1, b2, b3, b4, b5, b6, b7, b8, b9, b10, b11, he, kk⟩
      clear zEW xEW0 xEW1 zRS xRS0 xRS1 xRS2 xRS3
      replace G := hik (G.out.trans kk)
      replace TB := hik (RowsE.keep TB.out kk)
      replace OS := hik (OS.out.keep kk)
      replace RS := hik (rowIs_keep RS.out kk)
      replace E1 := hik (rowIs_keep E1.out kk)
      replace EW := hik (rowIs_keep EW.out kk)
      replace OR := hik (OR.out.keep kk)
      replace R1 := hik (rowIs_keep R1.out kk)
      rw [L1.out d1 EWD.out.1 EWD.out.2] at he
      subst he
      clear kk
      go_upto_region 11 with fail
      obtain ⟨q12, hq12⟩ : ∃ q, q = W11.heap.size := ⟨_, rfl⟩
      have kk := ((Chg.refl nob W11).alloc (.cells #[.int .i64 b4, .int .i64 b5] 31)).alloc (.cells #[.slice b6 b7 b8, .int .i64 b9, .string b10, .int .i64 b11] 28)
      replace G := hik (G.out.trans kk)
      replace TB := hik (RowsE.keep TB.out kk)
      replace OS := hik (OS.out.keep kk)
      replace RS := hik (rowIs_keep RS.out kk)
      replace E1 := hik (rowIs_keep E1.out kk)
      replace EW := hik (rowIs_keep EW.out kk)
      replace OR := hik (OR.out.keep kk)
      replace R1 := hik (rowIs_keep R1.out kk)
      have F1 : Hid (World.rowIs ((W11.alloc (.cells #[.int .i64 b4, .int .i64 b5] 31)).alloc (.cells #[.slice b6 b7 b8, .int .i64 b9, .string b10, .int .i64 b11] 28)) (q12) 31 2 (pv2 (.int .i64 b4) (.int .i64 b5))) := hik (by rw [hq12]; simpa using World.rowIs.alloc (row2_new W11 (.int .i64 b4) (.int .i64 b5) 31) (.cells #[.slice b6 b7 b8, .int .i64 b9, .string b10, .int .i64 b11] 28))
      have F2 : Hid (World.rowIs ((W11.alloc (.cells #[.int .i64 b4, .int .i64 b5] 31)).alloc (.cells #[.slice b6 b7 b8, .int .i64 b9, .string b10, .int .i64 b11] 28)) (q12 + 1) 28 4 (pv4 (.slice b6 b7 b8) (.int .i64 b9) (.string b10) (.int .i64 b11))) := hik (by rw [hq12]; simpa using row4_new (W11.alloc (.cells #[.int .i64 b4, .int .i64 b5] 31)) (.slice b6 b7 b8) (.int .i64 b9) (.string b10) (.int .i64 b11) 28)
      clear kk
      rw [← hq12]
      generalize hE : ((W11.alloc (.cells #[.int .i64 b4, .int .i64 b5] 31)).alloc (.cells #[.slice b6 b7 b8, .int .i64 b9, .string b10, .int .i64 b11] 28)) = W12 at G TB OS RS E1 EW OR R1 F1 F2 ⊢
      clear hE hq12
      clear F1 F2 R1
      obtain ⟨rb, ro, ecR, hrb, hrl, hrc, _⟩ := OR.out.top 0 (by omega)
      subst ecR
      obtain ⟨u, hu⟩ : ∃ u, u = v - 1 := ⟨_, rfl⟩
      have hwu : IntKind.i64.wrap ((v : Int) - 1) = (u : Int) := by rw [IntKind.wrap_i64]; omega
      have hup : (u : Int) ≤ (pR : Int) := by omega
      have hu0 : ¬ (u : Int) < 0 := by omega
      have hu4 : u ≤ 4096 := by omega
      have HU := hik hu
      have L3 := hik (fun (x : El) (G : Nat → Nat → El) => L2.out x G)
      rw [← hu] at L3
      have RU := hik (show RowsV W12 (some ⟨rb, ro, none⟩) u (fun i => some ⟨H i, 0, none⟩) (fun _ => k + 2) Cr (fun i => cA (Gg i)) (fun i => cB (Gg i)) from fun i hi => OR.out.rows i (by omega))
      clear hrc hu
      go_upto_region 11 with fail
      go_cut [22, 23, 24, 25] (fun u1 u2 u3 qq W => qq = .int .i64 18 ∧ Hid (Chg nob W12 W))
      case first =>
        as_aux_lemma =>
          have y0 : W12.cell? ⟨q7, 0, none⟩ = some (.int .i64 Sm.v.1) := E1.out.cell (by omega)
          have y1 : W12.cell? ⟨q7, 1, none⟩ = some (.int .i64 Sm.v.2) := E1.out.cell (by omega)
          have x0 : W12.cell? ⟨q5, 0, none⟩ = some (.slice cs len caps) := RS.out.cell (by omega)
          have x1 : W12.cell? ⟨q5, 1, none⟩ = some (.int .i64 at') := RS.out.cell (by omega)
          have x2 : W12.cell? ⟨q5, 2, none⟩ = some (.string st) := RS.out.cell (by omega)
          have x3 : W12.cell? ⟨q5, 3, none⟩ = some (.int .i64 ct) := RS.out.cell (by omega)
          have KW := hik ((Chg.refl nob W12).drew1)
          have SA := hik (fun (WW : World) (kW : Chg nob W12 WW) => (show (WW.cell? ⟨q7, 0, none⟩ = some (.int .i64 Sm.v.1) ∧ WW.cell? ⟨q7, 1, none⟩ = some (.int .i64 Sm.v.2) ∧ WW.cell? ⟨q5, 0, none⟩ = some (.slice cs len caps) ∧ WW.cell? ⟨q5, 1, none⟩ = some (.int .i64 at') ∧ WW.cell? ⟨q5, 2, none⟩ = some (.string st) ∧ WW.cell? ⟨q5, 3, none⟩ = some (.int .i64 ct)) from ⟨kW.see y0, kW.see y1, kW.see x0, kW.see x1, kW.see x2, kW.see x3⟩))
          refine wp_region_held_drew (S := fun w' => w'.cell? ⟨q7, 0, none⟩ = some (.int .i64 Sm.v.1) ∧ w'.cell? ⟨q7, 1, none⟩ = some (.int .i64 Sm.v.2) ∧ w'.cell? ⟨q5, 0, none⟩ = some (.slice cs len caps) ∧ w'.cell? ⟨q5, 1, none⟩ = some (.int .i64 at') ∧ w'.cell? ⟨q5, 2, none⟩ = some (.string st) ∧ w'.cell? ⟨q5, 3, none⟩ = some (.int .i64 ct)) (by kernel_rfl) ⟨y0, y1, x0, x1, x2, x3⟩ (fun hHeld => ?_)
          refine wpAnyH_take (i := 0) (v := ?_) rfl (by kernel_rfl) (by kernel_rfl) (by kernel_rfl) (fun _ _ _ h => h) (Or.inl ⟨by rfl, ?_⟩) (by assumption) ?_
          rotate_left 1
          · (intro w' hSw; (try dsimp only at hSw); go_simp; try with_reducible rfl)
          try simp only [Act.put, List.setIfInBounds_toArray, List.set_cons_zero, List.set_cons_succ, List.getElem_toArray, List.getElem_cons_zero, List.getElem_cons_succ]
          refine wpAnyH_take (i := 1) (v := ?_) rfl (by kernel_rfl) (by kernel_rfl) (by kernel_rfl) (fun _ _ _ h => h) (Or.inl ⟨by rfl, ?_⟩) (by assumption) ?_
          rotate_left 1
          · (intro w' hSw; (try dsimp only at hSw); go_simp; try with_reducible rfl)
          try simp only [Act.put, List.setIfInBounds_toArray, List.set_cons_zero, List.set_cons_succ, List.getElem_toArray, List.getElem_cons_zero, List.getElem_cons_succ]
          refine wpAnyH_take (i := 2) (v := ?_) rfl (by kernel_rfl) (by kernel_rfl) (by kernel_rfl) (fun _ _ _ h => h) (Or.inl ⟨by rfl, ?_⟩) (by assumption) ?_
          rotate_left 1
          · (intro w' hSw; (try dsimp only at hSw); go_simp; try with_reducible rfl)
          try simp only [Act.put, List.setIfInBounds_toArray, List.set_cons_zero, List.set_cons_succ, List.getElem_toArray, List.getElem_cons_zero, List.getElem_cons_succ]
          refine wpAnyH_take (i := 3) (v := ?_) rfl (by kernel_rfl) (by kernel_rfl) (by kernel_rfl) (fun _ _ _ h => h) (Or.inl ⟨by rfl, ?_⟩) (by assumption) ?_
          rotate_left 1
          · (intro w' hSw; (try dsimp only at hSw); go_simp; try with_reducible rfl)
          try simp only [Act.put, List.setIfInBounds_toArray, List.set_cons_zero, List.set_cons_succ, List.getElem_toArray, List.getElem_cons_zero, List.getElem_cons_succ]
          refine wpAnyH_take (i := 4) (v := .int .i64 (u : Int)) rfl (by kernel_rfl) (by kernel_rfl) (by kernel_rfl) (fun _ _ _ h => h) (Or.inl ⟨by rfl, ?_⟩) (by assumption) ?_
          · (intro w' hSw; (try dsimp only at hSw); go_simp; first | done | exact hwu | rw [hwu])
          try simp only [Act.put, List.setIfInBounds_toArray, List.set_cons_zero, List.set_cons_succ, List.getElem_toArray, List.getElem_cons_zero, List.getElem_cons_succ]
          refine wpAnyH_take (i := 5) (v := .slice (some ⟨rb, ro, none⟩) u pR) rfl (by kernel_rfl) (by kernel_rfl) (by kernel_rfl) (fun _ _ _ h => h) (Or.inl ⟨by rfl, ?_⟩) (by assumption) ?_
          · (intro w' hSw; (try dsimp only at hSw); go_simp; first | done | (simp; omega) | skip)
          try simp only [Act.put, List.setIfInBounds_toArray, List.set_cons_zero, List.set_cons_succ, List.getElem_toArray, List.getElem_cons_zero, List.getElem_cons_succ]
          refine wpAnyH_take (i := 6) (v := ?_) rfl (by kernel_rfl) (by kernel_rfl) (by kernel_rfl) (fun _ _ _ h => h) (Or.inl ⟨by rfl, ?_⟩) (by assumption) ?_
          rotate_left 1
          · (intro w' hSw; (try dsimp only at hSw); go_simp; try with_reducible rfl)
          try simp only [Act.put, List.setIfInBounds_toArray, List.set_cons_zero, List.set_cons_succ, List.getElem_toArray, List.getElem_cons_zero, List.getElem_cons_succ]
          refine wpAnyH_take (i := 7) (v := ?_) rfl (by kernel_rfl) (by kernel_rfl) (by kernel_rfl) (fun _ _ _ h => h) (Or.inl ⟨by rfl, ?_⟩) (by assumption) ?_
          rotate_left 1
          · (intro w' hSw; (try dsimp only at hSw); go_simp; try with_reducible rfl)
          try simp only [Act.put, List.setIfInBounds_toArray, List.set_cons_zero, List.set_cons_succ, List.getElem_toArray, List.getElem_cons_zero, List.getElem_cons_succ]
          refine wpAnyH_ready (rs := [8, 14, 15]) (by kernel_rfl) (by simp) ?_
          refine AllReadyH.cons rfl (fun K hK => ?_) ?_
          · refine stepL_callN 14 #[.tmp 94, .tmp 95, .tmp 99, .tmp 100, .tmp 101] #[3, 31, 24, 3, 28] (by rfl) (by rfl) #[.int .i64 (k : Int), .agg #[.int .i64 Sm.v.1, .int .i64 Sm.v.2], .slice (some ⟨rb, ro, none⟩) u pR, .int .i64 (v : Int), .agg #[.slice cs len caps, .int .i64 at', .string st, .int .i64 ct]] (by simp only [List.map_toArray, List.map_cons, List.map_nil] <;> rfl) (run_go Tryz.func14 (by kernel_rfl) (by kernel_rfl) _ _) (QV.out Sm u hu4 Gg (some ⟨rb, ro, none⟩) pR _ _ cs caps _ (hik (RowsV.keep RU.out KW.out)) (hik (OS.out.keep KW.out).pairs) (hik (ht.out.keep (G.out.trans KW.out)))) ?_
            rintro e Y1 ⟨b1, b2, b3, b4, b5, b6, b7, b8, b9, b10, b11, he, kk⟩
            rw [L3.out Sm Gg] at he
            refine ⟨_, he, ?_⟩
            replace KW := hik (KW.out.trans kk)
            refine hK.out _ _ (SA.out _ KW.out) (fun hHeld => ?_)
            clear hK K
            try simp only [Act.put, List.setIfInBounds_toArray, List.set_cons_zero, List.set_cons_succ, List.getElem_toArray, List.getElem_cons_zero, List.getElem_cons_succ]
            clear he kk
            refine wpAnyH_take (i := 9) (v := ?_) rfl (by kernel_rfl) (by kernel_rfl) (by kernel_rfl) (fun _ _ _ h => h) (Or.inl ⟨by rfl, ?_⟩) (by assumption) ?_
            rotate_left 1
            · (intro w' hSw; (try dsimp only at hSw); go_simp; try with_reducible rfl)
            try simp only [Act.put, List.setIfInBounds_toArray, List.set_cons_zero, List.set_cons_succ, List.getElem_toArray, List.getElem_cons_zero, List.getElem_cons_succ]
            refine wpAnyH_take (i := 10) (v := ?_) rfl (by kernel_rfl) (by kernel_rfl) (by kernel_rfl) (fun _ _ _ h => h) (Or.inl ⟨by rfl, ?_⟩) (by assumption) ?_
            rotate_left 1
            · (intro w' hSw; (try dsimp only at hSw); go_simp; try with_reducible rfl)
            try simp only [Act.put, List.setIfInBounds_toArray, List.set_cons_zero, List.set_cons_succ, List.getElem_toArray, List.getElem_cons_zero, List.getElem_cons_succ]
            refine wpAnyH_take (i := 11) (v := ?_) rfl (by kernel_rfl) (by kernel_rfl) (by kernel_rfl) (fun _ _ _ h => h) (Or.inl ⟨by rfl, ?_⟩) (by assumption) ?_
            rotate_left 1
            · (intro w' hSw; (try dsimp only at hSw); go_simp; try with_reducible rfl)
            try simp only [Act.put, List.setIfInBounds_toArray, List.set_cons_zero, List.set_cons_succ, List.getElem_toArray, List.getElem_cons_zero, List.getElem_cons_succ]
            refine wpAnyH_take (i := 12) (v := ?_) rfl (by kernel_rfl) (by kernel_rfl) (by kernel_rfl) (fun _ _ _ h => h) (Or.inl ⟨by rfl, ?_⟩) (by assumption) ?_
            rotate_left 1
            · (intro w' hSw; (try dsimp only at hSw); go_simp; try with_reducible rfl)
            try simp only [Act.put, List.setIfInBounds_toArray, List.set_cons_zero, List.set_cons_succ, List.getElem_toArray, List.getElem_cons_zero, List.getElem_cons_succ]
            refine wpAnyH_take (i := 13) (v := ?_) rfl (by kernel_rfl) (by kernel_rfl) (by kernel_rfl) (fun _ _ _ h => h) (Or.inl ⟨by rfl, ?_⟩) (by assumption) ?_
            rotate_left 1
            · (intro w' hSw; (try dsimp only at hSw); go_simp; try with_reducible rfl)
            try simp only [Act.put, List.setIfInBounds_toArray, List.set_cons_zero, List.set_cons_succ, List.getElem_toArray, List.getElem_cons_zero, List.getElem_cons_succ]
            refine wpAnyH_ready (rs := [14, 15]) (by kernel_rfl) (by simp) ?_
            refine AllReadyH.cons rfl (fun K hK => ?_) ?_
            · simp only [List.getElem_toArray, List.getElem_cons_zero, List.getElem_cons_succ]
              go_simp
              obtain ⟨gb1, hgb1⟩ : ∃ q, q = Y1.heap.size := ⟨_, rfl⟩
              have B1 : Hid (World.rowIs ((World.alloc Y1 (.cells #[.int .i64 0, .int .i64 0] 31))) gb1 31 2 (pv2 (.int .i64 0) (.int .i64 0))) := hik (by rw [hgb1]; exact row2_new Y1 _ _ _)
              have lb1 : W12.heap.size ≤ gb1 := by rw [hgb1]; exact KW.out.size
              replace KW : Hid (Chg nob W12 ((World.alloc Y1 (.cells #[.int .i64 0, .int .i64 0] 31)))) := hik (KW.out.alloc _)
              generalize hUA : (World.alloc Y1 (.cells #[.int .i64 0, .int .i64 0] 31)) = VA2 at B1 KW ⊢
              clear hUA
              rw [← hgb1]
              clear hgb1
              refine hK.out _ _ (SA.out _ KW.out) (fun hHeld => ?_)
              clear hK K
              try simp only [Act.put, List.setIfInBounds_toArray, List.set_cons_zero, List.set_cons_succ, List.getElem_toArray, List.getElem_cons_zero, List.getElem_cons_succ]
              refine wpAnyH_ready (rs := [15]) (by kernel_rfl) (by simp) ?_
              refine AllReadyH.cons rfl (fun K hK => ?_) AllReadyH.nil
              simp only [List.getElem_toArray, List.getElem_cons_zero, List.getElem_cons_succ]
              go_simp
              obtain ⟨gb2, hgb2⟩ : ∃ q, q = VA2.heap.size := ⟨_, rfl⟩
              have B2 : Hid (World.rowIs ((World.alloc VA2 (.cells #[.slice none 0 0, .int .i64 0, .string ⟨#[]⟩, .int .i64 0] 28))) gb2 28 4 (pv4 (.slice none 0 0) (.int .i64 0) (.string ⟨#[]⟩) (.int .i64 0))) := hik (by rw [hgb2]; exact row4_new VA2 _ _ _ _ _)
              have lb2 : W12.heap.size ≤ gb2 := by rw [hgb2]; exact KW.out.size
              replace B1 := hik (World.rowIs.alloc B1.out (.cells #[.slice none 0 0, .int .i64 0, .string ⟨#[]⟩, .int .i64 0] 28))
              replace KW : Hid (Chg nob W12 ((World.alloc VA2 (.cells #[.slice none 0 0, .int .i64 0, .string ⟨#[]⟩, .int .i64 0] 28)))) := hik (KW.out.alloc _)
              generalize hUA : (World.alloc VA2 (.cells #[.slice none 0 0, .int .i64 0, .string ⟨#[]⟩, .int .i64 0] 28)) = VA3 at B2 KW B1 ⊢
              clear hUA
              rw [← hgb2]
              clear hgb2
              refine hK.out _ _ (SA.out _ KW.out) (fun hHeld => ?_)
              clear hK K
              try simp only [Act.put, List.setIfInBounds_toArray, List.set_cons_zero, List.set_cons_succ, List.getElem_toArray, List.getElem_cons_zero, List.getElem_cons_succ]
              refine wpAnyH_take (i := 16) (v := ?_) rfl (by kernel_rfl) (by kernel_rfl) (by kernel_rfl) (fun _ _ _ h => h) (Or.inl ⟨by rfl, ?_⟩) (by assumption) ?_
              rotate_left 1
              · (intro w' hSw; (try dsimp only at hSw); go_simp; try with_reducible rfl)
              try simp only [Act.put, List.setIfInBounds_toArray, List.set_cons_zero, List.set_cons_succ, List.getElem_toArray, List.getElem_cons_zero, List.getElem_cons_succ]
              refine wpAnyH_ready (rs := [17]) (by kernel_rfl) (by simp) ?_
              refine AllReadyH.cons rfl (fun K hK => ?_) AllReadyH.nil
              have g0_ : VA3.cell? ⟨gb1, 0, none⟩ = some (.int .i64 0) := B1.out.cell (by omega)
              have gf0_ := B1.out.frozen 0
              have g1_ : VA3.cell? ⟨gb1, 1, none⟩ = some (.int .i64 0) := B1.out.cell (by omega)
              have gf1_ := B1.out.frozen 1
              have gl_ : gb1 < VA3.heap.size := B1.out.lt
              simp only [List.getElem_toArray, List.getElem_cons_zero, List.getElem_cons_succ]
              go_simp
              replace KW := hik (chg2_set KW.out gb1 (fun l => absurd l (by omega)) (.int .i64 b4) (.int .i64 b5))
              have qx := chg2_set (Chg.refl (fun x => x = gb1) VA3) gb1 (fun _ => rfl) (.int .i64 b4) (.int .i64 b5)
              replace B2 := hik (rowIs_chg B2.out qx (fun e => absurd (rowIs_kind (e ▸ B2.out) B1.out) (by decide)))
              clear qx
              generalize hUS : ((VA3.setCell ⟨gb1, 0, none⟩ (.int .i64 b4)).setCell ⟨gb1, 1, none⟩ (.int .i64 b5)) = VS4 at KW B2 ⊢
              clear hUS
              refine hK.out _ _ (SA.out _ KW.out) (fun hHeld => ?_)
              clear hK K
              try simp only [Act.put, List.setIfInBounds_toArray, List.set_cons_zero, List.set_cons_succ, List.getElem_toArray, List.getElem_cons_zero, List.getElem_cons_succ]
              clear gl_ g0_ gf0_ g1_ gf1_
              refine wpAnyH_ready (rs := [18]) (by kernel_rfl) (by simp) ?_
              refine AllReadyH.cons rfl (fun K hK => ?_) AllReadyH.nil
              have g0_ : VS4.cell? ⟨gb2, 0, none⟩ = some (.slice none 0 0) := B2.out.cell (by omega)
              have gf0_ := B2.out.frozen 0
              have g1_ : VS4.cell? ⟨gb2, 1, none⟩ = some (.int .i64 0) := B2.out.cell (by omega)
              have gf1_ := B2.out.frozen 1
              have g2_ : VS4.cell? ⟨gb2, 2, none⟩ = some (.string ⟨#[]⟩) := B2.out.cell (by omega)
              have gf2_ := B2.out.frozen 2
              have g3_ : VS4.cell? ⟨gb2, 3, none⟩ = some (.int .i64 0) := B2.out.cell (by omega)
              have gf3_ := B2.out.frozen 3
              have gl_ : gb2 < VS4.heap.size := B2.out.lt
              simp only [List.getElem_toArray, List.getElem_cons_zero, List.getElem_cons_succ]
              go_simp
              replace KW := hik (chg4_set KW.out gb2 (fun l => absurd l (by omega)) (.slice b6 b7 b8) (.int .i64 b9) (.string b10) (.int .i64 b11))
              generalize hUS : ((((VS4.setCell ⟨gb2, 0, none⟩ (.slice b6 b7 b8)).setCell ⟨gb2, 1, none⟩ (.int .i64 b9)).setCell ⟨gb2, 2, none⟩ (.string b10)).setCell ⟨gb2, 3, none⟩ (.int .i64 b11)) = VS5 at KW ⊢
              clear hUS
              refine hK.out _ _ (SA.out _ KW.out) (fun hHeld => ?_)
              clear hK K
              try simp only [Act.put, List.setIfInBounds_toArray, List.set_cons_zero, List.set_cons_succ, List.getElem_toArray, List.getElem_cons_zero, List.getElem_cons_succ]
              clear gl_ g0_ gf0_ g1_ gf1_ g2_ gf2_ g3_ gf3_
              refine wpAnyH_take (i := 19) (v := ?_) rfl (by kernel_rfl) (by kernel_rfl) (by kernel_rfl) (fun _ _ _ h => h) (Or.inl ⟨by rfl, ?_⟩) (by assumption) ?_
              rotate_left 1
              · (intro w' hSw; (try dsimp only at hSw); go_simp; try with_reducible rfl)
              try simp only [Act.put, List.setIfInBounds_toArray, List.set_cons_zero, List.set_cons_succ, List.getElem_toArray, List.getElem_cons_zero, List.getElem_cons_succ]
              refine wpAnyH_done (by kernel_rfl) ?_ _
              clear SA
              go_wp2_with fail
              go_meet
              exact ⟨rfl, KW⟩
            · refine AllReadyH.cons rfl (fun K hK => ?_) AllReadyH.nil
              simp only [List.getElem_toArray, List.getElem_cons_zero, List.getElem_cons_succ]
              go_simp
              obtain ⟨gb2, hgb2⟩ : ∃ q, q = Y1.heap.size := ⟨_, rfl⟩
              have B2 : Hid (World.rowIs ((World.alloc Y1 (.cells #[.slice none 0 0, .int .i64 0, .string ⟨#[]⟩, .int .i64 0] 28))) gb2 28 4 (pv4 (.slice none 0 0) (.int .i64 0) (.string ⟨#[]⟩) (.int .i64 0))) := hik (by rw [hgb2]; exact row4_new Y1 _ _ _ _ _)
              have lb2 : W12.heap.size ≤ gb2 := by rw [hgb2]; exact KW.out.size
              replace KW : Hid (Chg nob W12 ((World.alloc Y1 (.cells #[.slice none 0 0, .int .i64 0, .string ⟨#[]⟩, .int .i64 0] 28)))) := hik (KW.out.alloc _)
              generalize hUA : (World.alloc Y1 (.cells #[.slice none 0 0, .int .i64 0, .string ⟨#[]⟩, .int .i64 0] 28)) = VA2 at B2 KW ⊢
              clear hUA
              rw [← hgb2]
              clear hgb2
              refine hK.out _ _ (SA.out _ KW.out) (fun hHeld => ?_)
              clear hK K
              try simp only [Act.put, List.setIfInBounds_toArray, List.set_cons_zero, List.set_cons_succ, List.getElem_toArray, List.getElem_cons_zero, List.getElem_cons_succ]
              refine wpAnyH_ready (rs := [14]) (by kernel_rfl) (by simp) ?_
              refine AllReadyH.cons rfl (fun K hK => ?_) AllReadyH.nil
              simp only [List.getElem_toArray, List.getElem_cons_zero, List.getElem_cons_succ]
              go_simp
              obtain ⟨gb1, hgb1⟩ : ∃ q, q = VA2.heap.size := ⟨_, rfl⟩
              have B1 : Hid (World.rowIs ((World.alloc VA2 (.cells #[.int .i64 0, .int .i64 0] 31))) gb1 31 2 (pv2 (.int .i64 0) (.int .i64 0))) := hik (by rw [hgb1]; exact row2_new VA2 _ _ _)
              have lb1 : W12.heap.size ≤ gb1 := by rw [hgb1]; exact KW.out.size
              replace B2 := hik (World.rowIs.alloc B2.out (.cells #[.int .i64 0, .int .i64 0] 31))
              replace KW : Hid (Chg nob W12 ((World.alloc VA2 (.cells #[.int .i64 0, .int .i64 0] 31)))) := hik (KW.out.alloc _)
              generalize hUA : (World.alloc VA2 (.cells #[.int .i64 0, .int .i64 0] 31)) = VA3 at B1 KW B2 ⊢
              clear hUA
              rw [← hgb1]
              clear hgb1
              refine hK.out _ _ (SA.out _ KW.out) (fun hHeld => ?_)
              clear hK K
              try simp only [Act.put, List.setIfInBounds_toArray, List.set_cons_zero, List.set_cons_succ, List.getElem_toArray, List.getElem_cons_zero, List.getElem_cons_succ]
              refine wpAnyH_take (i := 16) (v := ?_) rfl (by kernel_rfl) (by kernel_rfl) (by kernel_rfl) (fun _ _ _ h => h) (Or.inl ⟨by rfl, ?_⟩) (by assumption) ?_
              rotate_left 1
              · (intro w' hSw; (try dsimp only at hSw); go_simp; try with_reducible rfl)
              try simp only [Act.put, List.setIfInBounds_toArray, List.set_cons_zero, List.set_cons_succ, List.getElem_toArray, List.getElem_cons_zero, List.getElem_cons_succ]
              refine wpAnyH_ready (rs := [17]) (by kernel_rfl) (by simp) ?_
              refine AllReadyH.cons rfl (fun K hK => ?_) AllReadyH.nil
              have g0_ : VA3.cell? ⟨gb1, 0, none⟩ = some (.int .i64 0) := B1.out.cell (by omega)
              have gf0_ := B1.out.frozen 0
              have g1_ : VA3.cell? ⟨gb1, 1, none⟩ = some (.int .i64 0) := B1.out.cell (by omega)
              have gf1_ := B1.out.frozen 1
              have gl_ : gb1 < VA3.heap.size := B1.out.lt
              simp only [List.getElem_toArray, List.getElem_cons_zero, List.getElem_cons_succ]
              go_simp
              replace KW := hik (chg2_set KW.out gb1 (fun l => absurd l (by omega)) (.int .i64 b4) (.int .i64 b5))
              have qx := chg2_set (Chg.refl (fun x => x = gb1) VA3) gb1 (fun _ => rfl) (.int .i64 b4) (.int .i64 b5)
              replace B2 := hik (rowIs_chg B2.out qx (fun e => absurd (rowIs_kind (e ▸ B2.out) B1.out) (by decide)))
              clear qx
              generalize hUS : ((VA3.setCell ⟨gb1, 0, none⟩ (.int .i64 b4)).setCell ⟨gb1, 1, none⟩ (.int .i64 b5)) = VS4 at KW B2 ⊢
              clear hUS
              refine hK.out _ _ (SA.out _ KW.out) (fun hHeld => ?_)
              clear hK K
              try simp only [Act.put, List.setIfInBounds_toArray, List.set_cons_zero, List.set_cons_succ, List.getElem_toArray, List.getElem_cons_zero, List.getElem_cons_succ]
              clear gl_ g0_ gf0_ g1_ gf1_
              refine wpAnyH_ready (rs := [18]) (by kernel_rfl) (by simp) ?_
              refine AllReadyH.cons rfl (fun K hK => ?_) AllReadyH.nil
              have g0_ : VS4.cell? ⟨gb2, 0, none⟩ = some (.slice none 0 0) := B2.out.cell (by omega)
              have gf0_ := B2.out.frozen 0
              have g1_ : VS4.cell? ⟨gb2, 1, none⟩ = some (.int .i64 0) := B2.out.cell (by omega)
              have gf1_ := B2.out.frozen 1
              have g2_ : VS4.cell? ⟨gb2, 2, none⟩ = some (.string ⟨#[]⟩) := B2.out.cell (by omega)
              have gf2_ := B2.out.frozen 2
              have g3_ : VS4.cell? ⟨gb2, 3, none⟩ = some (.int .i64 0) := B2.out.cell (by omega)
              have gf3_ := B2.out.frozen 3
              have gl_ : gb2 < VS4.heap.size := B2.out.lt
              simp only [List.getElem_toArray, List.getElem_cons_zero, List.getElem_cons_succ]
              go_simp
              replace KW := hik (chg4_set KW.out gb2 (fun l => absurd l (by omega)) (.slice b6 b7 b8) (.int .i64 b9) (.string b10) (.int .i64 b11))
              generalize hUS : ((((VS4.setCell ⟨gb2, 0, none⟩ (.slice b6 b7 b8)).setCell ⟨gb2, 1, none⟩ (.int .i64 b9)).setCell ⟨gb2, 2, none⟩ (.string b10)).setCell ⟨gb2, 3, none⟩ (.int .i64 b11)) = VS5 at KW ⊢
              clear hUS
              refine hK.out _ _ (SA.out _ KW.out) (fun hHeld => ?_)
              clear hK K
              try simp only [Act.put, List.setIfInBounds_toArray, List.set_cons_zero, List.set_cons_succ, List.getElem_toArray, List.getElem_cons_zero, List.getElem_cons_succ]
              clear gl_ g0_ gf0_ g1_ gf1_ g2_ gf2_ g3_ gf3_
              refine wpAnyH_take (i := 19) (v := ?_) rfl (by kernel_rfl) (by kernel_rfl) (by kernel_rfl) (fun _ _ _ h => h) (Or.inl ⟨by rfl, ?_⟩) (by assumption) ?_
              rotate_left 1
              · (intro w' hSw; (try dsimp only at hSw); go_simp; try with_reducible rfl)
              try simp only [Act.put, List.setIfInBounds_toArray, List.set_cons_zero, List.set_cons_succ, List.getElem_toArray, List.getElem_cons_zero, List.getElem_cons_succ]
              refine wpAnyH_done (by kernel_rfl) ?_ _
              clear SA
              go_wp2_with fail
              go_meet
              exact ⟨rfl, KW⟩
          · refine AllReadyH.cons rfl (fun K hK => ?_) ?_
            · simp only [List.getElem_toArray, List.getElem_cons_zero, List.getElem_cons_succ]
              go_simp
              obtain ⟨gb1, hgb1⟩ : ∃ q, q = W12.heap.size := ⟨_, rfl⟩
              have B1 : Hid (World.rowIs ((World.alloc W12 (.cells #[.int .i64 0, .int .i64 0] 31)).drew) gb1 31 2 (pv2 (.int .i64 0) (.int .i64 0))) := hik (by rw [hgb1]; exact rowIs_keep (row2_new W12 _ _ _) (Chg.refl nob _).drew1)
              have lb1 : W12.heap.size ≤ gb1 := by rw [hgb1]; exact Nat.le_refl _
              replace KW : Hid (Chg nob W12 ((World.alloc W12 (.cells #[.int .i64 0, .int .i64 0] 31)).drew)) := hik (((Chg.refl nob W12).alloc _).drew1)
              generalize hUA : (World.alloc W12 (.cells #[.int .i64 0, .int .i64 0] 31)).drew = VA1 at B1 KW ⊢
              clear hUA
              rw [← hgb1]
              clear hgb1
              refine hK.out _ _ (SA.out _ KW.out) (fun hHeld => ?_)
              clear hK K
              try simp only [Act.put, List.setIfInBounds_toArray, List.set_cons_zero, List.set_cons_succ, List.getElem_toArray, List.getElem_cons_zero, List.getElem_cons_succ]
              refine wpAnyH_ready (rs := [8, 15]) (by kernel_rfl) (by simp) ?_
              refine AllReadyH.cons rfl (fun K hK => ?_) ?_
              · refine stepL_callN 14 #[.tmp 94, .tmp 95, .tmp 99, .tmp 100, .tmp 101] #[3, 31, 24, 3, 28] (by rfl) (by rfl) #[.int .i64 (k : Int), .agg #[.int .i64 Sm.v.1, .int .i64 Sm.v.2], .slice (some ⟨rb, ro, none⟩) u pR, .int .i64 (v : Int), .agg #[.slice cs len caps, .int .i64 at', .string st, .int .i64 ct]] (by simp only [List.map_toArray, List.map_cons, List.map_nil] <;> rfl) (run_go Tryz.func14 (by kernel_rfl) (by kernel_rfl) _ _) (QV.out Sm u hu4 Gg (some ⟨rb, ro, none⟩) pR _ _ cs caps _ (hik (RowsV.keep RU.out KW.out)) (hik (OS.out.keep KW.out).pairs) (hik (ht.out.keep (G.out.trans KW.out)))) ?_
                rintro e Y2 ⟨b1, b2, b3, b4, b5, b6, b7, b8, b9, b10, b11, he, kk⟩
                rw [L3.out Sm Gg] at he
                replace B1 := hik (rowIs_keep B1.out kk)
                refine ⟨_, he, ?_⟩
                replace KW := hik (KW.out.trans kk)
                refine hK.out _ _ (SA.out _ KW.out) (fun hHeld => ?_)
                clear hK K
                try simp only [Act.put, List.setIfInBounds_toArray, List.set_cons_zero, List.set_cons_succ, List.getElem_toArray, List.getElem_cons_zero, List.getElem_cons_succ]
                clear he kk
                refine wpAnyH_take (i := 9) (v := ?_) rfl (by kernel_rfl) (by kernel_rfl) (by kernel_rfl) (fun _ _ _ h => h) (Or.inl ⟨by rfl, ?_⟩) (by assumption) ?_
                rotate_left 1
                · (intro w' hSw; (try dsimp only at hSw); go_simp; try with_reducible rfl)
                try simp only [Act.put, List.setIfInBounds_toArray, List.set_cons_zero, List.set_cons_succ, List.getElem_toArray, List.getElem_cons_zero, List.getElem_cons_succ]
                refine wpAnyH_take (i := 10) (v := ?_) rfl (by kernel_rfl) (by kernel_rfl) (by kernel_rfl) (fun _ _ _ h => h) (Or.inl ⟨by rfl, ?_⟩) (by assumption) ?_
                rotate_left 1
                · (intro w' hSw; (try dsimp only at hSw); go_simp; try with_reducible rfl)
                try simp only [Act.put, List.setIfInBounds_toArray, List.set_cons_zero, List.set_cons_succ, List.getElem_toArray, List.getElem_cons_zero, List.getElem_cons_succ]
                refine wpAnyH_take (i := 11) (v := ?_) rfl (by kernel_rfl) (by kernel_rfl) (by kernel_rfl) (fun _ _ _ h => h) (Or.inl ⟨by rfl, ?_⟩) (by assumption) ?_
                rotate_left 1
                · (intro w' hSw; (try dsimp only at hSw); go_simp; try with_reducible rfl)
                try simp only [Act.put, List.setIfInBounds_toArray, List.set_cons_zero, List.set_cons_succ, List.getElem_toArray, List.getElem_cons_zero, List.getElem_cons_succ]
                refine wpAnyH_take (i := 12) (v := ?_) rfl (by kernel_rfl) (by kernel_rfl) (by kernel_rfl) (fun _ _ _ h => h) (Or.inl ⟨by rfl, ?_⟩) (by assumption) ?_
                rotate_left 1
                · (intro w' hSw; (try dsimp only at hSw); go_simp; try with_reducible rfl)
                try simp only [Act.put, List.setIfInBounds_toArray, List.set_cons_zero, List.set_cons_succ, List.getElem_toArray, List.getElem_cons_zero, List.getElem_cons_succ]
                refine wpAnyH_take (i := 13) (v := ?_) rfl (by kernel_rfl) (by kernel_rfl) (by kernel_rfl) (fun _ _ _ h => h) (Or.inl ⟨by rfl, ?_⟩) (by assumption) ?_
                rotate_left 1
                · (intro w' hSw; (try dsimp only at hSw); go_simp; try with_reducible rfl)
                try simp only [Act.put, List.setIfInBounds_toArray, List.set_cons_zero, List.set_cons_succ, List.getElem_toArray, List.getElem_cons_zero, List.getElem_cons_succ]
                refine wpAnyH_ready (rs := [15]) (by kernel_rfl) (by simp) ?_
                refine AllReadyH.cons rfl (fun K hK => ?_) AllReadyH.nil
                simp only [List.getElem_toArray, List.getElem_cons_zero, List.getElem_cons_succ]
                go_simp
                obtain ⟨gb2, hgb2⟩ : ∃ q, q = Y2.heap.size := ⟨_, rfl⟩
                have B2 : Hid (World.rowIs ((World.alloc Y2 (.cells #[.slice none 0 0, .int .i64 0, .string ⟨#[]⟩, .int .i64 0] 28))) gb2 28 4 (pv4 (.slice none 0 0) (.int .i64 0) (.string ⟨#[]⟩) (.int .i64 0))) := hik (by rw [hgb2]; exact row4_new Y2 _ _ _ _ _)
                have lb2 : W12.heap.size ≤ gb2 := by rw [hgb2]; exact KW.out.size
                replace B1 := hik (World.rowIs.alloc B1.out (.cells #[.slice none 0 0, .int .i64 0, .string ⟨#[]⟩, .int .i64 0] 28))
                replace KW : Hid (Chg nob W12 ((World.alloc Y2 (.cells #[.slice none 0 0, .int .i64 0, .string ⟨#[]⟩, .int .i64 0] 28)))) := hik (KW.out.alloc _)
                generalize hUA : (World.alloc Y2 (.cells #[.slice none 0 0, .int .i64 0, .string ⟨#[]⟩, .int .i64 0] 28)) = VA3 at B2 KW B1 ⊢
                clear hUA
                rw [← hgb2]
                clear hgb2
                refine hK.out _ _ (SA.out _ KW.out) (fun hHeld => ?_)
                clear hK K
                try simp only [Act.put, List.setIfInBounds_toArray, List.set_cons_zero, List.set_cons_succ, List.getElem_toArray, List.getElem_cons_zero, List.getElem_cons_succ]
                refine wpAnyH_take (i := 16) (v := ?_) rfl (by kernel_rfl) (by kernel_rfl) (by kernel_rfl) (fun _ _ _ h => h) (Or.inl ⟨by rfl, ?_⟩) (by assumption) ?_
                rotate_left 1
                · (intro w' hSw; (try dsimp only at hSw); go_simp; try with_reducible rfl)
                try simp only [Act.put, List.setIfInBounds_toArray, List.set_cons_zero, List.set_cons_succ, List.getElem_toArray, List.getElem_cons_zero, List.getElem_cons_succ]
                refine wpAnyH_ready (rs := [17]) (by kernel_rfl) (by simp) ?_
                refine AllReadyH.cons rfl (fun K hK => ?_) AllReadyH.nil
                have g0_ : VA3.cell? ⟨gb1, 0, none⟩ = some (.int .i64 0) := B1.out.cell (by omega)
                have gf0_ := B1.out.frozen 0
                have g1_ : VA3.cell? ⟨gb1, 1, none⟩ = some (.int .i64 0) := B1.out.cell (by omega)
                have gf1_ := B1.out.frozen 1
                have gl_ : gb1 < VA3.heap.size := B1.out.lt
                simp only [List.getElem_toArray, List.getElem_cons_zero, List.getElem_cons_succ]
                go_simp
                replace KW := hik (chg2_set KW.out gb1 (fun l => absurd l (by omega)) (.int .i64 b4) (.int .i64 b5))
                have qx := chg2_set (Chg.refl (fun x => x = gb1) VA3) gb1 (fun _ => rfl) (.int .i64 b4) (.int .i64 b5)
                replace B2 := hik (rowIs_chg B2.out qx (fun e => absurd (rowIs_kind (e ▸ B2.out) B1.out) (by decide)))
                clear qx
                generalize hUS : ((VA3.setCell ⟨gb1, 0, none⟩ (.int .i64 b4)).setCell ⟨gb1, 1, none⟩ (.int .i64 b5)) = VS4 at KW B2 ⊢
                clear hUS
                refine hK.out _ _ (SA.out _ KW.out) (fun hHeld => ?_)
                clear hK K
                try simp only [Act.put, List.setIfInBounds_toArray, List.set_cons_zero, List.set_cons_succ, List.getElem_toArray, List.getElem_cons_zero, List.getElem_cons_succ]
                clear gl_ g0_ gf0_ g1_ gf1_
                refine wpAnyH_ready (rs := [18]) (by kernel_rfl) (by simp) ?_
                refine AllReadyH.cons rfl (fun K hK => ?_) AllReadyH.nil
                have g0_ : VS4.cell? ⟨gb2, 0, none⟩ = some (.slice none 0 0) := B2.out.cell (by omega)
                have gf0_ := B2.out.frozen 0
                have g1_ : VS4.cell? ⟨gb2, 1, none⟩ = some (.int .i64 0) := B2.out.cell (by omega)
                have gf1_ := B2.out.frozen 1
                have g2_ : VS4.cell? ⟨gb2, 2, none⟩ = some (.string ⟨#[]⟩) := B2.out.cell (by omega)
                have gf2_ := B2.out.frozen 2
                have g3_ : VS4.cell? ⟨gb2, 3, none⟩ = some (.int .i64 0) := B2.out.cell (by omega)
                have gf3_ := B2.out.frozen 3
                have gl_ : gb2 < VS4.heap.size := B2.out.lt
                simp only [List.getElem_toArray, List.getElem_cons_zero, List.getElem_cons_succ]
                go_simp
                replace KW := hik (chg4_set KW.out gb2 (fun l => absurd l (by omega)) (.slice b6 b7 b8) (.int .i64 b9) (.string b10) (.int .i64 b11))
                generalize hUS : ((((VS4.setCell ⟨gb2, 0, none⟩ (.slice b6 b7 b8)).setCell ⟨gb2, 1, none⟩ (.int .i64 b9)).setCell ⟨gb2, 2, none⟩ (.string b10)).setCell ⟨gb2, 3, none⟩ (.int .i64 b11)) = VS5 at KW ⊢
                clear hUS
                refine hK.out _ _ (SA.out _ KW.out) (fun hHeld => ?_)
                clear hK K
                try simp only [Act.put, List.setIfInBounds_toArray, List.set_cons_zero, List.set_cons_succ, List.getElem_toArray, List.getElem_cons_zero, List.getElem_cons_succ]
                clear gl_ g0_ gf0_ g1_ gf1_ g2_ gf2_ g3_ gf3_
                refine wpAnyH_take (i := 19) (v := ?_) rfl (by kernel_rfl) (by kernel_rfl) (by kernel_rfl) (fun _ _ _ h => h) (Or.inl ⟨by rfl, ?_⟩) (by assumption) ?_
                rotate_left 1
                · (intro w' hSw; (try dsimp only at hSw); go_simp; try with_reducible rfl)
                try simp only [Act.put, List.setIfInBounds_toArray, List.set_cons_zero, List.set_cons_succ, List.getElem_toArray, List.getElem_cons_zero, List.getElem_cons_succ]
                refine wpAnyH_done (by kernel_rfl) ?_ _
                clear SA
                go_wp2_with fail
                go_meet
                exact ⟨rfl, KW⟩
              · refine AllReadyH.cons rfl (fun K hK => ?_) AllReadyH.nil
                simp only [List.getElem_toArray, List.getElem_cons_zero, List.getElem_cons_succ]
                go_simp
                obtain ⟨gb2, hgb2⟩ : ∃ q, q = VA1.heap.size := ⟨_, rfl⟩
                have B2 : Hid (World.rowIs ((World.alloc VA1 (.cells #[.slice none 0 0, .int .i64 0, .string ⟨#[]⟩, .int .i64 0] 28))) gb2 28 4 (pv4 (.slice none 0 0) (.int .i64 0) (.string ⟨#[]⟩) (.int .i64 0))) := hik (by rw [hgb2]; exact row4_new VA1 _ _ _ _ _)
                have lb2 : W12.heap.size ≤ gb2 := by rw [hgb2]; exact KW.out.size
                replace B1 := hik (World.rowIs.alloc B1.out (.cells #[.slice none 0 0, .int .i64 0, .string ⟨#[]⟩, .int .i64 0] 28))
                replace KW : Hid (Chg nob W12 ((World.alloc VA1 (.cells #[.slice none 0 0, .int .i64 0, .string ⟨#[]⟩, .int .i64 0] 28)))) := hik (KW.out.alloc _)
                generalize hUA : (World.alloc VA1 (.cells #[.slice none 0 0, .int .i64 0, .string ⟨#[]⟩, .int .i64 0] 28)) = VA2 at B2 KW B1 ⊢
                clear hUA
                rw [← hgb2]
                clear hgb2
                refine hK.out _ _ (SA.out _ KW.out) (fun hHeld => ?_)
                clear hK K
                try simp only [Act.put, List.setIfInBounds_toArray, List.set_cons_zero, List.set_cons_succ, List.getElem_toArray, List.getElem_cons_zero, List.getElem_cons_succ]
                refine wpAnyH_ready (rs := [8]) (by kernel_rfl) (by simp) ?_
                refine AllReadyH.cons rfl (fun K hK => ?_) AllReadyH.nil
                refine stepL_callN 14 #[.tmp 94, .tmp 95, .tmp 99, .tmp 100, .tmp 101] #[3, 31, 24, 3, 28] (by rfl) (by rfl) #[.int .i64 (k : Int), .agg #[.int .i64 Sm.v.1, .int .i64 Sm.v.2], .slice (some ⟨rb, ro, none⟩) u pR, .int .i64 (v : Int), .agg #[.slice cs len caps, .int .i64 at', .string st, .int .i64 ct]] (by simp only [List.map_toArray, List.map_cons, List.map_nil] <;> rfl) (run_go Tryz.func14 (by kernel_rfl) (by kernel_rfl) _ _) (QV.out Sm u hu4 Gg (some ⟨rb, ro, none⟩) pR _ _ cs caps _ (hik (RowsV.keep RU.out KW.out)) (hik (OS.out.keep KW.out).pairs) (hik (ht.out.keep (G.out.trans KW.out)))) ?_
                rintro e Y3 ⟨b1, b2, b3, b4, b5, b6, b7, b8, b9, b10, b11, he, kk⟩
                rw [L3.out Sm Gg] at he
                replace B1 := hik (rowIs_keep B1.out kk)
                replace B2 := hik (rowIs_keep B2.out kk)
                refine ⟨_, he, ?_⟩
                replace KW := hik (KW.out.trans kk)
                refine hK.out _ _ (SA.out _ KW.out) (fun hHeld => ?_)
                clear hK K
                try simp only [Act.put, List.setIfInBounds_toArray, List.set_cons_zero, List.set_cons_succ, List.getElem_toArray, List.getElem_cons_zero, List.getElem_cons_succ]
                clear he kk
                refine wpAnyH_take (i := 9) (v := ?_) rfl (by kernel_rfl) (by kernel_rfl) (by kernel_rfl) (fun _ _ _ h => h) (Or.inl ⟨by rfl, ?_⟩) (by assumption) ?_
                rotate_left 1
                · (intro w' hSw; (try dsimp only at hSw); go_simp; try with_reducible rfl)
                try simp only [Act.put, List.setIfInBounds_toArray, List.set_cons_zero, List.set_cons_succ, List.getElem_toArray, List.getElem_cons_zero, List.getElem_cons_succ]
                refine wpAnyH_take (i := 10) (v := ?_) rfl (by kernel_rfl) (by kernel_rfl) (by kernel_rfl) (fun _ _ _ h => h) (Or.inl ⟨by rfl, ?_⟩) (by assumption) ?_
                rotate_left 1
                · (intro w' hSw; (try dsimp only at hSw); go_simp; try with_reducible rfl)
                try simp only [Act.put, List.setIfInBounds_toArray, List.set_cons_zero, List.set_cons_succ, List.getElem_toArray, List.getElem_cons_zero, List.getElem_cons_succ]
                refine wpAnyH_take (i := 11) (v := ?_) rfl (by kernel_rfl) (by kernel_rfl) (by kernel_rfl) (fun _ _ _ h => h) (Or.inl ⟨by rfl, ?_⟩) (by assumption) ?_
                rotate_left 1
                · (intro w' hSw; (try dsimp only at hSw); go_simp; try with_reducible rfl)
                try simp only [Act.put, List.setIfInBounds_toArray, List.set_cons_zero, List.set_cons_succ, List.getElem_toArray, List.getElem_cons_zero, List.getElem_cons_succ]
                refine wpAnyH_take (i := 12) (v := ?_) rfl (by kernel_rfl) (by kernel_rfl) (by kernel_rfl) (fun _ _ _ h => h) (Or.inl ⟨by rfl, ?_⟩) (by assumption) ?_
                rotate_left 1
                · (intro w' hSw; (try dsimp only at hSw); go_simp; try with_reducible rfl)
                try simp only [Act.put, List.setIfInBounds_toArray, List.set_cons_zero, List.set_cons_succ, List.getElem_toArray, List.getElem_cons_zero, List.getElem_cons_succ]
                refine wpAnyH_take (i := 13) (v := ?_) rfl (by kernel_rfl) (by kernel_rfl) (by kernel_rfl) (fun _ _ _ h => h) (Or.inl ⟨by rfl, ?_⟩) (by assumption) ?_
                rotate_left 1
                · (intro w' hSw; (try dsimp only at hSw); go_simp; try with_reducible rfl)
                try simp only [Act.put, List.setIfInBounds_toArray, List.set_cons_zero, List.set_cons_succ, List.getElem_toArray, List.getElem_cons_zero, List.getElem_cons_succ]
                refine wpAnyH_take (i := 16) (v := ?_) rfl (by kernel_rfl) (by kernel_rfl) (by kernel_rfl) (fun _ _ _ h => h) (Or.inl ⟨by rfl, ?_⟩) (by assumption) ?_
                rotate_left 1
                · (intro w' hSw; (try dsimp only at hSw); go_simp; try with_reducible rfl)
                try simp only [Act.put, List.setIfInBounds_toArray, List.set_cons_zero, List.set_cons_succ, List.getElem_toArray, List.getElem_cons_zero, List.getElem_cons_succ]
                refine wpAnyH_ready (rs := [17]) (by kernel_rfl) (by simp) ?_
                refine AllReadyH.cons rfl (fun K hK => ?_) AllReadyH.nil
                have g0_ : Y3.cell? ⟨gb1, 0, none⟩ = some (.int .i64 0) := B1.out.cell (by omega)
                have gf0_ := B1.out.frozen 0
                have g1_ : Y3.cell? ⟨gb1, 1, none⟩ = some (.int .i64 0) := B1.out.cell (by omega)
                have gf1_ := B1.out.frozen 1
                have gl_ : gb1 < Y3.heap.size := B1.out.lt
                simp only [List.getElem_toArray, List.getElem_cons_zero, List.getElem_cons_succ]
                go_simp
                replace KW := hik (chg2_set KW.out gb1 (fun l => absurd l (by omega)) (.int .i64 b4) (.int .i64 b5))
                have qx := chg2_set (Chg.refl (fun x => x = gb1) Y3) gb1 (fun _ => rfl) (.int .i64 b4) (.int .i64 b5)
                replace B2 := hik (rowIs_chg B2.out qx (fun e => absurd (rowIs_kind (e ▸ B2.out) B1.out) (by decide)))
                clear qx
                generalize hUS : ((Y3.setCell ⟨gb1, 0, none⟩ (.int .i64 b4)).setCell ⟨gb1, 1, none⟩ (.int .i64 b5)) = VS4 at KW B2 ⊢
                clear hUS
                refine hK.out _ _ (SA.out _ KW.out) (fun hHeld => ?_)
                clear hK K
                try simp only [Act.put, List.setIfInBounds_toArray, List.set_cons_zero, List.set_cons_succ, List.getElem_toArray, List.getElem_cons_zero, List.getElem_cons_succ]
                clear gl_ g0_ gf0_ g1_ gf1_
                refine wpAnyH_ready (rs := [18]) (by kernel_rfl) (by simp) ?_
                refine AllReadyH.cons rfl (fun K hK => ?_) AllReadyH.nil
                have g0_ : VS4.cell? ⟨gb2, 0, none⟩ = some (.slice none 0 0) := B2.out.cell (by omega)
                have gf0_ := B2.out.frozen 0
                have g1_ : VS4.cell? ⟨gb2, 1, none⟩ = some (.int .i64 0) := B2.out.cell (by omega)
                have gf1_ := B2.out.frozen 1
                have g2_ : VS4.cell? ⟨gb2, 2, none⟩ = some (.string ⟨#[]⟩) := B2.out.cell (by omega)
                have gf2_ := B2.out.frozen 2
                have g3_ : VS4.cell? ⟨gb2, 3, none⟩ = some (.int .i64 0) := B2.out.cell (by omega)
                have gf3_ := B2.out.frozen 3
                have gl_ : gb2 < VS4.heap.size := B2.out.lt
                simp only [List.getElem_toArray, List.getElem_cons_zero, List.getElem_cons_succ]
                go_simp
                replace KW := hik (chg4_set KW.out gb2 (fun l => absurd l (by omega)) (.slice b6 b7 b8) (.int .i64 b9) (.string b10) (.int .i64 b11))
                generalize hUS : ((((VS4.setCell ⟨gb2, 0, none⟩ (.slice b6 b7 b8)).setCell ⟨gb2, 1, none⟩ (.int .i64 b9)).setCell ⟨gb2, 2, none⟩ (.string b10)).setCell ⟨gb2, 3, none⟩ (.int .i64 b11)) = VS5 at KW ⊢
                clear hUS
                refine hK.out _ _ (SA.out _ KW.out) (fun hHeld => ?_)
                clear hK K
                try simp only [Act.put, List.setIfInBounds_toArray, List.set_cons_zero, List.set_cons_succ, List.getElem_toArray, List.getElem_cons_zero, List.getElem_cons_succ]
                clear gl_ g0_ gf0_ g1_ gf1_ g2_ gf2_ g3_ gf3_
                refine wpAnyH_take (i := 19) (v := ?_) rfl (by kernel_rfl) (by kernel_rfl) (by kernel_rfl) (fun _ _ _ h => h) (Or.inl ⟨by rfl, ?_⟩) (by assumption) ?_
                rotate_left 1
                · (intro w' hSw; (try dsimp only at hSw); go_simp; try with_reducible rfl)
                try simp only [Act.put, List.setIfInBounds_toArray, List.set_cons_zero, List.set_cons_succ, List.getElem_toArray, List.getElem_cons_zero, List.getElem_cons_succ]
                refine wpAnyH_done (by kernel_rfl) ?_ _
                clear SA
                go_wp2_with fail
                go_meet
                exact ⟨rfl, KW⟩
            · refine AllReadyH.cons rfl (fun K hK => ?_) AllReadyH.nil
              simp only [List.getElem_toArray, List.getElem_cons_zero, List.getElem_cons_succ]
              go_simp
              obtain ⟨gb2, hgb2⟩ : ∃ q, q = W12.heap.size := ⟨_, rfl⟩
              have B2 : Hid (World.rowIs ((World.alloc W12 (.cells #[.slice none 0 0, .int .i64 0, .string ⟨#[]⟩, .int .i64 0] 28)).drew) gb2 28 4 (pv4 (.slice none 0 0) (.int .i64 0) (.string ⟨#[]⟩) (.int .i64 0))) := hik (by rw [hgb2]; exact rowIs_keep (row4_new W12 _ _ _ _ _) (Chg.refl nob _).drew1)
              have lb2 : W12.heap.size ≤ gb2 := by rw [hgb2]; exact Nat.le_refl _
              replace KW : Hid (Chg nob W12 ((World.alloc W12 (.cells #[.slice none 0 0, .int .i64 0, .string ⟨#[]⟩, .int .i64 0] 28)).drew)) := hik (((Chg.refl nob W12).alloc _).drew1)
              generalize hUA : (World.alloc W12 (.cells #[.slice none 0 0, .int .i64 0, .string ⟨#[]⟩, .int .i64 0] 28)).drew = VA1 at B2 KW ⊢
              clear hUA
              rw [← hgb2]
              clear hgb2
              refine hK.out _ _ (SA.out _ KW.out) (fun hHeld => ?_)
              clear hK K
              try simp only [Act.put, List.setIfInBounds_toArray, List.set_cons_zero, List.set_cons_succ, List.getElem_toArray, List.getElem_cons_zero, List.getElem_cons_succ]
              refine wpAnyH_ready (rs := [8, 14]) (by kernel_rfl) (by simp) ?_
              refine AllReadyH.cons rfl (fun K hK => ?_) ?_
              · refine stepL_callN 14 #[.tmp 94, .tmp 95, .tmp 99, .tmp 100, .tmp 101] #[3, 31, 24, 3, 28] (by rfl) (by rfl) #[.int .i64 (k : Int), .agg #[.int .i64 Sm.v.1, .int .i64 Sm.v.2], .slice (some ⟨rb, ro, none⟩) u pR, .int .i64 (v : Int), .agg #[.slice cs len caps, .int .i64 at', .string st, .int .i64 ct]] (by simp only [List.map_toArray, List.map_cons, List.map_nil] <;> rfl) (run_go Tryz.func14 (by kernel_rfl) (by kernel_rfl) _ _) (QV.out Sm u hu4 Gg (some ⟨rb, ro, none⟩) pR _ _ cs caps _ (hik (RowsV.keep RU.out KW.out)) (hik (OS.out.keep KW.out).pairs) (hik (ht.out.keep (G.out.trans KW.out)))) ?_
                rintro e Y2 ⟨b1, b2, b3, b4, b5, b6, b7, b8, b9, b10, b11, he, kk⟩
                rw [L3.out Sm Gg] at he
                replace B2 := hik (rowIs_keep B2.out kk)
                refine ⟨_, he, ?_⟩
                replace KW := hik (KW.out.trans kk)
                refine hK.out _ _ (SA.out _ KW.out) (fun hHeld => ?_)
                clear hK K
                try simp only [Act.put, List.setIfInBounds_toArray, List.set_cons_zero, List.set_cons_succ, List.getElem_toArray, List.getElem_cons_zero, List.getElem_cons_succ]
                clear he kk
                refine wpAnyH_take (i := 9) (v := ?_) rfl (by kernel_rfl) (by kernel_rfl) (by kernel_rfl) (fun _ _ _ h => h) (Or.inl ⟨by rfl, ?_⟩) (by assumption) ?_
                rotate_left 1
                · (intro w' hSw; (try dsimp only at hSw); go_simp; try with_reducible rfl)
                try simp only [Act.put, List.setIfInBounds_toArray, List.set_cons_zero, List.set_cons_succ, List.getElem_toArray, List.getElem_cons_zero, List.getElem_cons_succ]
                refine wpAnyH_take (i := 10) (v := ?_) rfl (by kernel_rfl) (by kernel_rfl) (by kernel_rfl) (fun _ _ _ h => h) (Or.inl ⟨by rfl, ?_⟩) (by assumption) ?_
                rotate_left 1
                · (intro w' hSw; (try dsimp only at hSw); go_simp; try with_reducible rfl)
                try simp only [Act.put, List.setIfInBounds_toArray, List.set_cons_zero, List.set_cons_succ, List.getElem_toArray, List.getElem_cons_zero, List.getElem_cons_succ]
                refine wpAnyH_take (i := 11) (v := ?_) rfl (by kernel_rfl) (by kernel_rfl) (by kernel_rfl) (fun _ _ _ h => h) (Or.inl ⟨by rfl, ?_⟩) (by assumption) ?_
                rotate_left 1
                · (intro w' hSw; (try dsimp only at hSw); go_simp; try with_reducible rfl)
                try simp only [Act.put, List.setIfInBounds_toArray, List.set_cons_zero, List.set_cons_succ, List.getElem_toArray, List.getElem_cons_zero, List.getElem_cons_succ]
                refine wpAnyH_take (i := 12) (v := ?_) rfl (by kernel_rfl) (by kernel_rfl) (by kernel_rfl) (fun _ _ _ h => h) (Or.inl ⟨by rfl, ?_⟩) (by assumption) ?_
                rotate_left 1
                · (intro w' hSw; (try dsimp only at hSw); go_simp; try with_reducible rfl)
                try simp only [Act.put, List.setIfInBounds_toArray, List.set_cons_zero, List.set_cons_succ, List.getElem_toArray, List.getElem_cons_zero, List.getElem_cons_succ]
                refine wpAnyH_take (i := 13) (v := ?_) rfl (by kernel_rfl) (by kernel_rfl) (by kernel_rfl) (fun _ _ _ h => h) (Or.inl ⟨by rfl, ?_⟩) (by assumption) ?_
                rotate_left 1
                · (intro w' hSw; (try dsimp only at hSw); go_simp; try with_reducible rfl)
                try simp only [Act.put, List.setIfInBounds_toArray, List.set_cons_zero, List.set_cons_succ, List.getElem_toArray, List.getElem_cons_zero, List.getElem_cons_succ]
                refine wpAnyH_ready (rs := [14]) (by kernel_rfl) (by simp) ?_
                refine AllReadyH.cons rfl (fun K hK => ?_) AllReadyH.nil
                simp only [List.getElem_toArray, List.getElem_cons_zero, List.getElem_cons_succ]
                go_simp
                obtain ⟨gb1, hgb1⟩ : ∃ q, q = Y2.heap.size := ⟨_, rfl⟩
                have B1 : Hid (World.rowIs ((World.alloc Y2 (.cells #[.int .i64 0, .int .i64 0] 31))) gb1 31 2 (pv2 (.int .i64 0) (.int .i64 0))) := hik (by rw [hgb1]; exact row2_new Y2 _ _ _)
                have lb1 : W12.heap.size ≤ gb1 := by rw [hgb1]; exact KW.out.size
                replace B2 := hik (World.rowIs.alloc B2.out (.cells #[.int .i64 0, .int .i64 0] 31))
                replace KW : Hid (Chg nob W12 ((World.alloc Y2 (.cells #[.int .i64 0, .int .i64 0] 31)))) := hik (KW.out.alloc _)
                generalize hUA : (World.alloc Y2 (.cells #[.int .i64 0, .int .i64 0] 31)) = VA3 at B1 KW B2 ⊢
                clear hUA
                rw [← hgb1]
                clear hgb1
                refine hK.out _ _ (SA.out _ KW.out) (fun hHeld => ?_)
                clear hK K
                try simp only [Act.put, List.setIfInBounds_toArray, List.set_cons_zero, List.set_cons_succ, List.getElem_toArray, List.getElem_cons_zero, List.getElem_cons_succ]
                refine wpAnyH_take (i := 16) (v := ?_) rfl (by kernel_rfl) (by kernel_rfl) (by kernel_rfl) (fun _ _ _ h => h) (Or.inl ⟨by rfl, ?_⟩) (by assumption) ?_
                rotate_left 1
                · (intro w' hSw; (try dsimp only at hSw); go_simp; try with_reducible rfl)
                try simp only [Act.put, List.setIfInBounds_toArray, List.set_cons_zero, List.set_cons_succ, List.getElem_toArray, List.getElem_cons_zero, List.getElem_cons_succ]
                refine wpAnyH_ready (rs := [17]) (by kernel_rfl) (by simp) ?_
                refine AllReadyH.cons rfl (fun K hK => ?_) AllReadyH.nil
                have g0_ : VA3.cell? ⟨gb1, 0, none⟩ = some (.int .i64 0) := B1.out.cell (by omega)
                have gf0_ := B1.out.frozen 0
                have g1_ : VA3.cell? ⟨gb1, 1, none⟩ = some (.int .i64 0) := B1.out.cell (by omega)
                have gf1_ := B1.out.frozen 1
                have gl_ : gb1 < VA3.heap.size := B1.out.lt
                simp only [List.getElem_toArray, List.getElem_cons_zero, List.getElem_cons_succ]
                go_simp
                replace KW := hik (chg2_set KW.out gb1 (fun l => absurd l (by omega)) (.int .i64 b4) (.int .i64 b5))
                have qx := chg2_set (Chg.refl (fun x => x = gb1) VA3) gb1 (fun _ => rfl) (.int .i64 b4) (.int .i64 b5)
                replace B2 := hik (rowIs_chg B2.out qx (fun e => absurd (rowIs_kind (e ▸ B2.out) B1.out) (by decide)))
                clear qx
                generalize hUS : ((VA3.setCell ⟨gb1, 0, none⟩ (.int .i64 b4)).setCell ⟨gb1, 1, none⟩ (.int .i64 b5)) = VS4 at KW B2 ⊢
                clear hUS
                refine hK.out _ _ (SA.out _ KW.out) (fun hHeld => ?_)
                clear hK K
                try simp only [Act.put, List.setIfInBounds_toArray, List.set_cons_zero, List.set_cons_succ, List.getElem_toArray, List.getElem_cons_zero, List.getElem_cons_succ]
                clear gl_ g0_ gf0_ g1_ gf1_
                refine wpAnyH_ready (rs := [18]) (by kernel_rfl) (by simp) ?_
                refine AllReadyH.cons rfl (fun K hK => ?_) AllReadyH.nil
                have g0_ : VS4.cell? ⟨gb2, 0, none⟩ = some (.slice none 0 0) := B2.out.cell (by omega)
                have gf0_ := B2.out.frozen 0
                have g1_ : VS4.cell? ⟨gb2, 1, none⟩ = some (.int .i64 0) := B2.out.cell (by omega)
                have gf1_ := B2.out.frozen 1
                have g2_ : VS4.cell? ⟨gb2, 2, none⟩ = some (.string ⟨#[]⟩) := B2.out.cell (by omega)
                have gf2_ := B2.out.frozen 2
                have g3_ : VS4.cell? ⟨gb2, 3, none⟩ = some (.int .i64 0) := B2.out.cell (by omega)
                have gf3_ := B2.out.frozen 3
                have gl_ : gb2 < VS4.heap.size := B2.out.lt
                simp only [List.getElem_toArray, List.getElem_cons_zero, List.getElem_cons_succ]
                go_simp
                replace KW := hik (chg4_set KW.out gb2 (fun l => absurd l (by omega)) (.slice b6 b7 b8) (.int .i64 b9) (.string b10) (.int .i64 b11))
                generalize hUS : ((((VS4.setCell ⟨gb2, 0, none⟩ (.slice b6 b7 b8)).setCell ⟨gb2, 1, none⟩ (.int .i64 b9)).setCell ⟨gb2, 2, none⟩ (.string b10)).setCell ⟨gb2, 3, none⟩ (.int .i64 b11)) = VS5 at KW ⊢
                clear hUS
                refine hK.out _ _ (SA.out _ KW.out) (fun hHeld => ?_)
                clear hK K
                try simp only [Act.put, List.setIfInBounds_toArray, List.set_cons_zero, List.set_cons_succ, List.getElem_toArray, List.getElem_cons_zero, List.getElem_cons_succ]
                clear gl_ g0_ gf0_ g1_ gf1_ g2_ gf2_ g3_ gf3_
                refine wpAnyH_take (i := 19) (v := ?_) rfl (by kernel_rfl) (by kernel_rfl) (by kernel_rfl) (fun _ _ _ h => h) (Or.inl ⟨by rfl, ?_⟩) (by assumption) ?_
                rotate_left 1
                · (intro w' hSw; (try dsimp only at hSw); go_simp; try with_reducible rfl)
                try simp only [Act.put, List.setIfInBounds_toArray, List.set_cons_zero, List.set_cons_succ, List.getElem_toArray, List.getElem_cons_zero, List.getElem_cons_succ]
                refine wpAnyH_done (by kernel_rfl) ?_ _
                clear SA
                go_wp2_with fail
                go_meet
                exact ⟨rfl, KW⟩
              · refine AllReadyH.cons rfl (fun K hK => ?_) AllReadyH.nil
                simp only [List.getElem_toArray, List.getElem_cons_zero, List.getElem_cons_succ]
                go_simp
                obtain ⟨gb1, hgb1⟩ : ∃ q, q = VA1.heap.size := ⟨_, rfl⟩
                have B1 : Hid (World.rowIs ((World.alloc VA1 (.cells #[.int .i64 0, .int .i64 0] 31))) gb1 31 2 (pv2 (.int .i64 0) (.int .i64 0))) := hik (by rw [hgb1]; exact row2_new VA1 _ _ _)
                have lb1 : W12.heap.size ≤ gb1 := by rw [hgb1]; exact KW.out.size
                replace B2 := hik (World.rowIs.alloc B2.out (.cells #[.int .i64 0, .int .i64 0] 31))
                replace KW : Hid (Chg nob W12 ((World.alloc VA1 (.cells #[.int .i64 0, .int .i64 0] 31)))) := hik (KW.out.alloc _)
                generalize hUA : (World.alloc VA1 (.cells #[.int .i64 0, .int .i64 0] 31)) = VA2 at B1 KW B2 ⊢
                clear hUA
                rw [← hgb1]
                clear hgb1
                refine hK.out _ _ (SA.out _ KW.out) (fun hHeld => ?_)
                clear hK K
                try simp only [Act.put, List.setIfInBounds_toArray, List.set_cons_zero, List.set_cons_succ, List.getElem_toArray, List.getElem_cons_zero, List.getElem_cons_succ]
                refine wpAnyH_ready (rs := [8]) (by kernel_rfl) (by simp) ?_
                refine AllReadyH.cons rfl (fun K hK => ?_) AllReadyH.nil
                refine stepL_callN 14 #[.tmp 94, .tmp 95, .tmp 99, .tmp 100, .tmp 101] #[3, 31, 24, 3, 28] (by rfl) (by rfl) #[.int .i64 (k : Int), .agg #[.int .i64 Sm.v.1, .int .i64 Sm.v.2], .slice (some ⟨rb, ro, none⟩) u pR, .int .i64 (v : Int), .agg #[.slice cs len caps, .int .i64 at', .string st, .int .i64 ct]] (by simp only [List.map_toArray, List.map_cons, List.map_nil] <;> rfl) (run_go Tryz.func14 (by kernel_rfl) (by kernel_rfl) _ _) (QV.out Sm u hu4 Gg (some ⟨rb, ro, none⟩) pR _ _ cs caps _ (hik (RowsV.keep RU.out KW.out)) (hik (OS.out.keep KW.out).pairs) (hik (ht.out.keep (G.out.trans KW.out)))) ?_
                rintro e Y3 ⟨b1, b2, b3, b4, b5, b6, b7, b8, b9, b10, b11, he, kk⟩
                rw [L3.out Sm Gg] at he
                replace B1 := hik (rowIs_keep B1.out kk)
                replace B2 := hik (rowIs_keep B2.out kk)
                refine ⟨_, he, ?_⟩
                replace KW := hik (KW.out.trans kk)
                refine hK.out _ _ (SA.out _ KW.out) (fun hHeld => ?_)
                clear hK K
                try simp only [Act.put, List.setIfInBounds_toArray, List.set_cons_zero, List.set_cons_succ, List.getElem_toArray, List.getElem_cons_zero, List.getElem_cons_succ]
                clear he kk
                refine wpAnyH_take (i := 9) (v := ?_) rfl (by kernel_rfl) (by kernel_rfl) (by kernel_rfl) (fun _ _ _ h => h) (Or.inl ⟨by rfl, ?_⟩) (by assumption) ?_
                rotate_left 1
                · (intro w' hSw; (try dsimp only at hSw); go_simp; try with_reducible rfl)
                try simp only [Act.put, List.setIfInBounds_toArray, List.set_cons_zero, List.set_cons_succ, List.getElem_toArray, List.getElem_cons_zero, List.getElem_cons_succ]
                refine wpAnyH_take (i := 10) (v := ?_) rfl (by kernel_rfl) (by kernel_rfl) (by kernel_rfl) (fun _ _ _ h => h) (Or.inl ⟨by rfl, ?_⟩) (by assumption) ?_
                rotate_left 1
                · (intro w' hSw; (try dsimp only at hSw); go_simp; try with_reducible rfl)
                try simp only [Act.put, List.setIfInBounds_toArray, List.set_cons_zero, List.set_cons_succ, List.getElem_toArray, List.getElem_cons_zero, List.getElem_cons_succ]
                refine wpAnyH_take (i := 11) (v := ?_) rfl (by kernel_rfl) (by kernel_rfl) (by kernel_rfl) (fun _ _ _ h => h) (Or.inl ⟨by rfl, ?_⟩) (by assumption) ?_
                rotate_left 1
                · (intro w' hSw; (try dsimp only at hSw); go_simp; try with_reducible rfl)
                try simp only [Act.put, List.setIfInBounds_toArray, List.set_cons_zero, List.set_cons_succ, List.getElem_toArray, List.getElem_cons_zero, List.getElem_cons_succ]
                refine wpAnyH_take (i := 12) (v := ?_) rfl (by kernel_rfl) (by kernel_rfl) (by kernel_rfl) (fun _ _ _ h => h) (Or.inl ⟨by rfl, ?_⟩) (by assumption) ?_
                rotate_left 1
                · (intro w' hSw; (try dsimp only at hSw); go_simp; try with_reducible rfl)
                try simp only [Act.put, List.setIfInBounds_toArray, List.set_cons_zero, List.set_cons_succ, List.getElem_toArray, List.getElem_cons_zero, List.getElem_cons_succ]
                refine wpAnyH_take (i := 13) (v := ?_) rfl (by kernel_rfl) (by kernel_rfl) (by kernel_rfl) (fun _ _ _ h => h) (Or.inl ⟨by rfl, ?_⟩) (by assumption) ?_
                rotate_left 1
                · (intro w' hSw; (try dsimp only at hSw); go_simp; try with_reducible rfl)
                try simp only [Act.put, List.setIfInBounds_toArray, List.set_cons_zero, List.set_cons_succ, List.getElem_toArray, List.getElem_cons_zero, List.getElem_cons_succ]
                refine wpAnyH_take (i := 16) (v := ?_) rfl (by kernel_rfl) (by kernel_rfl) (by kernel_rfl) (fun _ _ _ h => h) (Or.inl ⟨by rfl, ?_⟩) (by assumption) ?_
                rotate_left 1
                · (intro w' hSw; (try dsimp only at hSw); go_simp; try with_reducible rfl)
                try simp only [Act.put, List.setIfInBounds_toArray, List.set_cons_zero, List.set_cons_succ, List.getElem_toArray, List.getElem_cons_zero, List.getElem_cons_succ]
                refine wpAnyH_ready (rs := [17]) (by kernel_rfl) (by simp) ?_
                refine AllReadyH.cons rfl (fun K hK => ?_) AllReadyH.nil
                have g0_ : Y3.cell? ⟨gb1, 0, none⟩ = some (.int .i64 0) := B1.out.cell (by omega)
                have gf0_ := B1.out.frozen 0
                have g1_ : Y3.cell? ⟨gb1, 1, none⟩ = some (.int .i64 0) := B1.out.cell (by omega)
                have gf1_ := B1.out.frozen 1
                have gl_ : gb1 < Y3.heap.size := B1.out.lt
                simp only [List.getElem_toArray, List.getElem_cons_zero, List.getElem_cons_succ]
                go_simp
                replace KW := hik (chg2_set KW.out gb1 (fun l => absurd l (by omega)) (.int .i64 b4) (.int .i64 b5))
                have qx := chg2_set (Chg.refl (fun x => x = gb1) Y3) gb1 (fun _ => rfl) (.int .i64 b4) (.int .i64 b5)
                replace B2 := hik (rowIs_chg B2.out qx (fun e => absurd (rowIs_kind (e ▸ B2.out) B1.out) (by decide)))
                clear qx
                generalize hUS : ((Y3.setCell ⟨gb1, 0, none⟩ (.int .i64 b4)).setCell ⟨gb1, 1, none⟩ (.int .i64 b5)) = VS4 at KW B2 ⊢
                clear hUS
                refine hK.out _ _ (SA.out _ KW.out) (fun hHeld => ?_)
                clear hK K
                try simp only [Act.put, List.setIfInBounds_toArray, List.set_cons_zero, List.set_cons_succ, List.getElem_toArray, List.getElem_cons_zero, List.getElem_cons_succ]
                clear gl_ g0_ gf0_ g1_ gf1_
                refine wpAnyH_ready (rs := [18]) (by kernel_rfl) (by simp) ?_
                refine AllReadyH.cons rfl (fun K hK => ?_) AllReadyH.nil
                have g0_ : VS4.cell? ⟨gb2, 0, none⟩ = some (.slice none 0 0) := B2.out.cell (by omega)
                have gf0_ := B2.out.frozen 0
                have g1_ : VS4.cell? ⟨gb2, 1, none⟩ = some (.int .i64 0) := B2.out.cell (by omega)
                have gf1_ := B2.out.frozen 1
                have g2_ : VS4.cell? ⟨gb2, 2, none⟩ = some (.string ⟨#[]⟩) := B2.out.cell (by omega)
                have gf2_ := B2.out.frozen 2
                have g3_ : VS4.cell? ⟨gb2, 3, none⟩ = some (.int .i64 0) := B2.out.cell (by omega)
                have gf3_ := B2.out.frozen 3
                have gl_ : gb2 < VS4.heap.size := B2.out.lt
                simp only [List.getElem_toArray, List.getElem_cons_zero, List.getElem_cons_succ]
                go_simp
                replace KW := hik (chg4_set KW.out gb2 (fun l => absurd l (by omega)) (.slice b6 b7 b8) (.int .i64 b9) (.string b10) (.int .i64 b11))
                generalize hUS : ((((VS4.setCell ⟨gb2, 0, none⟩ (.slice b6 b7 b8)).setCell ⟨gb2, 1, none⟩ (.int .i64 b9)).setCell ⟨gb2, 2, none⟩ (.string b10)).setCell ⟨gb2, 3, none⟩ (.int .i64 b11)) = VS5 at KW ⊢
                clear hUS
                refine hK.out _ _ (SA.out _ KW.out) (fun hHeld => ?_)
                clear hK K
                try simp only [Act.put, List.setIfInBounds_toArray, List.set_cons_zero, List.set_cons_succ, List.getElem_toArray, List.getElem_cons_zero, List.getElem_cons_succ]
                clear gl_ g0_ gf0_ g1_ gf1_ g2_ gf2_ g3_ gf3_
                refine wpAnyH_take (i := 19) (v := ?_) rfl (by kernel_rfl) (by kernel_rfl) (by kernel_rfl) (fun _ _ _ h => h) (Or.inl ⟨by rfl, ?_⟩) (by assumption) ?_
                rotate_left 1
                · (intro w' hSw; (try dsimp only at hSw); go_simp; try with_reducible rfl)
                try simp only [Act.put, List.setIfInBounds_toArray, List.set_cons_zero, List.set_cons_succ, List.getElem_toArray, List.getElem_cons_zero, List.getElem_cons_succ]
                refine wpAnyH_done (by kernel_rfl) ?_ _
                clear SA
                go_wp2_with fail
                go_meet
                exact ⟨rfl, KW⟩
      case rest =>
        as_aux_lemma =>
          obtain ⟨rfl, KX⟩ := hcut
          rename World => W13
          replace G := hik (G.out.trans KX.out)
          replace TB := hik (RowsE.keep TB.out KX.out)
          replace OS := hik (OS.out.keep KX.out)
          replace RS := hik (rowIs_keep RS.out KX.out)
          replace E1 := hik (rowIs_keep E1.out KX.out)
          replace EW := hik (rowIs_keep EW.out KX.out)
          replace OR := hik (OR.out.keep KX.out)
          clear KX RU
          obtain ⟨i0, hi, hz0, hz1, hz2⟩ := info_parts infoExt
          have HI := hik hi
          have HZ0 := hik hz0
          have HZ1 := hik hz1
          have HZ2 := hik hz2
          clear hi hz0 hz1 hz2
          obtain ⟨i1, hi, hz0, hz1, hz2⟩ := info_parts infoRow
          have HJ := hik hi
          have HJ0 := hik hz0
          have HJ1 := hik hz1
          have HJ2 := hik hz2
          clear hi hz0 hz1 hz2
          have NWS := hik (show ∀ j x, ((List.range v).map (fun j => Value.slice (some ⟨H j, 0, none⟩) (k + 2) (Cr j)))[j]? = some x → (W13.alloc (.cells #[] 26)).cell? ((⟨rb, ro, none⟩ : Addr).add j) = some x from fun j x hj => by
            have hjv : j < v := by
              have z := (List.getElem?_eq_some_iff.1 hj).1
              simpa using z
            rw [List.getElem?_map, List.getElem?_range hjv] at hj
            cases hj
            rw [Go.WideShapes.add_plain]
            obtain ⟨xb, xo, ec, _, _, hc, _⟩ := OR.out.top j hjv
            cases ec
            exact ((Chg.refl nob W13).alloc _).see hc)
          go_wp2_with (at_builtin; refine wpList_append_lies _ ?g0 (.tmp 107) (.tmp 108) 24 ?g1 W13.heap.size 26 i1 (.slice none 0 0) 1 24 Tryz.underlying24 HJ.out HJ0.out HJ1.out HJ2.out rfl (by decide) (.slice (some ⟨W13.heap.size, 0, none⟩) 0 0) 0 _ ?b1 (flNone W13 W13.heap.size 26 1 (Nat.le_refl _)) ⟨rb, ro, none⟩ v pR ((List.range v).map (fun j => Value.slice (some ⟨H j, 0, none⟩) (k + 2) (Cr j))) ?b3 ?b4 NWS.out ?b6 (by omega) ?b7 ?b8 ?b9 _ rfl ?b10)
          case g0 => rfl
          case g1 => rfl
          case b6 =>
            intro x hx
            rfl
          case b7 => unfold maxLen; omega
          case b8 => omega
          case b10 =>
            intro g7 cp7 W7 o7 hg7 hat7 hlt7
            have KX := hik (((Chg.refl nob W13).alloc (.cells #[] 26)).grown hg7 (fun i e l => by have q : some W13.heap.size = some i := e; cases q; omega))
            have O7 := hik o7
            have g7l := hik (show W13.heap.size ≤ g7 from (o7.lt g7 rfl).1)
            have hHl := hik (show ∀ i, i < v → H i < W13.heap.size from fun i hi => ((OR.out.above (by omega) i hi).2))
            clear NWS o7 hg7 hat7 hlt7
            have GW13 := hik G.out.size
            replace G := hik (G.out.trans KX.out)
            replace TB := hik (RowsE.keep TB.out KX.out)
            replace OS := hik (OS.out.keep KX.out)
            replace RS := hik (rowIs_keep RS.out KX.out)
            replace E1 := hik (rowIs_keep E1.out KX.out)
            replace EW := hik (rowIs_keep EW.out KX.out)
            replace OR := hik (OR.out.keep KX.out)
            clear KX
            have hc70 : Hid (W7.cell? ⟨g7, 0, none⟩ = some (.slice (some ⟨H 0, 0, none⟩) (k + 2) (Cr 0))) := hik (by have z := O7.out.cells (g := g7) rfl 0 (.slice (some ⟨H 0, 0, none⟩) (k + 2) (Cr 0)) (by rw [List.getElem?_map, List.getElem?_range (show 0 < v by omega)]; rfl); rwa [Go.WideShapes.add_plain] at z)
            have PG := hik (OwnE.pairs (OR.out.inn 0 (by omega)))
            have hu70 : Hid (W7.cell? ⟨H 0, 0, none⟩ = some (.int .i64 (Gg 0 0).v.1) ∧ W7.cell? ⟨H 0, 1, none⟩ = some (.int .i64 (Gg 0 0).v.2)) := hik (by
              obtain ⟨xb, xo, ec, _, e1, e2⟩ := PG.out 0 (by omega)
              cases ec
              exact ⟨by simpa [cA] using e1, by simpa [cB] using e2⟩)
            have hk3 : (0 : Int) < ((k + 2 : Nat) : Int) := by omega
            have hk4 : 0 < k + 2 := by omega
            have hk5 : (0 : Int) < (k : Int) + 2 := by omega
            have hk6 : ¬ (k : Int) + 2 < 1 := by omega
            have hk7 : (1 : Int) ≤ (k : Int) + 2 := by omega
            have hv4 : (0 : Int) < (v : Int) := by omega
            have hv5 : 0 < v := by omega
            go_upto_region 13 with fail
            go_cut [27, 28] (fun pp qq W => ∃ (gg d : Nat), pp = .pointer (some ⟨gg, 0, none⟩) ∧ qq = .int .i64 0 ∧ Hid (1 ≤ d ∧ d < 100) ∧ Hid (W.rowIs gg 31 2 (pv2 (.int .i64 (El.ad (Gg 0 0) (El.nb d)).v.1) (.int .i64 (El.ad (Gg 0 0) (El.nb d)).v.2))) ∧ Hid (Chg nob W7 W) ∧ Hid (W7.heap.size ≤ gg))
            case first =>
              as_aux_lemma =>
                have c0 := hc70.out
                have u0 := hu70.out.1
                have u1 := hu70.out.2
                have KW := hik ((Chg.refl nob W7).drew1)
                have SA := hik (fun (WW : World) (kW : Chg nob W7 WW) => (show (WW.cell? ⟨g7, 0, none⟩ = some (.slice (some ⟨H 0, 0, none⟩) (k + 2) (Cr 0)) ∧ WW.cell? ⟨H 0, 0, none⟩ = some (.int .i64 (Gg 0 0).v.1) ∧ WW.cell? ⟨H 0, 1, none⟩ = some (.int .i64 (Gg 0 0).v.2)) from ⟨kW.see c0, kW.see u0, kW.see u1⟩))
                refine wp_region_held_drew (S := fun w' => w'.cell? ⟨g7, 0, none⟩ = some (.slice (some ⟨H 0, 0, none⟩) (k + 2) (Cr 0)) ∧ w'.cell? ⟨H 0, 0, none⟩ = some (.int .i64 (Gg 0 0).v.1) ∧ w'.cell? ⟨H 0, 1, none⟩ = some (.int .i64 (Gg 0 0).v.2)) (by kernel_rfl) ⟨c0, u0, u1⟩ (fun hHeld => ?_)
                refine wpAnyH_take (i := 0) (v := ?_) rfl (by kernel_rfl) (by kernel_rfl) (by kernel_rfl) (fun _ _ _ h => h) (Or.inl ⟨by rfl, ?_⟩) (by assumption) ?_
                rotate_left 1
                · (intro w' hSw; (try dsimp only at hSw); go_simp; try with_reducible rfl)
                try simp only [Act.put, List.setIfInBounds_toArray, List.set_cons_zero, List.set_cons_succ, List.getElem_toArray, List.getElem_cons_zero, List.getElem_cons_succ]
                refine wpAnyH_take (i := 1) (v := ?_) rfl (by kernel_rfl) (by kernel_rfl) (by kernel_rfl) (fun _ _ _ h => h) (Or.inl ⟨by rfl, ?_⟩) (by assumption) ?_
                rotate_left 1
                · (intro w' hSw; (try dsimp only at hSw); go_simp; try with_reducible rfl)
                try simp only [Act.put, List.setIfInBounds_toArray, List.set_cons_zero, List.set_cons_succ, List.getElem_toArray, List.getElem_cons_zero, List.getElem_cons_succ]
                refine wpAnyH_take (i := 2) (v := ?_) rfl (by kernel_rfl) (by kernel_rfl) (by kernel_rfl) (fun _ _ _ h => h) (Or.inl ⟨by rfl, ?_⟩) (by assumption) ?_
                rotate_left 1
                · (intro w' hSw; (try dsimp only at hSw); go_simp; try with_reducible rfl)
                try simp only [Act.put, List.setIfInBounds_toArray, List.set_cons_zero, List.set_cons_succ, List.getElem_toArray, List.getElem_cons_zero, List.getElem_cons_succ]
                refine wpAnyH_take (i := 3) (v := ?_) rfl (by kernel_rfl) (by kernel_rfl) (by kernel_rfl) (fun _ _ _ h => h) (Or.inl ⟨by rfl, ?_⟩) (by assumption) ?_
                rotate_left 1
                · (intro w' hSw; (try dsimp only at hSw); go_simp; try with_reducible rfl)
                try simp only [Act.put, List.setIfInBounds_toArray, List.set_cons_zero, List.set_cons_succ, List.getElem_toArray, List.getElem_cons_zero, List.getElem_cons_succ]
                refine wpAnyH_take (i := 4) (v := ?_) rfl (by kernel_rfl) (by kernel_rfl) (by kernel_rfl) (fun _ _ _ h => h) (Or.inl ⟨by rfl, ?_⟩) (by assumption) ?_
                rotate_left 1
                · (intro w' hSw; (try dsimp only at hSw); go_simp; try with_reducible rfl)
                try simp only [Act.put, List.setIfInBounds_toArray, List.set_cons_zero, List.set_cons_succ, List.getElem_toArray, List.getElem_cons_zero, List.getElem_cons_succ]
                refine wpAnyH_take (i := 5) (v := ?_) rfl (by kernel_rfl) (by kernel_rfl) (by kernel_rfl) (fun _ _ _ h => h) (Or.inl ⟨by rfl, ?_⟩) (by assumption) ?_
                rotate_left 1
                · (intro w' hSw; (try dsimp only at hSw); go_simp; try with_reducible rfl)
                try simp only [Act.put, List.setIfInBounds_toArray, List.set_cons_zero, List.set_cons_succ, List.getElem_toArray, List.getElem_cons_zero, List.getElem_cons_succ]
                refine wpAnyH_ready (rs := [6, 13]) (by kernel_rfl) (by simp) ?_
                refine AllReadyH.cons rfl (fun K hK => ?_) ?_
                · refine stepL_callN 5 #[.tmp 116, .const (.int .i64 2), .const (.int .i64 90)] #[22, 3, 3] (by rfl) (by rfl) #[.slice a1 len1 cap1, .int .i64 2, .int .i64 90] (by simp only [List.map_toArray, List.map_cons, List.map_nil] <;> rfl) (run_go Tryz.func5 (by kernel_rfl) (by kernel_rfl) _ _) (at_any a1 len1 cap1 2 90 _ (HB1.out.below (G.out.trans KW.out).belowAll) hn1 (by omega) (by omega) (by omega) (by omega)) ?_
                  rintro e X1 ⟨x3, he, hx3, hx4, kk⟩
                  replace kk := Chg.of_below kk
                  refine ⟨_, he, ?_⟩
                  replace KW := hik (KW.out.trans kk)
                  refine hK.out _ _ (SA.out _ KW.out) (fun hHeld => ?_)
                  clear hK K
                  try simp only [Act.put, List.setIfInBounds_toArray, List.set_cons_zero, List.set_cons_succ, List.getElem_toArray, List.getElem_cons_zero, List.getElem_cons_succ]
                  clear he kk
                  obtain ⟨d, hd⟩ : ∃ d : Nat, (d : Int) = 1 + x3 := ⟨(1 + x3).toNat, by omega⟩
                  have hwd : IntKind.i64.wrap (1 + x3) = (d : Int) := by rw [IntKind.wrap_i64]; omega
                  have HD := hik (show 1 ≤ d ∧ d < 100 by omega)
                  clear hd hx3 hx4
                  refine wpAnyH_take (i := 7) (v := .int .i64 (d : Int)) rfl (by kernel_rfl) (by kernel_rfl) (by kernel_rfl) (fun _ _ _ h => h) (Or.inl ⟨by rfl, ?_⟩) (by assumption) ?_
                  · (intro w' hSw; (try dsimp only at hSw); go_simp; first | done | exact hwd | rw [hwd])
                  try simp only [Act.put, List.setIfInBounds_toArray, List.set_cons_zero, List.set_cons_succ, List.getElem_toArray, List.getElem_cons_zero, List.getElem_cons_succ]
                  refine wpAnyH_take (i := 8) (v := ?_) rfl (by kernel_rfl) (by kernel_rfl) (by kernel_rfl) (fun _ _ _ h => h) (Or.inl ⟨by rfl, ?_⟩) (by assumption) ?_
                  rotate_left 1
                  · (intro w' hSw; (try dsimp only at hSw); go_simp; try with_reducible rfl)
                  try simp only [Act.put, List.setIfInBounds_toArray, List.set_cons_zero, List.set_cons_succ, List.getElem_toArray, List.getElem_cons_zero, List.getElem_cons_succ]
                  refine wpAnyH_ready (rs := [9, 13]) (by kernel_rfl) (by simp) ?_
                  refine AllReadyH.cons rfl (fun K hK => ?_) ?_
                  · refine stepL_callN 20 #[.tmp 115, .tmp 119] #[31, 31] (by rfl) (by rfl) #[.agg #[.int .i64 (Gg 0 0).v.1, .int .i64 (Gg 0 0).v.2], .agg #[.int .i64 (d : Int), .int .i64 0]] (by simp only [List.map_toArray, List.map_cons, List.map_nil] <;> rfl) (run_go Tryz.func20 (by kernel_rfl) (by kernel_rfl) _ _) (exAd_nb (Gg 0 0) d (by have := HD.out; omega) _) ?_
                    rintro e X2 ⟨he, kk⟩
                    refine ⟨_, he, ?_⟩
                    replace KW := hik (KW.out.trans kk)
                    refine hK.out _ _ (SA.out _ KW.out) (fun hHeld => ?_)
                    clear hK K
                    try simp only [Act.put, List.setIfInBounds_toArray, List.set_cons_zero, List.set_cons_succ, List.getElem_toArray, List.getElem_cons_zero, List.getElem_cons_succ]
                    clear he kk
                    refine wpAnyH_take (i := 10) (v := ?_) rfl (by kernel_rfl) (by kernel_rfl) (by kernel_rfl) (fun _ _ _ h => h) (Or.inl ⟨by rfl, ?_⟩) (by assumption) ?_
                    rotate_left 1
                    · (intro w' hSw; (try dsimp only at hSw); go_simp; try with_reducible rfl)
                    try simp only [Act.put, List.setIfInBounds_toArray, List.set_cons_zero, List.set_cons_succ, List.getElem_toArray, List.getElem_cons_zero, List.getElem_cons_succ]
                    refine wpAnyH_take (i := 11) (v := ?_) rfl (by kernel_rfl) (by kernel_rfl) (by kernel_rfl) (fun _ _ _ h => h) (Or.inl ⟨by rfl, ?_⟩) (by assumption) ?_
                    rotate_left 1
                    · (intro w' hSw; (try dsimp only at hSw); go_simp; try with_reducible rfl)
                    try simp only [Act.put, List.setIfInBounds_toArray, List.set_cons_zero, List.set_cons_succ, List.getElem_toArray, List.getElem_cons_zero, List.getElem_cons_succ]
                    refine wpAnyH_take (i := 12) (v := ?_) rfl (by kernel_rfl) (by kernel_rfl) (by kernel_rfl) (fun _ _ _ h => h) (Or.inl ⟨by rfl, ?_⟩) (by assumption) ?_
                    rotate_left 1
                    · (intro w' hSw; (try dsimp only at hSw); go_simp; try with_reducible rfl)
                    try simp only [Act.put, List.setIfInBounds_toArray, List.set_cons_zero, List.set_cons_succ, List.getElem_toArray, List.getElem_cons_zero, List.getElem_cons_succ]
                    refine wpAnyH_ready (rs := [13]) (by kernel_rfl) (by simp) ?_
                    refine AllReadyH.cons rfl (fun K hK => ?_) AllReadyH.nil
                    simp only [List.getElem_toArray, List.getElem_cons_zero, List.getElem_cons_succ]
                    go_simp
                    obtain ⟨gg, hgg⟩ : ∃ q, q = X2.heap.size := ⟨_, rfl⟩
                    have EB : Hid (ElB ((World.alloc X2 (.cells #[.int .i64 0, .int .i64 0] 31))) gg El.zr) := hik (by rw [hgg]; exact ElB.zero X2)
                    have lg : W7.heap.size ≤ gg := by rw [hgg]; exact KW.out.size
                    replace KW : Hid (Chg nob W7 ((World.alloc X2 (.cells #[.int .i64 0, .int .i64 0] 31)))) := hik (KW.out.alloc _)
                    generalize hUA : (World.alloc X2 (.cells #[.int .i64 0, .int .i64 0] 31)) = XA3 at EB KW ⊢
                    clear hUA
                    rw [← hgg]
                    clear hgg
                    refine hK.out _ _ (SA.out _ KW.out) (fun hHeld => ?_)
                    clear hK K
                    try simp only [Act.put, List.setIfInBounds_toArray, List.set_cons_zero, List.set_cons_succ, List.getElem_toArray, List.getElem_cons_zero, List.getElem_cons_succ]
                    refine wpAnyH_ready (rs := [14]) (by kernel_rfl) (by simp) ?_
                    refine AllReadyH.cons rfl (fun K hK => ?_) AllReadyH.nil
                    have g0 : XA3.cell? ⟨gg, 0, none⟩ = some (.int .i64 0) := EB.out.c0
                    have g1 : XA3.cell? ⟨gg, 1, none⟩ = some (.int .i64 0) := EB.out.c1
                    have f0 := EB.out.fz 0
                    have f1 := EB.out.fz 1
                    have ln : gg < XA3.heap.size := EB.out.lt
                    simp only [List.getElem_toArray, List.getElem_cons_zero, List.getElem_cons_succ]
                    go_simp
                    have EX := hik (row2_set EB.out (.int .i64 (El.ad (Gg 0 0) (El.nb d)).v.1) (.int .i64 (El.ad (Gg 0 0) (El.nb d)).v.2))
                    replace KW := hik (chg2_set KW.out gg (fun l => absurd l (by omega)) (.int .i64 (El.ad (Gg 0 0) (El.nb d)).v.1) (.int .i64 (El.ad (Gg 0 0) (El.nb d)).v.2))
                    refine hK.out _ _ (SA.out _ KW.out) (fun hHeld => ?_)
                    clear hK K
                    try simp only [Act.put, List.setIfInBounds_toArray, List.set_cons_zero, List.set_cons_succ, List.getElem_toArray, List.getElem_cons_zero, List.getElem_cons_succ]
                    clear g0 g1 f0 f1 ln EB
                    refine wpAnyH_take (i := 15) (v := ?_) rfl (by kernel_rfl) (by kernel_rfl) (by kernel_rfl) (fun _ _ _ h => h) (Or.inl ⟨by rfl, ?_⟩) (by assumption) ?_
                    rotate_left 1
                    · (intro w' hSw; (try dsimp only at hSw); go_simp; try with_reducible rfl)
                    try simp only [Act.put, List.setIfInBounds_toArray, List.set_cons_zero, List.set_cons_succ, List.getElem_toArray, List.getElem_cons_zero, List.getElem_cons_succ]
                    refine wpAnyH_done (by kernel_rfl) ?_ _
                    clear SA
                    go_wp2_with fail
                    go_meet
                    exact ⟨gg, d, rfl, rfl, HD, EX, KW, hik lg⟩
                  · refine AllReadyH.cons rfl (fun K hK => ?_) AllReadyH.nil
                    simp only [List.getElem_toArray, List.getElem_cons_zero, List.getElem_cons_succ]
                    go_simp
                    obtain ⟨gg, hgg⟩ : ∃ q, q = X1.heap.size := ⟨_, rfl⟩
                    have EB : Hid (ElB ((World.alloc X1 (.cells #[.int .i64 0, .int .i64 0] 31))) gg El.zr) := hik (by rw [hgg]; exact ElB.zero X1)
                    have lg : W7.heap.size ≤ gg := by rw [hgg]; exact KW.out.size
                    replace KW : Hid (Chg nob W7 ((World.alloc X1 (.cells #[.int .i64 0, .int .i64 0] 31)))) := hik (KW.out.alloc _)
                    generalize hUA : (World.alloc X1 (.cells #[.int .i64 0, .int .i64 0] 31)) = XA2 at EB KW ⊢
                    clear hUA
                    rw [← hgg]
                    clear hgg
                    refine hK.out _ _ (SA.out _ KW.out) (fun hHeld => ?_)
                    clear hK K
                    try simp only [Act.put, List.setIfInBounds_toArray, List.set_cons_zero, List.set_cons_succ, List.getElem_toArray, List.getElem_cons_zero, List.getElem_cons_succ]
                    refine wpAnyH_ready (rs := [9]) (by kernel_rfl) (by simp) ?_
                    refine AllReadyH.cons rfl (fun K hK => ?_) AllReadyH.nil
                    refine stepL_callN 20 #[.tmp 115, .tmp 119] #[31, 31] (by rfl) (by rfl) #[.agg #[.int .i64 (Gg 0 0).v.1, .int .i64 (Gg 0 0).v.2], .agg #[.int .i64 (d : Int), .int .i64 0]] (by simp only [List.map_toArray, List.map_cons, List.map_nil] <;> rfl) (run_go Tryz.func20 (by kernel_rfl) (by kernel_rfl) _ _) (exAd_nb (Gg 0 0) d (by have := HD.out; omega) _) ?_
                    rintro e X3 ⟨he, kk⟩
                    replace EB := hik (EB.out.keep kk)
                    refine ⟨_, he, ?_⟩
                    replace KW := hik (KW.out.trans kk)
                    refine hK.out _ _ (SA.out _ KW.out) (fun hHeld => ?_)
                    clear hK K
                    try simp only [Act.put, List.setIfInBounds_toArray, List.set_cons_zero, List.set_cons_succ, List.getElem_toArray, List.getElem_cons_zero, List.getElem_cons_succ]
                    clear he kk
                    refine wpAnyH_take (i := 10) (v := ?_) rfl (by kernel_rfl) (by kernel_rfl) (by kernel_rfl) (fun _ _ _ h => h) (Or.inl ⟨by rfl, ?_⟩) (by assumption) ?_
                    rotate_left 1
                    · (intro w' hSw; (try dsimp only at hSw); go_simp; try with_reducible rfl)
                    try simp only [Act.put, List.setIfInBounds_toArray, List.set_cons_zero, List.set_cons_succ, List.getElem_toArray, List.getElem_cons_zero, List.getElem_cons_succ]
                    refine wpAnyH_take (i := 11) (v := ?_) rfl (by kernel_rfl) (by kernel_rfl) (by kernel_rfl) (fun _ _ _ h => h) (Or.inl ⟨by rfl, ?_⟩) (by assumption) ?_
                    rotate_left 1
                    · (intro w' hSw; (try dsimp only at hSw); go_simp; try with_reducible rfl)
                    try simp only [Act.put, List.setIfInBounds_toArray, List.set_cons_zero, List.set_cons_succ, List.getElem_toArray, List.getElem_cons_zero, List.getElem_cons_succ]
                    refine wpAnyH_take (i := 12) (v := ?_) rfl (by kernel_rfl) (by kernel_rfl) (by kernel_rfl) (fun _ _ _ h => h) (Or.inl ⟨by rfl, ?_⟩) (by assumption) ?_
                    rotate_left 1
                    · (intro w' hSw; (try dsimp only at hSw); go_simp; try with_reducible rfl)
                    try simp only [Act.put, List.setIfInBounds_toArray, List.set_cons_zero, List.set_cons_succ, List.getElem_toArray, List.getElem_cons_zero, List.getElem_cons_succ]
                    refine wpAnyH_ready (rs := [14]) (by kernel_rfl) (by simp) ?_
                    refine AllReadyH.cons rfl (fun K hK => ?_) AllReadyH.nil
                    have g0 : X3.cell? ⟨gg, 0, none⟩ = some (.int .i64 0) := EB.out.c0
                    have g1 : X3.cell? ⟨gg, 1, none⟩ = some (.int .i64 0) := EB.out.c1
                    have f0 := EB.out.fz 0
                    have f1 := EB.out.fz 1
                    have ln : gg < X3.heap.size := EB.out.lt
                    simp only [List.getElem_toArray, List.getElem_cons_zero, List.getElem_cons_succ]
                    go_simp
                    have EX := hik (row2_set EB.out (.int .i64 (El.ad (Gg 0 0) (El.nb d)).v.1) (.int .i64 (El.ad (Gg 0 0) (El.nb d)).v.2))
                    replace KW := hik (chg2_set KW.out gg (fun l => absurd l (by omega)) (.int .i64 (El.ad (Gg 0 0) (El.nb d)).v.1) (.int .i64 (El.ad (Gg 0 0) (El.nb d)).v.2))
                    refine hK.out _ _ (SA.out _ KW.out) (fun hHeld => ?_)
                    clear hK K
                    try simp only [Act.put, List.setIfInBounds_toArray, List.set_cons_zero, List.set_cons_succ, List.getElem_toArray, List.getElem_cons_zero, List.getElem_cons_succ]
                    clear g0 g1 f0 f1 ln EB
                    refine wpAnyH_take (i := 15) (v := ?_) rfl (by kernel_rfl) (by kernel_rfl) (by kernel_rfl) (fun _ _ _ h => h) (Or.inl ⟨by rfl, ?_⟩) (by assumption) ?_
                    rotate_left 1
                    · (intro w' hSw; (try dsimp only at hSw); go_simp; try with_reducible rfl)
                    try simp only [Act.put, List.setIfInBounds_toArray, List.set_cons_zero, List.set_cons_succ, List.getElem_toArray, List.getElem_cons_zero, List.getElem_cons_succ]
                    refine wpAnyH_done (by kernel_rfl) ?_ _
                    clear SA
                    go_wp2_with fail
                    go_meet
                    exact ⟨gg, d, rfl, rfl, HD, EX, KW, hik lg⟩
                · refine AllReadyH.cons rfl (fun K hK => ?_) AllReadyH.nil
                  simp only [List.getElem_toArray, List.getElem_cons_zero, List.getElem_cons_succ]
                  go_simp
                  obtain ⟨gg, hgg⟩ : ∃ q, q = W7.heap.size := ⟨_, rfl⟩
                  have EB : Hid (ElB ((World.alloc W7 (.cells #[.int .i64 0, .int .i64 0] 31)).drew) gg El.zr) := hik (by rw [hgg]; exact ElB.keep (ElB.zero W7) (Chg.refl nob _).drew1)
                  have lg : W7.heap.size ≤ gg := by rw [hgg]; exact Nat.le_refl _
                  replace KW : Hid (Chg nob W7 ((World.alloc W7 (.cells #[.int .i64 0, .int .i64 0] 31)).drew)) := hik (((Chg.refl nob W7).alloc _).drew1)
                  generalize hUA : (World.alloc W7 (.cells #[.int .i64 0, .int .i64 0] 31)).drew = XA1 at EB KW ⊢
                  clear hUA
                  rw [← hgg]
                  clear hgg
                  refine hK.out _ _ (SA.out _ KW.out) (fun hHeld => ?_)
                  clear hK K
                  try simp only [Act.put, List.setIfInBounds_toArray, List.set_cons_zero, List.set_cons_succ, List.getElem_toArray, List.getElem_cons_zero, List.getElem_cons_succ]
                  refine wpAnyH_ready (rs := [6]) (by kernel_rfl) (by simp) ?_
                  refine AllReadyH.cons rfl (fun K hK => ?_) AllReadyH.nil
                  refine stepL_callN 5 #[.tmp 116, .const (.int .i64 2), .const (.int .i64 90)] #[22, 3, 3] (by rfl) (by rfl) #[.slice a1 len1 cap1, .int .i64 2, .int .i64 90] (by simp only [List.map_toArray, List.map_cons, List.map_nil] <;> rfl) (run_go Tryz.func5 (by kernel_rfl) (by kernel_rfl) _ _) (at_any a1 len1 cap1 2 90 _ (HB1.out.below (G.out.trans KW.out).belowAll) hn1 (by omega) (by omega) (by omega) (by omega)) ?_
                  rintro e X2 ⟨x3, he, hx3, hx4, kk⟩
                  replace kk := Chg.of_below kk
                  replace EB := hik (EB.out.keep kk)
                  refine ⟨_, he, ?_⟩
                  replace KW := hik (KW.out.trans kk)
                  refine hK.out _ _ (SA.out _ KW.out) (fun hHeld => ?_)
                  clear hK K
                  try simp only [Act.put, List.setIfInBounds_toArray, List.set_cons_zero, List.set_cons_succ, List.getElem_toArray, List.getElem_cons_zero, List.getElem_cons_succ]
                  clear he kk
                  obtain ⟨d, hd⟩ : ∃ d : Nat, (d : Int) = 1 + x3 := ⟨(1 + x3).toNat, by omega⟩
                  have hwd : IntKind.i64.wrap (1 + x3) = (d : Int) := by rw [IntKind.wrap_i64]; omega
                  have HD := hik (show 1 ≤ d ∧ d < 100 by omega)
                  clear hd hx3 hx4
                  refine wpAnyH_take (i := 7) (v := .int .i64 (d : Int)) rfl (by kernel_rfl) (by kernel_rfl) (by kernel_rfl) (fun _ _ _ h => h) (Or.inl ⟨by rfl, ?_⟩) (by assumption) ?_
                  · (intro w' hSw; (try dsimp only at hSw); go_simp; first | done | exact hwd | rw [hwd])
                  try simp only [Act.put, List.setIfInBounds_toArray, List.set_cons_zero, List.set_cons_succ, List.getElem_toArray, List.getElem_cons_zero, List.getElem_cons_succ]
                  refine wpAnyH_take (i := 8) (v := ?_) rfl (by kernel_rfl) (by kernel_rfl) (by kernel_rfl) (fun _ _ _ h => h) (Or.inl ⟨by rfl, ?_⟩) (by assumption) ?_
                  rotate_left 1
                  · (intro w' hSw; (try dsimp only at hSw); go_simp; try with_reducible rfl)
                  try simp only [Act.put, List.setIfInBounds_toArray, List.set_cons_zero, List.set_cons_succ, List.getElem_toArray, List.getElem_cons_zero, List.getElem_cons_succ]
                  refine wpAnyH_ready (rs := [9]) (by kernel_rfl) (by simp) ?_
                  refine AllReadyH.cons rfl (fun K hK => ?_) AllReadyH.nil
                  refine stepL_callN 20 #[.tmp 115, .tmp 119] #[31, 31] (by rfl) (by rfl) #[.agg #[.int .i64 (Gg 0 0).v.1, .int .i64 (Gg 0 0).v.2], .agg #[.int .i64 (d : Int), .int .i64 0]] (by simp only [List.map_toArray, List.map_cons, List.map_nil] <;> rfl) (run_go Tryz.func20 (by kernel_rfl) (by kernel_rfl) _ _) (exAd_nb (Gg 0 0) d (by have := HD.out; omega) _) ?_
                  rintro e X3 ⟨he, kk⟩
                  replace EB := hik (EB.out.keep kk)
                  refine ⟨_, he, ?_⟩
                  replace KW := hik (KW.out.trans kk)
                  refine hK.out _ _ (SA.out _ KW.out) (fun hHeld => ?_)
                  clear hK K
                  try simp only [Act.put, List.setIfInBounds_toArray, List.set_cons_zero, List.set_cons_succ, List.getElem_toArray, List.getElem_cons_zero, List.getElem_cons_succ]
                  clear he kk
                  refine wpAnyH_take (i := 10) (v := ?_) rfl (by kernel_rfl) (by kernel_rfl) (by kernel_rfl) (fun _ _ _ h => h) (Or.inl ⟨by rfl, ?_⟩) (by assumption) ?_
                  rotate_left 1
                  · (intro w' hSw; (try dsimp only at hSw); go_simp; try with_reducible rfl)
                  try simp only [Act.put, List.setIfInBounds_toArray, List.set_cons_zero, List.set_cons_succ, List.getElem_toArray, List.getElem_cons_zero, List.getElem_cons_succ]
                  refine wpAnyH_take (i := 11) (v := ?_) rfl (by kernel_rfl) (by kernel_rfl) (by kernel_rfl) (fun _ _ _ h => h) (Or.inl ⟨by rfl, ?_⟩) (by assumption) ?_
                  rotate_left 1
                  · (intro w' hSw; (try dsimp only at hSw); go_simp; try with_reducible rfl)
                  try simp only [Act.put, List.setIfInBounds_toArray, List.set_cons_zero, List.set_cons_succ, List.getElem_toArray, List.getElem_cons_zero, List.getElem_cons_succ]
                  refine wpAnyH_take (i := 12) (v := ?_) rfl (by kernel_rfl) (by kernel_rfl) (by kernel_rfl) (fun _ _ _ h => h) (Or.inl ⟨by rfl, ?_⟩) (by assumption) ?_
                  rotate_left 1
                  · (intro w' hSw; (try dsimp only at hSw); go_simp; try with_reducible rfl)
                  try simp only [Act.put, List.setIfInBounds_toArray, List.set_cons_zero, List.set_cons_succ, List.getElem_toArray, List.getElem_cons_zero, List.getElem_cons_succ]
                  refine wpAnyH_ready (rs := [14]) (by kernel_rfl) (by simp) ?_
                  refine AllReadyH.cons rfl (fun K hK => ?_) AllReadyH.nil
                  have g0 : X3.cell? ⟨gg, 0, none⟩ = some (.int .i64 0) := EB.out.c0
                  have g1 : X3.cell? ⟨gg, 1, none⟩ = some (.int .i64 0) := EB.out.c1
                  have f0 := EB.out.fz 0
                  have f1 := EB.out.fz 1
                  have ln : gg < X3.heap.size := EB.out.lt
                  simp only [List.getElem_toArray, List.getElem_cons_zero, List.getElem_cons_succ]
                  go_simp
                  have EX := hik (row2_set EB.out (.int .i64 (El.ad (Gg 0 0) (El.nb d)).v.1) (.int .i64 (El.ad (Gg 0 0) (El.nb d)).v.2))
                  replace KW := hik (chg2_set KW.out gg (fun l => absurd l (by omega)) (.int .i64 (El.ad (Gg 0 0) (El.nb d)).v.1) (.int .i64 (El.ad (Gg 0 0) (El.nb d)).v.2))
                  refine hK.out _ _ (SA.out _ KW.out) (fun hHeld => ?_)
                  clear hK K
                  try simp only [Act.put, List.setIfInBounds_toArray, List.set_cons_zero, List.set_cons_succ, List.getElem_toArray, List.getElem_cons_zero, List.getElem_cons_succ]
                  clear g0 g1 f0 f1 ln EB
                  refine wpAnyH_take (i := 15) (v := ?_) rfl (by kernel_rfl) (by kernel_rfl) (by kernel_rfl) (fun _ _ _ h => h) (Or.inl ⟨by rfl, ?_⟩) (by assumption) ?_
                  rotate_left 1
                  · (intro w' hSw; (try dsimp only at hSw); go_simp; try with_reducible rfl)
                  try simp only [Act.put, List.setIfInBounds_toArray, List.set_cons_zero, List.set_cons_succ, List.getElem_toArray, List.getElem_cons_zero, List.getElem_cons_succ]
                  refine wpAnyH_done (by kernel_rfl) ?_ _
                  clear SA
                  go_wp2_with fail
                  go_meet
                  exact ⟨gg, d, rfl, rfl, HD, EX, KW, hik lg⟩
            case rest =>
              as_aux_lemma =>
                obtain ⟨q15, d2, rfl, rfl, EYD, EY, KX, EYL⟩ := hcut
                rename World => W15
                have EY8 := hik KX.out.size
                replace G := hik (G.out.trans KX.out)
                replace TB := hik (RowsE.keep TB.out KX.out)
                replace OS := hik (OS.out.keep KX.out)
                replace RS := hik (rowIs_keep RS.out KX.out)
                replace E1 := hik (rowIs_keep E1.out KX.out)
                replace EW := hik (rowIs_keep EW.out KX.out)
                replace OR := hik (OR.out.keep KX.out)
                replace O7 := hik (flKeep O7.out KX.out)
                clear KX
                have hcr0 : Cr 0 = k + 2 := HCr.out 0 (by omega)
                have c0 : W15.cell? ⟨g7, 0, none⟩ = some (.slice (some ⟨H 0, 0, none⟩) (k + 2) (k + 2)) := by
                  have z := O7.out.cells (g := g7) rfl 0 (.slice (some ⟨H 0, 0, none⟩) (k + 2) (Cr 0)) (by rw [List.getElem?_map, List.getElem?_range (show 0 < v by omega)]; rfl)
                  rw [Go.WideShapes.add_plain, hcr0] at z
                  simpa using z
                have e0 : W15.cell? ⟨q15, 0, none⟩ = some (.int .i64 (El.ad (Gg 0 0) (El.nb d2)).v.1) := EY.out.cell (by omega)
                have e1 : W15.cell? ⟨q15, 1, none⟩ = some (.int .i64 (El.ad (Gg 0 0) (El.nb d2)).v.2) := EY.out.cell (by omega)
                have OG0 := hik (OR.out.inn 0 (by omega))
                have fz7 := hik (O7.out.frozenAt 0)
                have s7 := hik (show W7.heap.size ≤ W15.heap.size from EY8.out)
                obtain ⟨X', hX'⟩ : ∃ x, x = El.ad (Gg 0 0) (El.nb d2) := ⟨_, rfl⟩
                rw [← hX'] at e0 e1
                clear hc70 hu70 PG hX' hcr0
                go_upto_region 14 with fail
                have KW := hik ((Chg.refl nob W15).drew1)
                have SA := hik (fun (WW : World) (kW : Chg nob W15 WW) => (show (WW.cell? ⟨g7, 0, none⟩ = some (.slice (some ⟨H 0, 0, none⟩) (k + 2) (k + 2)) ∧ WW.cell? ⟨q15, 0, none⟩ = some (.int .i64 X'.v.1) ∧ WW.cell? ⟨q15, 1, none⟩ = some (.int .i64 X'.v.2)) from ⟨kW.see c0, kW.see e0, kW.see e1⟩))
                refine wp_regionL (L := 9) (S := fun w' => w'.cell? ⟨g7, 0, none⟩ = some (.slice (some ⟨H 0, 0, none⟩) (k + 2) (k + 2)) ∧ w'.cell? ⟨q15, 0, none⟩ = some (.int .i64 X'.v.1) ∧ w'.cell? ⟨q15, 1, none⟩ = some (.int .i64 X'.v.2)) (by kernel_rfl) ⟨c0, e0, e1⟩ (fun hHeld => ?_)
                refine wpAnyL_take (i := 0) (v := ?_) rfl (by kernel_rfl) (by kernel_rfl) (by kernel_rfl) (fun _ _ _ h => h) (by rfl) (by kernel_rfl) (by kernel_rfl) (Or.inl ⟨by rfl, ?_⟩) (by assumption) ?_
                rotate_left 1
                · (intro w' hSw; (try dsimp only at hSw); go_simp; try with_reducible rfl)
                try simp only [Act.put, List.setIfInBounds_toArray, List.set_cons_zero, List.set_cons_succ, List.getElem_toArray, List.getElem_cons_zero, List.getElem_cons_succ]
                refine wpAnyL_take (i := 1) (v := ?_) rfl (by kernel_rfl) (by kernel_rfl) (by kernel_rfl) (fun _ _ _ h => h) (by rfl) (by kernel_rfl) (by kernel_rfl) (Or.inl ⟨by rfl, ?_⟩) (by assumption) ?_
                rotate_left 1
                · (intro w' hSw; (try dsimp only at hSw); go_simp; try with_reducible rfl)
                try simp only [Act.put, List.setIfInBounds_toArray, List.set_cons_zero, List.set_cons_succ, List.getElem_toArray, List.getElem_cons_zero, List.getElem_cons_succ]
                refine wpAnyL_take (i := 3) (v := ?_) rfl (by kernel_rfl) (by kernel_rfl) (by kernel_rfl) (fun _ _ _ h => h) (by rfl) (by kernel_rfl) (by kernel_rfl) (Or.inl ⟨by rfl, ?_⟩) (by assumption) ?_
                rotate_left 1
                · (intro w' hSw; (try dsimp only at hSw); go_simp; try with_reducible rfl)
                try simp only [Act.put, List.setIfInBounds_toArray, List.set_cons_zero, List.set_cons_succ, List.getElem_toArray, List.getElem_cons_zero, List.getElem_cons_succ]
                refine wpAnyL_take (i := 4) (v := ?_) rfl (by kernel_rfl) (by kernel_rfl) (by kernel_rfl) (fun _ _ _ h => h) (by rfl) (by kernel_rfl) (by kernel_rfl) (Or.inl ⟨by rfl, ?_⟩) (by assumption) ?_
                rotate_left 1
                · (intro w' hSw; (try dsimp only at hSw); go_simp; try with_reducible rfl)
                try simp only [Act.put, List.setIfInBounds_toArray, List.set_cons_zero, List.set_cons_succ, List.getElem_toArray, List.getElem_cons_zero, List.getElem_cons_succ]
                refine wpAnyL_take (i := 5) (v := ?_) rfl (by kernel_rfl) (by kernel_rfl) (by kernel_rfl) (fun _ _ _ h => h) (by rfl) (by kernel_rfl) (by kernel_rfl) (Or.inl ⟨by rfl, ?_⟩) (by assumption) ?_
                rotate_left 1
                · (intro w' hSw; (try dsimp only at hSw); go_simp; try with_reducible rfl)
                try simp only [Act.put, List.setIfInBounds_toArray, List.set_cons_zero, List.set_cons_succ, List.getElem_toArray, List.getElem_cons_zero, List.getElem_cons_succ]
                refine wpAnyL_take (i := 6) (v := .slice (some ⟨H 0, 2, none⟩) (k + 1) (k + 1)) rfl (by kernel_rfl) (by kernel_rfl) (by kernel_rfl) (fun _ _ _ h => h) (by rfl) (by kernel_rfl) (by kernel_rfl) (Or.inl ⟨by rfl, ?_⟩) (by assumption) ?_
                · (intro w' hSw; (try dsimp only at hSw); go_simp; first | done | (simp; omega) | skip)
                try simp only [Act.put, List.setIfInBounds_toArray, List.set_cons_zero, List.set_cons_succ, List.getElem_toArray, List.getElem_cons_zero, List.getElem_cons_succ]
                refine wpAnyL_ready (rs := [2]) (by kernel_rfl) (by simp) ?_
                refine AllReadyL.cons rfl (fun K hK => ?_) AllReadyL.nil
                simp only [List.getElem_toArray, List.getElem_cons_zero, List.getElem_cons_succ]
                go_simp
                obtain ⟨xg, hxg⟩ : ∃ q, q = W15.heap.size := ⟨_, rfl⟩
                have NW : Hid (World.ownsRow ((World.alloc W15 (.cells #[.int .i64 X'.v.1, .int .i64 X'.v.2] 31)).drew) xg 31 2 (.slice (some ⟨xg, 0, none⟩) 1 1) 1 [.int .i64 X'.v.1, .int .i64 X'.v.2]) := hik (by rw [hxg]; exact flKeep (World.ownsRow_lit W15 #[.int .i64 X'.v.1, .int .i64 X'.v.2] 1 (Nat.le_refl _) (by unfold maxLen; omega) rfl) (Chg.refl nob _).drew1)
                have sx : W15.heap.size ≤ xg := by omega
                have lx : xg ≤ ((World.alloc W15 (.cells #[.int .i64 X'.v.1, .int .i64 X'.v.2] 31)).drew).heap.size := by rw [hxg]; simp
                replace KW : Hid (Chg nob W15 ((World.alloc W15 (.cells #[.int .i64 X'.v.1, .int .i64 X'.v.2] 31)).drew)) := hik (((Chg.refl nob W15).alloc _).drew1)
                generalize hUA : (World.alloc W15 (.cells #[.int .i64 X'.v.1, .int .i64 X'.v.2] 31)).drew = VA at NW KW lx ⊢
                clear hUA
                rw [← hxg]
                clear hxg
                refine hK.out _ _ (SA.out _ KW.out) (fun hHeld => ?_)
                clear hK K
                try simp only [Act.put, List.setIfInBounds_toArray, List.set_cons_zero, List.set_cons_succ, List.getElem_toArray, List.getElem_cons_zero, List.getElem_cons_succ]
                refine wpAnyL_ready (rs := [7]) (by kernel_rfl) (by simp) ?_
                refine AllReadyL.cons rfl (fun K hK => ?_) AllReadyL.nil
                refine step_append_lies _ rfl (.tmp 125) (.tmp 129) 26 (by rfl) xg 31 i0 (.agg #[.int .i64 0, .int .i64 0]) 2 16 Tryz.underlying26 HI.out HZ0.out HZ1.out HZ2.out rfl (by decide) (.slice (some ⟨xg, 0, none⟩) 1 1) 1 _ (by rfl) NW.out ⟨H 0, 2, none⟩ (k + 1) (k + 1) ((List.range ((k + 1) * 2)).map (fun j => pf (cA (Gg 0)) (cB (Gg 0)) (j + 2))) (by rfl) (by simp) ?na ?nb (by omega) (by unfold maxLen; omega) (by omega) lx _ rfl (fun g8 cp8 w8 o8 hg8 hat8 hlt8 => ?_)
                case na =>
                  intro j x hj
                  have hjv : j < (k + 1) * 2 := by
                    have z := (List.getElem?_eq_some_iff.1 hj).1
                    simpa using z
                  rw [List.getElem?_map, List.getElem?_range hjv] at hj
                  cases hj
                  rw [Go.WideShapes.add_plain, show 2 + j = j + 2 by omega]
                  exact KW.out.see (own_cell OG0.out (by omega))
                case nb =>
                  intro x hx
                  obtain ⟨j, _, rfl⟩ := List.mem_map.1 hx
                  unfold pf
                  split <;> rfl
                have O8 := hik (own_bent o8)
                have hg8x := hik (show xg ≤ g8 from (o8.lt g8 rfl).1)
                replace KW := hik (show Chg nob _ _ from Chg.near KW.out (grown_chg hg8) (fun x e => by have q : some xg = some x := e; cases q; omega))
                clear o8 hg8 hat8 hlt8 NW lx
                refine hK.out _ _ (SA.out _ KW.out) (fun hHeld => ?_)
                clear hK K
                try simp only [Act.put, List.setIfInBounds_toArray, List.set_cons_zero, List.set_cons_succ, List.getElem_toArray, List.getElem_cons_zero, List.getElem_cons_succ]
                refine wpAnyL_take (i := 8) (v := ?_) rfl (by kernel_rfl) (by kernel_rfl) (by kernel_rfl) (fun _ _ _ h => h) (by rfl) (by kernel_rfl) (by kernel_rfl) (Or.inl ⟨by rfl, ?_⟩) (by assumption) ?_
                rotate_left 1
                · (intro w' hSw; (try dsimp only at hSw); go_simp; try with_reducible rfl)
                try simp only [Act.put, List.setIfInBounds_toArray, List.set_cons_zero, List.set_cons_succ, List.getElem_toArray, List.getElem_cons_zero, List.getElem_cons_succ]
                refine wpAnyL_ready (rs := [9]) (by kernel_rfl) (by simp) ?_
                refine AllReadyL.last rfl (by kernel_rfl) (fun K hK => ?_)
                have g0 := KW.out.see c0
                have f0 : w8.frozen? ⟨g7, 0, none⟩ = false := (flKeep O7.out KW.out).frozenAt 0
                have ln : g7 < w8.heap.size := ((flKeep O7.out KW.out).lt g7 rfl).2
                simp only [List.getElem_toArray, List.getElem_cons_zero, List.getElem_cons_succ]
                go_simp
                refine hK.out _ _ ?_
                clear hK K
                try simp only [Act.put, List.setIfInBounds_toArray, List.set_cons_zero, List.set_cons_succ, List.getElem_toArray, List.getElem_cons_zero, List.getElem_cons_succ]
                clear g0 f0 ln
                refine wpAnyL_done (by kernel_rfl) ?_ _
                have KE := hik (Chg.setCell (P := fun b => b = g7) (Chg.refl _ w8) (p := ⟨g7, 0, none⟩) (fun _ => rfl) (.slice (some ⟨g8, 0, none⟩) (k + 2) cp8))
                have O7' := hik (flKeep O7.out KW.out)
                have OR' := hik (OR.out.keep KW.out)
                have E8 := hik (rowIs_keep EW.out KW.out)
                have R8 := hik (rowIs_keep RS.out KW.out)
                have S8 := hik (OS.out.keep KW.out)
                have G8 := hik (G.out.trans KW.out)
                have g7w := hik (show w.heap.size ≤ g7 from by have := g7l.out; have := GW13.out; omega)
                have hHn := hik (show ∀ i, i < v → H i ≠ g7 from fun i hi => Nat.ne_of_lt (Nat.lt_of_lt_of_le (hHl.out i hi) g7l.out))
                have h7l := hik (show g7 < W15.heap.size from (O7.out.lt g7 rfl).2)
                have hne := hik (show g8 ≠ g7 from Nat.ne_of_gt (Nat.lt_of_lt_of_le (Nat.lt_of_lt_of_le h7l.out sx) hg8x.out))
                have p7 := rows_bent (cp8 := cp8) O7'.out OR'.out O8.out hHn.out hne.out hv1
                have RV := hik p7
                clear p7
                have EW9 := hik (rowIs_chg E8.out KE.out (fun e => absurd (owns_kind O7'.out (g := g7) rfl (e ▸ E8.out)) (by decide)))
                have RS9 := hik (rowIs_chg R8.out KE.out (fun e => absurd (owns_kind O7'.out (g := g7) rfl (e ▸ R8.out)) (by decide)))
                have OS9 := hik (S8.out.farS O7'.out (X := g7) rfl KE.out)
                have G9 := hik (Chg.near G8.out KE.out (fun x (e : x = g7) => by have := g7w.out; omega))
                obtain ⟨Ub, hUb⟩ : ∃ u : Nat → Nat → El, u = fun i => if i = 0 then bentE (Gg 0) X' else Gg i := ⟨_, rfl⟩
                rw [show 1 + (k + 1) = k + 2 from by omega]
                generalize hE9 : w8.setCell ⟨g7, 0, none⟩ (.slice (some ⟨g8, 0, none⟩) (k + 2) cp8) = W16 at RV EW9 RS9 OS9 G9 ⊢
                obtain ⟨Ab, Cb, RB⟩ : ∃ (A : Nat → Option Addr) (C : Nat → Nat), Hid (RowsV W16 (some ⟨g7, 0, none⟩) v A (fun _ => k + 2) C (fun i => cA (Ub i)) (fun i => cB (Ub i))) := ⟨_, _, hik (by rw [hUb]; exact RV.out)⟩
                obtain ⟨cd, hcd⟩ : ∃ q, q = svc8 (k : Int) (El.ad Sm (El.nb d1)).v.1 (El.ad Sm (El.nb d1)).v.2 v (fun _ => k + 2) (fun i => cA (Ub i)) (fun i => cB (Ub i)) (v : Int) f g len at' st ct := ⟨_, rfl⟩
                have QX := hik (fun (c : Option Addr) (cap : Nat) (A : Nat → Option Addr) (C : Nat → Nat) (cs : Option Addr) (caps : Nat) (W : World) (h : Hid (RowsV W c v A (fun _ => k + 2) C (fun i => cA (Ub i)) (fun i => cB (Ub i)))) (hs : Hid (PairV W cs len f g)) (ht : Hid (Tabs W)) => QV.out (El.ad Sm (El.nb d1)) v (by omega) Ub c cap A C cs caps W h hs ht)
                have QY := hik (fun (c : Option Addr) (cap : Nat) (A : Nat → Option Addr) (C : Nat → Nat) (cs : Option Addr) (caps : Nat) (W : World) (h : Hid (RowsV W c v A (fun _ => k + 2) C (fun i => cA (Ub i)) (fun i => cB (Ub i)))) (hs : Hid (PairV W cs len f g)) => QW.out (El.ad Sm (El.nb d1)) v (by omega) Ub c cap A C cs caps W h hs)
                rw [← hcd] at QX QY
                clear hcd hE9 hUb RV KE O7' OR' E8 R8 S8 G8 KW SA O8 O7 OR c0 e0 e1 OG0 fz7 EY EYD EYL EY8 TB E1
                replace EW := EW9
                replace RS := RS9
                replace OS := OS9
                replace G := G9
                clear EW9 RS9 OS9 G9
                have zEW : q8 < W16.heap.size := EW.out.lt
                have xEW0 : W16.cell? ⟨q8, 0, none⟩ = some (.int .i64 (El.ad Sm (El.nb d1)).v.1) := EW.out.cell (by omega)
                have xEW1 : W16.cell? ⟨q8, 1, none⟩ = some (.int .i64 (El.ad Sm (El.nb d1)).v.2) := EW.out.cell (by omega)
                have zRS : q5 < W16.heap.size := RS.out.lt
                have xRS0 : W16.cell? ⟨q5, 0, none⟩ = some (.slice cs len caps) := RS.out.cell (by omega)
                have xRS1 : W16.cell? ⟨q5, 1, none⟩ = some (.int .i64 at') := RS.out.cell (by omega)
                have xRS2 : W16.cell? ⟨q5, 2, none⟩ = some (.string st) := RS.out.cell (by omega)
                have xRS3 : W16.cell? ⟨q5, 3, none⟩ = some (.int .i64 ct) := RS.out.cell (by omega)
                go_wp2_with fail
                refine (QX.out (some ⟨g7, 0, none⟩) cp7 Ab Cb cs caps _ RB (hik OS.out.pairs) (hik (ht.out.keep G.out))).mono ?_
                rintro e W17 ⟨b1, b2, b3, b4, b5, b6, b7, b8, b9, b10, b11, rfl, kk⟩
                clear zEW xEW0 xEW1 zRS xRS0 xRS1 xRS2 xRS3
                replace G := hik (G.out.trans kk)
                replace OS := hik (OS.out.keep kk)
                replace RS := hik (rowIs_keep RS.out kk)
                replace EW := hik (rowIs_keep EW.out kk)
                replace RB := hik (RowsV.keep RB.out kk)
                clear kk
                go_upto_region 16 with fail
                obtain ⟨q18, hq18⟩ : ∃ q, q = W17.heap.size := ⟨_, rfl⟩
                have kk := ((Chg.refl nob W17).alloc (.cells #[.int .i64 b4, .int .i64 b5] 31)).alloc (.cells #[.slice b6 b7 b8, .int .i64 b9, .string b10, .int .i64 b11] 28)
                replace G := hik (G.out.trans kk)
                replace OS := hik (OS.out.keep kk)
                replace RS := hik (rowIs_keep RS.out kk)
                replace EW := hik (rowIs_keep EW.out kk)
                replace RB := hik (RowsV.keep RB.out kk)
                have M1 : Hid (World.rowIs ((W17.alloc (.cells #[.int .i64 b4, .int .i64 b5] 31)).alloc (.cells #[.slice b6 b7 b8, .int .i64 b9, .string b10, .int .i64 b11] 28)) (q18) 31 2 (pv2 (.int .i64 b4) (.int .i64 b5))) := hik (by rw [hq18]; simpa using World.rowIs.alloc (row2_new W17 (.int .i64 b4) (.int .i64 b5) 31) (.cells #[.slice b6 b7 b8, .int .i64 b9, .string b10, .int .i64 b11] 28))
                have M2 : Hid (World.rowIs ((W17.alloc (.cells #[.int .i64 b4, .int .i64 b5] 31)).alloc (.cells #[.slice b6 b7 b8, .int .i64 b9, .string b10, .int .i64 b11] 28)) (q18 + 1) 28 4 (pv4 (.slice b6 b7 b8) (.int .i64 b9) (.string b10) (.int .i64 b11))) := hik (by rw [hq18]; simpa using row4_new (W17.alloc (.cells #[.int .i64 b4, .int .i64 b5] 31)) (.slice b6 b7 b8) (.int .i64 b9) (.string b10) (.int .i64 b11) 28)
                clear kk
                rw [← hq18]
                generalize hE : ((W17.alloc (.cells #[.int .i64 b4, .int .i64 b5] 31)).alloc (.cells #[.slice b6 b7 b8, .int .i64 b9, .string b10, .int .i64 b11] 28)) = W18 at G OS RS EW RB M1 M2 ⊢
                clear hE hq18
                have zEW : q8 < W18.heap.size := EW.out.lt
                have xEW0 : W18.cell? ⟨q8, 0, none⟩ = some (.int .i64 (El.ad Sm (El.nb d1)).v.1) := EW.out.cell (by omega)
                have xEW1 : W18.cell? ⟨q8, 1, none⟩ = some (.int .i64 (El.ad Sm (El.nb d1)).v.2) := EW.out.cell (by omega)
                have zRS : q5 < W18.heap.size := RS.out.lt
                have xRS0 : W18.cell? ⟨q5, 0, none⟩ = some (.slice cs len caps) := RS.out.cell (by omega)
                have xRS1 : W18.cell? ⟨q5, 1, none⟩ = some (.int .i64 at') := RS.out.cell (by omega)
                have xRS2 : W18.cell? ⟨q5, 2, none⟩ = some (.string st) := RS.out.cell (by omega)
                have xRS3 : W18.cell? ⟨q5, 3, none⟩ = some (.int .i64 ct) := RS.out.cell (by omega)
                go_wp2_with fail
                refine (QY.out (some ⟨g7, 0, none⟩) cp7 Ab Cb cs caps _ RB (hik OS.out.pairs)).mono ?_
                rintro e W19 ⟨c1, c2, c3, c4, c5, c6, c7, c8, c9, c10, c11, rfl, kk⟩
                clear zEW xEW0 xEW1 zRS xRS0 xRS1 xRS2 xRS3
                replace G := hik (G.out.trans kk)
                replace OS := hik (OS.out.keep kk)
                replace RS := hik (rowIs_keep RS.out kk)
                replace EW := hik (rowIs_keep EW.out kk)
                replace RB := hik (RowsV.keep RB.out kk)
                replace M1 := hik (rowIs_keep M1.out kk)
                replace M2 := hik (rowIs_keep M2.out kk)
                clear kk
                go_upto_region 17 with fail
                obtain ⟨q20, hq20⟩ : ∃ q, q = W19.heap.size := ⟨_, rfl⟩
                have kk := ((Chg.refl nob W19).alloc (.cells #[.int .i64 c4, .int .i64 c5] 31)).alloc (.cells #[.slice c6 c7 c8, .int .i64 c9, .string c10, .int .i64 c11] 28)
                replace G := hik (G.out.trans kk)
                replace OS := hik (OS.out.keep kk)
                replace RS := hik (rowIs_keep RS.out kk)
                replace EW := hik (rowIs_keep EW.out kk)
                replace RB := hik (RowsV.keep RB.out kk)
                replace M1 := hik (rowIs_keep M1.out kk)
                replace M2 := hik (rowIs_keep M2.out kk)
                have N1 : Hid (World.rowIs ((W19.alloc (.cells #[.int .i64 c4, .int .i64 c5] 31)).alloc (.cells #[.slice c6 c7 c8, .int .i64 c9, .string c10, .int .i64 c11] 28)) (q20) 31 2 (pv2 (.int .i64 c4) (.int .i64 c5))) := hik (by rw [hq20]; simpa using World.rowIs.alloc (row2_new W19 (.int .i64 c4) (.int .i64 c5) 31) (.cells #[.slice c6 c7 c8, .int .i64 c9, .string c10, .int .i64 c11] 28))
                have N2 : Hid (World.rowIs ((W19.alloc (.cells #[.int .i64 c4, .int .i64 c5] 31)).alloc (.cells #[.slice c6 c7 c8, .int .i64 c9, .string c10, .int .i64 c11] 28)) (q20 + 1) 28 4 (pv4 (.slice c6 c7 c8) (.int .i64 c9) (.string c10) (.int .i64 c11))) := hik (by rw [hq20]; simpa using row4_new (W19.alloc (.cells #[.int .i64 c4, .int .i64 c5] 31)) (.slice c6 c7 c8) (.int .i64 c9) (.string c10) (.int .i64 c11) 28)
                clear kk
                rw [← hq20]
                generalize hE : ((W19.alloc (.cells #[.int .i64 c4, .int .i64 c5] 31)).alloc (.cells #[.slice c6 c7 c8, .int .i64 c9, .string c10, .int .i64 c11] 28)) = W20 at G OS RS EW RB M1 M2 N1 N2 ⊢
                clear hE hq20
                go_wp2
                go_ret
                exact ⟨rfl, G.out.belowAll⟩

end Go.Proofs.YtgiefpipflcbgadGreatDoor
