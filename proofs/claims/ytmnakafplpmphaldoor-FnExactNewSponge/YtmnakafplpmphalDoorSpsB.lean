/- What the model's new sources are, and what they take in: contracts. Conditions: texts of at most 65536 bytes. -/
import Derived.Test.YtmnakafplpmphalDoorMrkM
import Derived.Test.YtmnakafplpmphalDoorBytN
import Derived.Test.YtmnakafplpmphalDoorSpsA
import Derived.Test.YtmnakafplpmphalDoorRow4
import Derived.Test.YtmnakafplpmphalDoorStepL
import Derived.Deep.RegionWith
import Derived.BigRegion
namespace Go.Proofs.YtmnakafplpmphalDoor
open Go.ChangeShapes Go.WideShapes Go.ChangeAt Go.RowKit
set_option linter.unusedVariables false
set_option maxRecDepth 100000
set_option linter.unusedSimpArgs false

/-- The state of a new source. -/
def nwT (label : ByteArray) : ByteArray := ⟨#[115, 111, 117, 114, 99, 101]⟩ ++ label
def nwS (label : ByteArray) : ByteArray := hsh (nwT label)
theorem nwT_size (label : ByteArray) : (nwT label).size = 6 + label.size := by unfold nwT; rw [ByteArray.size_append]; rfl
/-- Four bytes of a number, as a text. -/
def be4 (a : Int) : ByteArray := bt (wb a) 4
theorem be4_size (a : Int) : (be4 a).size = 4 := bt_size _ _
theorem four_row {w' : World} {a : Int} {b : Nat} (hb : b < w'.heap.size) (h : ∀ j u, (wv a)[j]? = some u → w'.cell? ((⟨b, 0, none⟩ : Addr).add j) = some u) : RowV w' (some ⟨b, 0, none⟩) 4 (bb (wb a)) := by
  intro i hi
  refine ⟨b, 0, rfl, hb, ?_⟩
  have q := h i (.int .u8 (wb a i)) (by
    match i, hi with
    | 0, _ => rfl
    | 1, _ => rfl
    | 2, _ => rfl
    | 3, _ => rfl)
  rw [Go.WideShapes.add_plain] at q
  exact q

set_option maxRecDepth 100000 in
set_option maxHeartbeats 1000000 in
theorem sNew_any (label : ByteArray) (c : Option Addr) (n cap : Nat) (w : World) (hl : label.size ≤ 65536) :
    Calls Tryd.prog 50 #[.string label, .slice c n cap] w fun e w' => e = .returned (.agg #[.slice c n cap, .int .i64 0, .string (nwS label), .int .i64 0]) ∧ Chg nob w w' := by
  have hl' : (label.size : Int) ≤ 65536 := by omega
  have hsz : (nwT label).size ≤ 1048576 := by rw [nwT_size]; omega
  go_enter Tryd.func50, Tryd.ntmps50
  go_wp2_with (go_at_call 54; refine (sHash_any (nwT label) _ hsz).mono ?_; rintro e W1 ⟨he, k1⟩; have he : e = .returned (.string (nwS label)) := he; subst he; have G1 := hik (((Chg.refl nob w).alloc (.cells #[.slice none 0 0, .int .i64 0, .string ⟨#[]⟩, .int .i64 0] 45)).trans k1); have R1 := hik (rowIs_keep (row4_new w (.slice none 0 0) (.int .i64 0) (.string ⟨#[]⟩) (.int .i64 0) 45) k1); obtain ⟨hc1, hf1, hz1⟩ := kcell k1 (w.heap.size + 1) (by simp); clear k1)
  exact bodyPost_ret (v := .agg #[.slice c n cap, .int .i64 0, .string (nwS label), .int .i64 0]) (by simp [results, Tryd.results50, go_sem, row4_s0 R1.out (.slice c n cap), row4_s1 R1.out (.slice c n cap) (.int .i64 0), row4_s2 R1.out (.slice c n cap) (.int .i64 0) (.string (nwS label)), row4_s3 R1.out (.slice c n cap) (.int .i64 0) (.string (nwS label)) (.int .i64 0)]) rfl ⟨rfl, chg4_set G1.out _ (fun l => absurd l (by simp)) _ _ _ _⟩

/-- The state behind a text that is taken in. -/
def abT (st t : ByteArray) : ByteArray := st ++ ⟨#[97, 98, 115, 111, 114, 98]⟩ ++ be4 t.size ++ t
def abS (st t : ByteArray) : ByteArray := hsh (abT st t)
theorem abT_size (st t : ByteArray) : (abT st t).size = st.size + 10 + t.size := by
  unfold abT
  rw [ByteArray.size_append, ByteArray.size_append, ByteArray.size_append, be4_size]; rfl