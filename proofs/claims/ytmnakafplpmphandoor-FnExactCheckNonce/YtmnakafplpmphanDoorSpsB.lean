/- What the model's new sources are, and what they take in: contracts. Conditions: texts of at most 65536 bytes. -/
import Derived.Test.YtmnakafplpmphanDoorMrkM
import Derived.Test.YtmnakafplpmphanDoorBytN
import Derived.Test.YtmnakafplpmphanDoorSpsA
import Derived.Test.YtmnakafplpmphanDoorRow4
import Derived.Test.YtmnakafplpmphanDoorStepL
import Derived.Deep.RegionWith
import Derived.BigRegion
namespace Go.Proofs.YtmnakafplpmphanDoor
open Go.ChangeShapes Go.WideShapes Go.ChangeAt Go.RowKit
set_option linter.unusedVariables false
set_option maxRecDepth 100000
set_option linter.unusedSimpArgs false

/-- The state of a new source. -/
def nwT (label : ByteArray) : ByteArray := ⟨#[115, 111, 117, 114, 99, 101]⟩ ++ label
def nwS (label : ByteArray) : ByteArray := hsh (nwT label)
theorem nwT_size (label : ByteArray) : (nwT label).size = 6 + label.size := by unfold nwT; rw [ByteArray.size_append]; rfl
/-- Four bytes of a number, as a text. -/
def be4 (a : Int) : ByteArray := bt (wb a) 4
theorem be4_size (a : Int) : (be4 a).size = 4 := bt_size _ _
theorem four_row {w' : World} {a : Int} {b : Nat} (hb : b < w'.heap.size) (h : ∀ j u, (wv a)[j]? = some u → w'.cell? ((⟨b, 0, none⟩ : Addr).add j) = some u) : RowV w' (some ⟨b, 0, none⟩) 4 (bb (wb a)) := by
  intro i hi
  refine ⟨b, 0, rfl, hb, ?_⟩
  have q := h i (.int .u8 (wb a i)) (by
    match i, hi with
    | 0, _ => rfl
    | 1, _ => rfl
    | 2, _ => rfl
    | 3, _ => rfl)
  rw [Go.WideShapes.add_plain] at q
  exact q

/-- The state behind a text that is taken in. -/
def abT (st t : ByteArray) : ByteArray := st ++ ⟨#[97, 98, 115, 111, 114, 98]⟩ ++ be4 t.size ++ t
def abS (st t : ByteArray) : ByteArray := hsh (abT st t)
theorem abT_size (st t : ByteArray) : (abT st t).size = st.size + 10 + t.size := by
  unfold abT
  rw [ByteArray.size_append, ByteArray.size_append, ByteArray.size_append, be4_size]; rfl