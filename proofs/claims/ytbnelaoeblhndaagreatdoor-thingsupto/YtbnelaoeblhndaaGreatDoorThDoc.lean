/- Stores of things, as the document has them; no program is named here. -/
import Derived.Test.YtbnelaoeblhndaaGreatDoorParse
namespace Go.Proofs.YtbnelaoeblhndaaGreatDoor
namespace Doc

/-- A value: its kind, number, string. -/
structure Val where
  k : Int
  n : Int
  s : ByteArray
/-- A field: its name and kind. -/
structure Fld where
  name : ByteArray
  kind : Int
/-- A thing: its number, spot and values. -/
structure Thg where
  id : Int
  spot : List Int
  vals : List Val

/-- Is a value one that may stand in a field of this kind? -/
def goodV (v : Val) (kind : Int) : Bool :=
  (v.k == 0 && (v.n == 0 && v.s.toList == [])) || (v.k == 1 && (kind == 1 && v.s.toList == [] && decide (-9999999 ≤ v.n) && decide (v.n ≤ 9999999))) || (v.k == 2 && (kind == 2 && v.n == 0 && decide (v.s.size ≤ 12)))

def inSpot (n : Int) : Bool := decide (-1000 ≤ n) && decide (n ≤ 1000)
/-- Are numbers a spot of the space? -/
def spotB (space : Int) (l : List Int) : Bool := l.all inSpot && ((l.length : Int) == space)

/-- Where the first thing of this number stands. -/
def idxT (ths : List Thg) (id : Int) : Option Nat := ths.findIdx? (fun t => t.id == id)
/-- A place as a number; -1 for none. -/
def placeI : Option Nat → Int | some k => k | none => -1

theorem idxT_some {ths : List Thg} {id : Int} {k : Nat} (hk : k < ths.length) (h : (ths[k].id == id) = true) (hb : ∀ j (hj : j < k), (ths[j].id == id) = false) : idxT ths id = some k := by
  unfold idxT
  rw [List.findIdx?_eq_some_iff_getElem]
  exact ⟨hk, h, fun j hj => by rw [hb j hj]; simp⟩
theorem idxT_none {ths : List Thg} {id : Int} (hb : ∀ j (hj : j < ths.length), (ths[j].id == id) = false) : idxT ths id = none := by
  unfold idxT
  rw [List.findIdx?_eq_none_iff]
  intro t ht
  obtain ⟨j, hj, rfl⟩ := List.getElem_of_mem ht
  exact hb j hj

/-- Where the first field of this name stands. -/
def idxF (fs : List Fld) (nm : ByteArray) : Option Nat := fs.findIdx? (fun f => f.name.toList == nm.toList)
theorem idxF_some {fs : List Fld} {nm : ByteArray} {k : Nat} (hk : k < fs.length) (h : (fs[k].name.toList == nm.toList) = true) (hb : ∀ j (hj : j < k), (fs[j].name.toList == nm.toList) = false) : idxF fs nm = some k := by
  unfold idxF
  rw [List.findIdx?_eq_some_iff_getElem]
  exact ⟨hk, h, fun j hj => by rw [hb j hj]; simp⟩
theorem idxF_none {fs : List Fld} {nm : ByteArray} (hb : ∀ j (hj : j < fs.length), (fs[j].name.toList == nm.toList) = false) : idxF fs nm = none := by
  unfold idxF
  rw [List.findIdx?_eq_none_iff]
  intro t ht
  obtain ⟨j, hj, rfl⟩ := List.getElem_of_mem ht
  exact hb j hj
end Doc
end Go.Proofs.YtbnelaoeblhndaaGreatDoor
