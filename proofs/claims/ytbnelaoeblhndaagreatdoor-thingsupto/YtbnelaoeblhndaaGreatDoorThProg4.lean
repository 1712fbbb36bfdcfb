/- The walk of strings.Clone. -/
import Derived.Test.YtbnelaoeblhndaaGreatDoorThProg3
import Derived.Test.YtbnelaoeblhndaaGreatDoorThRef5
import Derived.Test.YtbnelaoeblhndaaGreatDoorShelfT
namespace Go.Proofs.YtbnelaoeblhndaaGreatDoor
open Go.RowKit
set_option maxRecDepth 100000

theorem sclone_any (s : ByteArray) (hs : s.size ≤ 140737488351232) (w : World) : Calls Tryz.prog 106 #[.string s] w fun e w' => e = .returned (.string s) ∧ Below w.heap.size w w' := by
  go_enter Tryz.func106, Tryz.ntmps106
  go_wp2_with fail
  refine (Tryz.stringslite_Clone s _ (by omega)).mono ?_
  rintro e w1 ⟨rfl, hb⟩
  go_wp2_with fail
  go_ret
  exact ⟨rfl, hb⟩

end Go.Proofs.YtbnelaoeblhndaaGreatDoor
