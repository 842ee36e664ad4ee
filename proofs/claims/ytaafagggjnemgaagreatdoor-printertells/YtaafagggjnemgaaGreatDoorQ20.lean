/- Contracts that the proof of this law leans on: no statement of the seat is proved here. -/
import Derived.Test.YtaafagggjnemgaaGreatDoorQ7
import Derived.Test.YtaafagggjnemgaaGreatDoorQ9

namespace Go.Proofs.YtaafagggjnemgaaGreatDoor
open Go.RowKit
set_option linter.unusedVariables false
structure Tel (w wx : World) (b : Nat) (p : Prd) (vr vl vh : Value) (g1 g2 g3 : Nat) : Prop where
  ext : Ext w wx
  old : Blk wx b (pcells p vr vl vh)
  new : Blk wx (b + 1) (pcells p (.slice (some ⟨g1, 0, none⟩) p.rs.length (p.rs.length + 3)) (.slice (some ⟨g2, 0, none⟩) p.lt.length (p.lt.length + 3)) (.slice (some ⟨g3, 0, none⟩) p.hd.length (p.hd.length + 3)))
  g1 : L8.Lsp wx g1 (p.rs ++ [(71, 0), (71, 0), (71, 0)])
  g2 : L8.Lsp wx g2 (p.lt ++ [(71, 0), (71, 0), (71, 0)])
  g3 : L8.Lst wx g3 (p.hd ++ [71, 71, 71])
theorem Tel.on {w wx wy : World} {b : Nat} {p : Prd} {vr vl vh : Value} {g1 g2 g3 : Nat} (h : Tel w wx b p vr vl vh g1 g2 g3) (hx : Ext wx wy) : Tel w wy b p vr vl vh g1 g2 g3 :=
  ⟨h.ext.trans hx, h.old.ext hx, h.new.ext hx, h.g1.ext hx, h.g2.ext hx, h.g3.ext hx⟩
end Go.Proofs.YtaafagggjnemgaaGreatDoor
