/-
  No cell of these rows narrows 'for every input' (looked for: loops, veiled, ifaces, maps, wideKeys, modest, calm, conditions, laid).
  DERIVED. THE GIVEN ROWS OF THIS SEAT. 4 by the template 'for every input the law returns true; each argument reads behind the call as it read before'; 0 by the template 'total and deterministic' (their statements: YtipnchejhjkomaaTotals.lean).
  GIVEN WITH THE SEED: the statements are not yours to turn. If you find one false, say at which input.
  Laid BY PROGRAM, IN A SANDBOX (cutbox-rows.mjs): the forced cells as the released guide's own fill.sh prints them over the translation e3908aa5f06aeb12… (all of the seat's roots in one cut). By AI agents, Wed Nov 11 2026. No macro, syntax, notation, axiom, sorry.
-/
import Derived.Test.YtipnchejhjkomaaChecked
import GoSem.Claim
import GoSem.ClaimJoined
import GoSem.ClaimMapViews
import Derived.JoinedTies
import Derived.KernelRfl
namespace Go.Proofs.Ytipnchejhjkomaa
/- THE CELL 'sum', in the pinned program and in every row, IS THE sha256 OF THE DUMP (.gsa) THAT YtipnchejhjkomaaProg.lean LOADS. Nothing in Lean hashes anything: it is a label: what it is worth is what the hold of that sum in a sandbox is worth. -/
noncomputable def Try.pinned : Pinned := { name := "ytipnchejhjkomaa", sum := "e3908aa5f06aeb128135cbe0d21fba32e2f65fd2b67c3ce9736ab12bf900e7ba", checked := Try.checked }
namespace Rows
def none {H : Type} : Left H := { results := [], args := [] }

/-- 'quittancelaw08.ProductTells': WHATEVER THE INPUT: true; the input reads as it did. -/
def productTellsSpec : ChangeSpec := { name := "productTells", fn := fun _ => fun
  | [d1, d2] => { results := [.lit (.bool true)], args := [d1, d2] }
  | _ => none }
def productTellsRow : OpenClaim := { program := "ytipnchejhjkomaa", sum := "e3908aa5f06aeb128135cbe0d21fba32e2f65fd2b67c3ce9736ab12bf900e7ba", func := "quittance/quittancelaw08.ProductTells", spec := "productTells", unfollowed := true, recurses := true, apart := false }
def ProductTellsSaid : Prop := productTellsRow.holds Try.pinned (OpenSpec.ofChange productTellsSpec)

/-- ITS FALSE NEIGHBOUR: 'it returns false'. Refute it at one input. -/
def productTellsWrong : ChangeSpec := { name := "productTells", fn := fun _ => fun
  | [d1, d2] => { results := [.lit (.bool false)], args := [d1, d2] }
  | _ => none }
def ProductTellsWrongFalsely : Prop := productTellsRow.holds Try.pinned (OpenSpec.ofChange productTellsWrong)

/-- 'quittancelaw08.ProductBounds': WHATEVER THE INPUT: true; the input reads as it did. -/
def productBoundsSpec : ChangeSpec := { name := "productBounds", fn := fun _ => fun
  | [d1, d2, d3] => { results := [.lit (.bool true)], args := [d1, d2, d3] }
  | _ => none }
def productBoundsRow : OpenClaim := { program := "ytipnchejhjkomaa", sum := "e3908aa5f06aeb128135cbe0d21fba32e2f65fd2b67c3ce9736ab12bf900e7ba", func := "quittance/quittancelaw08.ProductBounds", spec := "productBounds", unfollowed := true, recurses := true, apart := false }
def ProductBoundsSaid : Prop := productBoundsRow.holds Try.pinned (OpenSpec.ofChange productBoundsSpec)

/-- ITS FALSE NEIGHBOUR: 'it returns false'. Refute it at one input. -/
def productBoundsWrong : ChangeSpec := { name := "productBounds", fn := fun _ => fun
  | [d1, d2, d3] => { results := [.lit (.bool false)], args := [d1, d2, d3] }
  | _ => none }
def ProductBoundsWrongFalsely : Prop := productBoundsRow.holds Try.pinned (OpenSpec.ofChange productBoundsWrong)

/-- 'quittancelaw08.ProductOrders': WHATEVER THE INPUT: true; the input reads as it did. -/
def productOrdersSpec : ChangeSpec := { name := "productOrders", fn := fun _ => fun
  | [d1, d2, d3, d4, d5] => { results := [.lit (.bool true)], args := [d1, d2, d3, d4, d5] }
  | _ => none }
def productOrdersRow : OpenClaim := { program := "ytipnchejhjkomaa", sum := "e3908aa5f06aeb128135cbe0d21fba32e2f65fd2b67c3ce9736ab12bf900e7ba", func := "quittance/quittancelaw08.ProductOrders", spec := "productOrders", unfollowed := true, recurses := true, apart := false }
def ProductOrdersSaid : Prop := productOrdersRow.holds Try.pinned (OpenSpec.ofChange productOrdersSpec)

/-- ITS FALSE NEIGHBOUR: 'it returns false'. Refute it at one input. -/
def productOrdersWrong : ChangeSpec := { name := "productOrders", fn := fun _ => fun
  | [d1, d2, d3, d4, d5] => { results := [.lit (.bool false)], args := [d1, d2, d3, d4, d5] }
  | _ => none }
def ProductOrdersWrongFalsely : Prop := productOrdersRow.holds Try.pinned (OpenSpec.ofChange productOrdersWrong)

/-- 'quittancelaw08.ProductNames': WHATEVER THE INPUT: true; the input reads as it did. -/
def productNamesSpec : ChangeSpec := { name := "productNames", fn := fun _ => fun
  | [d1, d2] => { results := [.lit (.bool true)], args := [d1, d2] }
  | _ => none }
def productNamesRow : OpenClaim := { program := "ytipnchejhjkomaa", sum := "e3908aa5f06aeb128135cbe0d21fba32e2f65fd2b67c3ce9736ab12bf900e7ba", func := "quittance/quittancelaw08.ProductNames", spec := "productNames", unfollowed := true, recurses := true, apart := false }
def ProductNamesSaid : Prop := productNamesRow.holds Try.pinned (OpenSpec.ofChange productNamesSpec)

/-- ITS FALSE NEIGHBOUR: 'it returns false'. Refute it at one input. -/
def productNamesWrong : ChangeSpec := { name := "productNames", fn := fun _ => fun
  | [d1, d2] => { results := [.lit (.bool false)], args := [d1, d2] }
  | _ => none }
def ProductNamesWrongFalsely : Prop := productNamesRow.holds Try.pinned (OpenSpec.ofChange productNamesWrong)

/- THE SECOND FORM. 'bulk': how many values and letters a reading holds, each counted each time it is reached (what is shared counts as often as it is met; a slice's spare places count too). A statement '..UptoSaid' is the law's where the arguments, and the package variables that the reading takes, are together of bulk at most 1048576: NARROWER than '..Said'. Prove '..Said' where nothing that the law and all that it calls make is longer than what came in: it says more and counts as full. Else prove '..UptoSaid'. A law counts once. -/
mutual
def uptoBulk {H : Type} : DataW H → Nat
  | .lit (.string bytes) => bytes.length + 1
  | .lit _ => 1
  | .nil => 1
  | .ptr d => uptoBulk d + 1
  | .slice elems spare => uptoBulkAll elems + uptoBulkAll spare + 1
  | .agg parts => uptoBulkAll parts + 1
  | .iface _ d => uptoBulk d + 1
  | .map entries => uptoBulkEntries entries + 1
  | .held _ => 1
def uptoBulkAll {H : Type} : List (DataW H) → Nat
  | [] => 0
  | d :: r => uptoBulk d + uptoBulkAll r
def uptoBulkEntries {H : Type} : List (Lit × DataW H) → Nat
  | [] => 0
  | x :: r => uptoBulkEntry x + uptoBulkEntries r
def uptoBulkEntry {H : Type} : Lit × DataW H → Nat
  | (.string bytes, d) => bytes.length + uptoBulk d + 1
  | (_, d) => uptoBulk d + 1
 end
def uptoSmall : (H : Type) → List (DataW H) → Bool := fun _ ds => decide (uptoBulkAll ds ≤ 1048576)
def OpenSpec.upto (s : _root_.Go.ChangeSpec) : _root_.Go.OpenSpec := { _root_.Go.OpenSpec.ofChange s with cond := some uptoSmall }

/-- 'quittancelaw08.ProductTells', WHERE WHAT IT READS IS OF BULK AT MOST 1048576: true; the input reads as it did. -/
def productTellsUptoRow : OpenClaim := { program := "ytipnchejhjkomaa", sum := "e3908aa5f06aeb128135cbe0d21fba32e2f65fd2b67c3ce9736ab12bf900e7ba", func := "quittance/quittancelaw08.ProductTells", spec := "productTells", unfollowed := true, recurses := true, apart := false, narrowed := true }
def ProductTellsUptoSaid : Prop := productTellsUptoRow.holds Try.pinned (OpenSpec.upto productTellsSpec)

/-- 'quittancelaw08.ProductBounds', WHERE WHAT IT READS IS OF BULK AT MOST 1048576: true; the input reads as it did. -/
def productBoundsUptoRow : OpenClaim := { program := "ytipnchejhjkomaa", sum := "e3908aa5f06aeb128135cbe0d21fba32e2f65fd2b67c3ce9736ab12bf900e7ba", func := "quittance/quittancelaw08.ProductBounds", spec := "productBounds", unfollowed := true, recurses := true, apart := false, narrowed := true }
def ProductBoundsUptoSaid : Prop := productBoundsUptoRow.holds Try.pinned (OpenSpec.upto productBoundsSpec)

/-- 'quittancelaw08.ProductOrders', WHERE WHAT IT READS IS OF BULK AT MOST 1048576: true; the input reads as it did. -/
def productOrdersUptoRow : OpenClaim := { program := "ytipnchejhjkomaa", sum := "e3908aa5f06aeb128135cbe0d21fba32e2f65fd2b67c3ce9736ab12bf900e7ba", func := "quittance/quittancelaw08.ProductOrders", spec := "productOrders", unfollowed := true, recurses := true, apart := false, narrowed := true }
def ProductOrdersUptoSaid : Prop := productOrdersUptoRow.holds Try.pinned (OpenSpec.upto productOrdersSpec)

/-- 'quittancelaw08.ProductNames', WHERE WHAT IT READS IS OF BULK AT MOST 1048576: true; the input reads as it did. -/
def productNamesUptoRow : OpenClaim := { program := "ytipnchejhjkomaa", sum := "e3908aa5f06aeb128135cbe0d21fba32e2f65fd2b67c3ce9736ab12bf900e7ba", func := "quittance/quittancelaw08.ProductNames", spec := "productNames", unfollowed := true, recurses := true, apart := false, narrowed := true }
def ProductNamesUptoSaid : Prop := productNamesUptoRow.holds Try.pinned (OpenSpec.upto productNamesSpec)

end Rows
end Go.Proofs.Ytipnchejhjkomaa
