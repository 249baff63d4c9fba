/-
  NARROWER THAN 'FOR EVERY INPUT', by the rows' own cells (each row's printed sentence says how): BitsTypes: laid · BitsOperates: laid · BitsForms: laid · BitsRing: laid · BitsDivides: laid · BitsCommon: laid · BitsBack: laid · BitsOrders: laid · BitsShifts: laid · BitsConverts: laid.
  DERIVED. THE GIVEN ROWS OF THIS SEAT. 10 by the template 'for every input the law returns true; each argument reads behind the call as it read before'; 0 by the template 'total and deterministic' (their statements: YtfgmfkiknogdeaaDoorTotals.lean).
  GIVEN WITH THE SEED: the statements are not yours to turn. If you find one false, say at which input.
  Laid BY PROGRAM, IN A SANDBOX (cutbox-rows.mjs): the forced cells as the released guide's own fill.sh prints them over the translation ab8aaf3c1c6e79b2… (all of the seat's roots in one cut). By AI agents, Wed Nov 11 2026. No macro, syntax, notation, axiom, sorry.
-/
import Derived.Test.YtfgmfkiknogdeaaDoorChecked
import GoSem.Claim
import GoSem.ClaimJoined
import GoSem.ClaimMapViews
import Derived.JoinedTies
import Derived.KernelRfl
namespace Go.Proofs.YtfgmfkiknogdeaaDoor
/- THE CELL 'sum', in the pinned program and in every row, IS THE sha256 OF THE DUMP (.gsa) THAT YtfgmfkiknogdeaaDoorProg.lean LOADS. Nothing in Lean hashes anything: it is a label: what it is worth is what the hold of that sum in a sandbox is worth. -/
noncomputable def Tryd.pinned : Pinned := { name := "ytfgmfkiknogdeaadoor", sum := "ab8aaf3c1c6e79b26e9c85094feac0a93b8e4d79915cbba5a0388a4c440ca030", checked := Tryd.checked }
namespace Rows
def none {H : Type} : Left H := { results := [], args := [] }

/- WHAT THE LISTED PACKAGE-LEVEL VARIABLES READ AS WHEN THE CALL BEGINS. Each datum BY PROGRAM (the guide's laid-datum.mjs) off the statement by which the dump's own 'gosem.cut.vars' lays the variable. In a bare row this is a premise. The card (YtfgmfkiknogdeaaDoorCards.lean) ties it to the program's text. -/
def laid_tapline_taplineref01_promoted {H : Type} : DataW H := .agg [.agg [.lit (.int .i64 4), .lit (.bool true)], .agg [.lit (.int .i64 4), .lit (.bool false)], .agg [.lit (.int .i64 8), .lit (.bool true)], .agg [.lit (.int .i64 8), .lit (.bool false)]]
def laid_tapline_bits_plain {H : Type} : DataW H := .agg [.lit (.int .i64 4), .lit (.bool true)]

/-- 'taplinelaw01.BitsTypes': WHATEVER THE INPUT: true; the input reads as it did. -/
def bitsTypesSpec : ChangeSpec := { name := "bitsTypes", fn := fun _ => fun
  | [d1, d2, d3] => { results := [.lit (.bool true)], args := [d1, d2, d3] }
  | _ => none }
def bitsTypesRow : OpenClaim := { program := "ytfgmfkiknogdeaadoor", sum := "ab8aaf3c1c6e79b26e9c85094feac0a93b8e4d79915cbba5a0388a4c440ca030", func := "tapline/taplinelaw01.BitsTypes", spec := "bitsTypes", unfollowed := true, recurses := true, named := ["tapline/bits.plain", "tapline/taplineref01.promoted"], apart := false, laid := [("tapline/taplineref01.promoted", laid_tapline_taplineref01_promoted), ("tapline/bits.plain", laid_tapline_bits_plain)] }
def BitsTypesSaid : Prop := bitsTypesRow.holds Tryd.pinned (OpenSpec.ofChange bitsTypesSpec)

/-- ITS FALSE NEIGHBOUR: 'it returns false'. Refute it at one input. -/
def bitsTypesWrong : ChangeSpec := { name := "bitsTypes", fn := fun _ => fun
  | [d1, d2, d3] => { results := [.lit (.bool false)], args := [d1, d2, d3] }
  | _ => none }
def BitsTypesWrongFalsely : Prop := bitsTypesRow.holds Tryd.pinned (OpenSpec.ofChange bitsTypesWrong)

/-- 'taplinelaw01.BitsOperates': WHATEVER THE INPUT: true; the input reads as it did. -/
def bitsOperatesSpec : ChangeSpec := { name := "bitsOperates", fn := fun _ => fun
  | [d1, d2, d3] => { results := [.lit (.bool true)], args := [d1, d2, d3] }
  | _ => none }
def bitsOperatesRow : OpenClaim := { program := "ytfgmfkiknogdeaadoor", sum := "ab8aaf3c1c6e79b26e9c85094feac0a93b8e4d79915cbba5a0388a4c440ca030", func := "tapline/taplinelaw01.BitsOperates", spec := "bitsOperates", unfollowed := true, recurses := true, named := ["tapline/bits.plain", "tapline/taplineref01.promoted"], apart := false, laid := [("tapline/taplineref01.promoted", laid_tapline_taplineref01_promoted), ("tapline/bits.plain", laid_tapline_bits_plain)] }
def BitsOperatesSaid : Prop := bitsOperatesRow.holds Tryd.pinned (OpenSpec.ofChange bitsOperatesSpec)

/-- ITS FALSE NEIGHBOUR: 'it returns false'. Refute it at one input. -/
def bitsOperatesWrong : ChangeSpec := { name := "bitsOperates", fn := fun _ => fun
  | [d1, d2, d3] => { results := [.lit (.bool false)], args := [d1, d2, d3] }
  | _ => none }
def BitsOperatesWrongFalsely : Prop := bitsOperatesRow.holds Tryd.pinned (OpenSpec.ofChange bitsOperatesWrong)

/-- 'taplinelaw01.BitsForms': WHATEVER THE INPUT: true; the input reads as it did. -/
def bitsFormsSpec : ChangeSpec := { name := "bitsForms", fn := fun _ => fun
  | [d1, d2, d3] => { results := [.lit (.bool true)], args := [d1, d2, d3] }
  | _ => none }
def bitsFormsRow : OpenClaim := { program := "ytfgmfkiknogdeaadoor", sum := "ab8aaf3c1c6e79b26e9c85094feac0a93b8e4d79915cbba5a0388a4c440ca030", func := "tapline/taplinelaw01.BitsForms", spec := "bitsForms", unfollowed := true, recurses := true, named := ["tapline/bits.plain"], apart := false, laid := [("tapline/bits.plain", laid_tapline_bits_plain)] }
def BitsFormsSaid : Prop := bitsFormsRow.holds Tryd.pinned (OpenSpec.ofChange bitsFormsSpec)

/-- ITS FALSE NEIGHBOUR: 'it returns false'. Refute it at one input. -/
def bitsFormsWrong : ChangeSpec := { name := "bitsForms", fn := fun _ => fun
  | [d1, d2, d3] => { results := [.lit (.bool false)], args := [d1, d2, d3] }
  | _ => none }
def BitsFormsWrongFalsely : Prop := bitsFormsRow.holds Tryd.pinned (OpenSpec.ofChange bitsFormsWrong)

/-- 'taplinelaw01.BitsRing': WHATEVER THE INPUT: true; the input reads as it did. -/
def bitsRingSpec : ChangeSpec := { name := "bitsRing", fn := fun _ => fun
  | [d1, d2, d3] => { results := [.lit (.bool true)], args := [d1, d2, d3] }
  | _ => none }
def bitsRingRow : OpenClaim := { program := "ytfgmfkiknogdeaadoor", sum := "ab8aaf3c1c6e79b26e9c85094feac0a93b8e4d79915cbba5a0388a4c440ca030", func := "tapline/taplinelaw01.BitsRing", spec := "bitsRing", unfollowed := true, recurses := true, named := ["tapline/bits.plain"], apart := false, laid := [("tapline/bits.plain", laid_tapline_bits_plain)] }
def BitsRingSaid : Prop := bitsRingRow.holds Tryd.pinned (OpenSpec.ofChange bitsRingSpec)

/-- ITS FALSE NEIGHBOUR: 'it returns false'. Refute it at one input. -/
def bitsRingWrong : ChangeSpec := { name := "bitsRing", fn := fun _ => fun
  | [d1, d2, d3] => { results := [.lit (.bool false)], args := [d1, d2, d3] }
  | _ => none }
def BitsRingWrongFalsely : Prop := bitsRingRow.holds Tryd.pinned (OpenSpec.ofChange bitsRingWrong)

/-- 'taplinelaw01.BitsDivides': WHATEVER THE INPUT: true; the input reads as it did. -/
def bitsDividesSpec : ChangeSpec := { name := "bitsDivides", fn := fun _ => fun
  | [d1, d2, d3] => { results := [.lit (.bool true)], args := [d1, d2, d3] }
  | _ => none }
def bitsDividesRow : OpenClaim := { program := "ytfgmfkiknogdeaadoor", sum := "ab8aaf3c1c6e79b26e9c85094feac0a93b8e4d79915cbba5a0388a4c440ca030", func := "tapline/taplinelaw01.BitsDivides", spec := "bitsDivides", unfollowed := true, recurses := true, named := ["tapline/bits.plain"], apart := false, laid := [("tapline/bits.plain", laid_tapline_bits_plain)] }
def BitsDividesSaid : Prop := bitsDividesRow.holds Tryd.pinned (OpenSpec.ofChange bitsDividesSpec)

/-- ITS FALSE NEIGHBOUR: 'it returns false'. Refute it at one input. -/
def bitsDividesWrong : ChangeSpec := { name := "bitsDivides", fn := fun _ => fun
  | [d1, d2, d3] => { results := [.lit (.bool false)], args := [d1, d2, d3] }
  | _ => none }
def BitsDividesWrongFalsely : Prop := bitsDividesRow.holds Tryd.pinned (OpenSpec.ofChange bitsDividesWrong)

/-- 'taplinelaw01.BitsCommon': WHATEVER THE INPUT: true; the input reads as it did. -/
def bitsCommonSpec : ChangeSpec := { name := "bitsCommon", fn := fun _ => fun
  | [d1, d2, d3] => { results := [.lit (.bool true)], args := [d1, d2, d3] }
  | _ => none }
def bitsCommonRow : OpenClaim := { program := "ytfgmfkiknogdeaadoor", sum := "ab8aaf3c1c6e79b26e9c85094feac0a93b8e4d79915cbba5a0388a4c440ca030", func := "tapline/taplinelaw01.BitsCommon", spec := "bitsCommon", unfollowed := true, recurses := true, named := ["tapline/bits.plain"], apart := false, laid := [("tapline/bits.plain", laid_tapline_bits_plain)] }
def BitsCommonSaid : Prop := bitsCommonRow.holds Tryd.pinned (OpenSpec.ofChange bitsCommonSpec)

/-- ITS FALSE NEIGHBOUR: 'it returns false'. Refute it at one input. -/
def bitsCommonWrong : ChangeSpec := { name := "bitsCommon", fn := fun _ => fun
  | [d1, d2, d3] => { results := [.lit (.bool false)], args := [d1, d2, d3] }
  | _ => none }
def BitsCommonWrongFalsely : Prop := bitsCommonRow.holds Tryd.pinned (OpenSpec.ofChange bitsCommonWrong)

/-- 'taplinelaw01.BitsBack': WHATEVER THE INPUT: true; the input reads as it did. -/
def bitsBackSpec : ChangeSpec := { name := "bitsBack", fn := fun _ => fun
  | [d1, d2, d3] => { results := [.lit (.bool true)], args := [d1, d2, d3] }
  | _ => none }
def bitsBackRow : OpenClaim := { program := "ytfgmfkiknogdeaadoor", sum := "ab8aaf3c1c6e79b26e9c85094feac0a93b8e4d79915cbba5a0388a4c440ca030", func := "tapline/taplinelaw01.BitsBack", spec := "bitsBack", unfollowed := true, recurses := true, named := ["tapline/bits.plain"], apart := false, laid := [("tapline/bits.plain", laid_tapline_bits_plain)] }
def BitsBackSaid : Prop := bitsBackRow.holds Tryd.pinned (OpenSpec.ofChange bitsBackSpec)

/-- ITS FALSE NEIGHBOUR: 'it returns false'. Refute it at one input. -/
def bitsBackWrong : ChangeSpec := { name := "bitsBack", fn := fun _ => fun
  | [d1, d2, d3] => { results := [.lit (.bool false)], args := [d1, d2, d3] }
  | _ => none }
def BitsBackWrongFalsely : Prop := bitsBackRow.holds Tryd.pinned (OpenSpec.ofChange bitsBackWrong)

/-- 'taplinelaw01.BitsOrders': WHATEVER THE INPUT: true; the input reads as it did. -/
def bitsOrdersSpec : ChangeSpec := { name := "bitsOrders", fn := fun _ => fun
  | [d1, d2] => { results := [.lit (.bool true)], args := [d1, d2] }
  | _ => none }
def bitsOrdersRow : OpenClaim := { program := "ytfgmfkiknogdeaadoor", sum := "ab8aaf3c1c6e79b26e9c85094feac0a93b8e4d79915cbba5a0388a4c440ca030", func := "tapline/taplinelaw01.BitsOrders", spec := "bitsOrders", unfollowed := true, recurses := true, named := ["tapline/bits.plain", "tapline/taplineref01.promoted"], apart := false, laid := [("tapline/taplineref01.promoted", laid_tapline_taplineref01_promoted), ("tapline/bits.plain", laid_tapline_bits_plain)] }
def BitsOrdersSaid : Prop := bitsOrdersRow.holds Tryd.pinned (OpenSpec.ofChange bitsOrdersSpec)

/-- ITS FALSE NEIGHBOUR: 'it returns false'. Refute it at one input. -/
def bitsOrdersWrong : ChangeSpec := { name := "bitsOrders", fn := fun _ => fun
  | [d1, d2] => { results := [.lit (.bool false)], args := [d1, d2] }
  | _ => none }
def BitsOrdersWrongFalsely : Prop := bitsOrdersRow.holds Tryd.pinned (OpenSpec.ofChange bitsOrdersWrong)

/-- 'taplinelaw01.BitsShifts': WHATEVER THE INPUT: true; the input reads as it did. -/
def bitsShiftsSpec : ChangeSpec := { name := "bitsShifts", fn := fun _ => fun
  | [d1, d2, d3] => { results := [.lit (.bool true)], args := [d1, d2, d3] }
  | _ => none }
def bitsShiftsRow : OpenClaim := { program := "ytfgmfkiknogdeaadoor", sum := "ab8aaf3c1c6e79b26e9c85094feac0a93b8e4d79915cbba5a0388a4c440ca030", func := "tapline/taplinelaw01.BitsShifts", spec := "bitsShifts", unfollowed := true, recurses := true, named := ["tapline/bits.plain", "tapline/taplineref01.promoted"], apart := false, laid := [("tapline/taplineref01.promoted", laid_tapline_taplineref01_promoted), ("tapline/bits.plain", laid_tapline_bits_plain)] }
def BitsShiftsSaid : Prop := bitsShiftsRow.holds Tryd.pinned (OpenSpec.ofChange bitsShiftsSpec)

/-- ITS FALSE NEIGHBOUR: 'it returns false'. Refute it at one input. -/
def bitsShiftsWrong : ChangeSpec := { name := "bitsShifts", fn := fun _ => fun
  | [d1, d2, d3] => { results := [.lit (.bool false)], args := [d1, d2, d3] }
  | _ => none }
def BitsShiftsWrongFalsely : Prop := bitsShiftsRow.holds Tryd.pinned (OpenSpec.ofChange bitsShiftsWrong)

/-- 'taplinelaw01.BitsConverts': WHATEVER THE INPUT: true; the input reads as it did. -/
def bitsConvertsSpec : ChangeSpec := { name := "bitsConverts", fn := fun _ => fun
  | [d1, d2, d3] => { results := [.lit (.bool true)], args := [d1, d2, d3] }
  | _ => none }
def bitsConvertsRow : OpenClaim := { program := "ytfgmfkiknogdeaadoor", sum := "ab8aaf3c1c6e79b26e9c85094feac0a93b8e4d79915cbba5a0388a4c440ca030", func := "tapline/taplinelaw01.BitsConverts", spec := "bitsConverts", unfollowed := true, recurses := true, named := ["tapline/bits.plain"], apart := false, laid := [("tapline/bits.plain", laid_tapline_bits_plain)] }
def BitsConvertsSaid : Prop := bitsConvertsRow.holds Tryd.pinned (OpenSpec.ofChange bitsConvertsSpec)

/-- ITS FALSE NEIGHBOUR: 'it returns false'. Refute it at one input. -/
def bitsConvertsWrong : ChangeSpec := { name := "bitsConverts", fn := fun _ => fun
  | [d1, d2, d3] => { results := [.lit (.bool false)], args := [d1, d2, d3] }
  | _ => none }
def BitsConvertsWrongFalsely : Prop := bitsConvertsRow.holds Tryd.pinned (OpenSpec.ofChange bitsConvertsWrong)

/- THE SECOND FORM. 'bulk': how many values and letters a reading holds, each counted each time it is reached (what is shared counts as often as it is met; a slice's spare places count too). A statement '..UptoSaid' is the law's where the arguments, and the package variables that the reading takes, are together of bulk at most 1048576: NARROWER than '..Said'. Prove '..Said' where nothing that the law and all that it calls make is longer than what came in: it says more and counts as full. Else prove '..UptoSaid'. A law counts once. -/
mutual
def uptoBulk {H : Type} : DataW H → Nat
  | .lit (.string bytes) => bytes.length + 1
  | .lit _ => 1
  | .nil => 1
  | .ptr d => uptoBulk d + 1
  | .slice elems spare => uptoBulkAll elems + uptoBulkAll spare + 1
  | .agg parts => uptoBulkAll parts + 1
  | .iface _ d => uptoBulk d + 1
  | .map entries => uptoBulkEntries entries + 1
  | .held _ => 1
def uptoBulkAll {H : Type} : List (DataW H) → Nat
  | [] => 0
  | d :: r => uptoBulk d + uptoBulkAll r
def uptoBulkEntries {H : Type} : List (Lit × DataW H) → Nat
  | [] => 0
  | x :: r => uptoBulkEntry x + uptoBulkEntries r
def uptoBulkEntry {H : Type} : Lit × DataW H → Nat
  | (.string bytes, d) => bytes.length + uptoBulk d + 1
  | (_, d) => uptoBulk d + 1
 end
def uptoSmall : (H : Type) → List (DataW H) → Bool := fun _ ds => decide (uptoBulkAll ds ≤ 1048576)
def OpenSpec.upto (s : _root_.Go.ChangeSpec) : _root_.Go.OpenSpec := { _root_.Go.OpenSpec.ofChange s with cond := some uptoSmall }

/-- 'taplinelaw01.BitsTypes', WHERE WHAT IT READS IS OF BULK AT MOST 1048576: true; the input reads as it did. -/
def bitsTypesUptoRow : OpenClaim := { program := "ytfgmfkiknogdeaadoor", sum := "ab8aaf3c1c6e79b26e9c85094feac0a93b8e4d79915cbba5a0388a4c440ca030", func := "tapline/taplinelaw01.BitsTypes", spec := "bitsTypes", unfollowed := true, recurses := true, named := ["tapline/bits.plain", "tapline/taplineref01.promoted"], apart := false, laid := [("tapline/taplineref01.promoted", laid_tapline_taplineref01_promoted), ("tapline/bits.plain", laid_tapline_bits_plain)], narrowed := true }
def BitsTypesUptoSaid : Prop := bitsTypesUptoRow.holds Tryd.pinned (OpenSpec.upto bitsTypesSpec)

/-- 'taplinelaw01.BitsOperates', WHERE WHAT IT READS IS OF BULK AT MOST 1048576: true; the input reads as it did. -/
def bitsOperatesUptoRow : OpenClaim := { program := "ytfgmfkiknogdeaadoor", sum := "ab8aaf3c1c6e79b26e9c85094feac0a93b8e4d79915cbba5a0388a4c440ca030", func := "tapline/taplinelaw01.BitsOperates", spec := "bitsOperates", unfollowed := true, recurses := true, named := ["tapline/bits.plain", "tapline/taplineref01.promoted"], apart := false, laid := [("tapline/taplineref01.promoted", laid_tapline_taplineref01_promoted), ("tapline/bits.plain", laid_tapline_bits_plain)], narrowed := true }
def BitsOperatesUptoSaid : Prop := bitsOperatesUptoRow.holds Tryd.pinned (OpenSpec.upto bitsOperatesSpec)

/-- 'taplinelaw01.BitsForms', WHERE WHAT IT READS IS OF BULK AT MOST 1048576: true; the input reads as it did. -/
def bitsFormsUptoRow : OpenClaim := { program := "ytfgmfkiknogdeaadoor", sum := "ab8aaf3c1c6e79b26e9c85094feac0a93b8e4d79915cbba5a0388a4c440ca030", func := "tapline/taplinelaw01.BitsForms", spec := "bitsForms", unfollowed := true, recurses := true, named := ["tapline/bits.plain"], apart := false, laid := [("tapline/bits.plain", laid_tapline_bits_plain)], narrowed := true }
def BitsFormsUptoSaid : Prop := bitsFormsUptoRow.holds Tryd.pinned (OpenSpec.upto bitsFormsSpec)

/-- 'taplinelaw01.BitsRing', WHERE WHAT IT READS IS OF BULK AT MOST 1048576: true; the input reads as it did. -/
def bitsRingUptoRow : OpenClaim := { program := "ytfgmfkiknogdeaadoor", sum := "ab8aaf3c1c6e79b26e9c85094feac0a93b8e4d79915cbba5a0388a4c440ca030", func := "tapline/taplinelaw01.BitsRing", spec := "bitsRing", unfollowed := true, recurses := true, named := ["tapline/bits.plain"], apart := false, laid := [("tapline/bits.plain", laid_tapline_bits_plain)], narrowed := true }
def BitsRingUptoSaid : Prop := bitsRingUptoRow.holds Tryd.pinned (OpenSpec.upto bitsRingSpec)

/-- 'taplinelaw01.BitsDivides', WHERE WHAT IT READS IS OF BULK AT MOST 1048576: true; the input reads as it did. -/
def bitsDividesUptoRow : OpenClaim := { program := "ytfgmfkiknogdeaadoor", sum := "ab8aaf3c1c6e79b26e9c85094feac0a93b8e4d79915cbba5a0388a4c440ca030", func := "tapline/taplinelaw01.BitsDivides", spec := "bitsDivides", unfollowed := true, recurses := true, named := ["tapline/bits.plain"], apart := false, laid := [("tapline/bits.plain", laid_tapline_bits_plain)], narrowed := true }
def BitsDividesUptoSaid : Prop := bitsDividesUptoRow.holds Tryd.pinned (OpenSpec.upto bitsDividesSpec)

/-- 'taplinelaw01.BitsCommon', WHERE WHAT IT READS IS OF BULK AT MOST 1048576: true; the input reads as it did. -/
def bitsCommonUptoRow : OpenClaim := { program := "ytfgmfkiknogdeaadoor", sum := "ab8aaf3c1c6e79b26e9c85094feac0a93b8e4d79915cbba5a0388a4c440ca030", func := "tapline/taplinelaw01.BitsCommon", spec := "bitsCommon", unfollowed := true, recurses := true, named := ["tapline/bits.plain"], apart := false, laid := [("tapline/bits.plain", laid_tapline_bits_plain)], narrowed := true }
def BitsCommonUptoSaid : Prop := bitsCommonUptoRow.holds Tryd.pinned (OpenSpec.upto bitsCommonSpec)

/-- 'taplinelaw01.BitsBack', WHERE WHAT IT READS IS OF BULK AT MOST 1048576: true; the input reads as it did. -/
def bitsBackUptoRow : OpenClaim := { program := "ytfgmfkiknogdeaadoor", sum := "ab8aaf3c1c6e79b26e9c85094feac0a93b8e4d79915cbba5a0388a4c440ca030", func := "tapline/taplinelaw01.BitsBack", spec := "bitsBack", unfollowed := true, recurses := true, named := ["tapline/bits.plain"], apart := false, laid := [("tapline/bits.plain", laid_tapline_bits_plain)], narrowed := true }
def BitsBackUptoSaid : Prop := bitsBackUptoRow.holds Tryd.pinned (OpenSpec.upto bitsBackSpec)

/-- 'taplinelaw01.BitsOrders', WHERE WHAT IT READS IS OF BULK AT MOST 1048576: true; the input reads as it did. -/
def bitsOrdersUptoRow : OpenClaim := { program := "ytfgmfkiknogdeaadoor", sum := "ab8aaf3c1c6e79b26e9c85094feac0a93b8e4d79915cbba5a0388a4c440ca030", func := "tapline/taplinelaw01.BitsOrders", spec := "bitsOrders", unfollowed := true, recurses := true, named := ["tapline/bits.plain", "tapline/taplineref01.promoted"], apart := false, laid := [("tapline/taplineref01.promoted", laid_tapline_taplineref01_promoted), ("tapline/bits.plain", laid_tapline_bits_plain)], narrowed := true }
def BitsOrdersUptoSaid : Prop := bitsOrdersUptoRow.holds Tryd.pinned (OpenSpec.upto bitsOrdersSpec)

/-- 'taplinelaw01.BitsShifts', WHERE WHAT IT READS IS OF BULK AT MOST 1048576: true; the input reads as it did. -/
def bitsShiftsUptoRow : OpenClaim := { program := "ytfgmfkiknogdeaadoor", sum := "ab8aaf3c1c6e79b26e9c85094feac0a93b8e4d79915cbba5a0388a4c440ca030", func := "tapline/taplinelaw01.BitsShifts", spec := "bitsShifts", unfollowed := true, recurses := true, named := ["tapline/bits.plain", "tapline/taplineref01.promoted"], apart := false, laid := [("tapline/taplineref01.promoted", laid_tapline_taplineref01_promoted), ("tapline/bits.plain", laid_tapline_bits_plain)], narrowed := true }
def BitsShiftsUptoSaid : Prop := bitsShiftsUptoRow.holds Tryd.pinned (OpenSpec.upto bitsShiftsSpec)

/-- 'taplinelaw01.BitsConverts', WHERE WHAT IT READS IS OF BULK AT MOST 1048576: true; the input reads as it did. -/
def bitsConvertsUptoRow : OpenClaim := { program := "ytfgmfkiknogdeaadoor", sum := "ab8aaf3c1c6e79b26e9c85094feac0a93b8e4d79915cbba5a0388a4c440ca030", func := "tapline/taplinelaw01.BitsConverts", spec := "bitsConverts", unfollowed := true, recurses := true, named := ["tapline/bits.plain"], apart := false, laid := [("tapline/bits.plain", laid_tapline_bits_plain)], narrowed := true }
def BitsConvertsUptoSaid : Prop := bitsConvertsUptoRow.holds Tryd.pinned (OpenSpec.upto bitsConvertsSpec)

end Rows
end Go.Proofs.YtfgmfkiknogdeaaDoor
