/-
  No cell of these rows narrows 'for every input' (looked for: loops, veiled, ifaces, maps, wideKeys, modest, calm, conditions, laid).
  DERIVED. THE GIVEN ROWS OF THIS SEAT. 8 by the template 'for every input the law returns true; each argument reads behind the call as it read before'; 0 by the template 'total and deterministic' (their statements: YtggikbcgijmhbaaTotals.lean).
  GIVEN WITH THE SEED: the statements are not yours to turn. If you find one false, say at which input.
  Laid BY PROGRAM, IN A SANDBOX (cutbox-rows.mjs): the forced cells as the released guide's own fill.sh prints them over the translation 1e5508a1e12e9ef9… (all of the seat's roots in one cut). By AI agents, Wed Nov 11 2026. No macro, syntax, notation, axiom, sorry.
-/
import Derived.Test.YtggikbcgijmhbaaChecked
import GoSem.Claim
import GoSem.ClaimJoined
import GoSem.ClaimMapViews
import Derived.JoinedTies
import Derived.KernelRfl
namespace Go.Proofs.Ytggikbcgijmhbaa
/- THE CELL 'sum', in the pinned program and in every row, IS THE sha256 OF THE DUMP (.gsa) THAT YtggikbcgijmhbaaProg.lean LOADS. Nothing in Lean hashes anything: it is a label: what it is worth is what the hold of that sum in a sandbox is worth. -/
noncomputable def Try.pinned : Pinned := { name := "ytggikbcgijmhbaa", sum := "1e5508a1e12e9ef9adbd769a76b46379423a025858e3a5829c0561cb3fd4c3fa", checked := Try.checked }
namespace Rows
def none {H : Type} : Left H := { results := [], args := [] }

/-- 'taplinelaw05.SchedStates': WHATEVER THE INPUT: true; the input reads as it did. -/
def schedStatesSpec : ChangeSpec := { name := "schedStates", fn := fun _ => fun
  | [d1, d2, d3] => { results := [.lit (.bool true)], args := [d1, d2, d3] }
  | _ => none }
def schedStatesRow : OpenClaim := { program := "ytggikbcgijmhbaa", sum := "1e5508a1e12e9ef9adbd769a76b46379423a025858e3a5829c0561cb3fd4c3fa", func := "tapline/taplinelaw05.SchedStates", spec := "schedStates", unfollowed := true, recurses := true, apart := false }
def SchedStatesSaid : Prop := schedStatesRow.holds Try.pinned (OpenSpec.ofChange schedStatesSpec)

/-- ITS FALSE NEIGHBOUR: 'it returns false'. Refute it at one input. -/
def schedStatesWrong : ChangeSpec := { name := "schedStates", fn := fun _ => fun
  | [d1, d2, d3] => { results := [.lit (.bool false)], args := [d1, d2, d3] }
  | _ => none }
def SchedStatesWrongFalsely : Prop := schedStatesRow.holds Try.pinned (OpenSpec.ofChange schedStatesWrong)

/-- 'taplinelaw05.SchedPlaces': WHATEVER THE INPUT: true; the input reads as it did. -/
def schedPlacesSpec : ChangeSpec := { name := "schedPlaces", fn := fun _ => fun
  | [d1, d2] => { results := [.lit (.bool true)], args := [d1, d2] }
  | _ => none }
def schedPlacesRow : OpenClaim := { program := "ytggikbcgijmhbaa", sum := "1e5508a1e12e9ef9adbd769a76b46379423a025858e3a5829c0561cb3fd4c3fa", func := "tapline/taplinelaw05.SchedPlaces", spec := "schedPlaces", unfollowed := true, recurses := true, apart := false }
def SchedPlacesSaid : Prop := schedPlacesRow.holds Try.pinned (OpenSpec.ofChange schedPlacesSpec)

/-- ITS FALSE NEIGHBOUR: 'it returns false'. Refute it at one input. -/
def schedPlacesWrong : ChangeSpec := { name := "schedPlaces", fn := fun _ => fun
  | [d1, d2] => { results := [.lit (.bool false)], args := [d1, d2] }
  | _ => none }
def SchedPlacesWrongFalsely : Prop := schedPlacesRow.holds Try.pinned (OpenSpec.ofChange schedPlacesWrong)

/-- 'taplinelaw05.SchedHighest': WHATEVER THE INPUT: true; the input reads as it did. -/
def schedHighestSpec : ChangeSpec := { name := "schedHighest", fn := fun _ => fun
  | [d1, d2] => { results := [.lit (.bool true)], args := [d1, d2] }
  | _ => none }
def schedHighestRow : OpenClaim := { program := "ytggikbcgijmhbaa", sum := "1e5508a1e12e9ef9adbd769a76b46379423a025858e3a5829c0561cb3fd4c3fa", func := "tapline/taplinelaw05.SchedHighest", spec := "schedHighest", unfollowed := true, recurses := true, apart := false }
def SchedHighestSaid : Prop := schedHighestRow.holds Try.pinned (OpenSpec.ofChange schedHighestSpec)

/-- ITS FALSE NEIGHBOUR: 'it returns false'. Refute it at one input. -/
def schedHighestWrong : ChangeSpec := { name := "schedHighest", fn := fun _ => fun
  | [d1, d2] => { results := [.lit (.bool false)], args := [d1, d2] }
  | _ => none }
def SchedHighestWrongFalsely : Prop := schedHighestRow.holds Try.pinned (OpenSpec.ofChange schedHighestWrong)

/-- 'taplinelaw05.SchedWaits': WHATEVER THE INPUT: true; the input reads as it did. -/
def schedWaitsSpec : ChangeSpec := { name := "schedWaits", fn := fun _ => fun
  | [d1, d2, d3] => { results := [.lit (.bool true)], args := [d1, d2, d3] }
  | _ => none }
def schedWaitsRow : OpenClaim := { program := "ytggikbcgijmhbaa", sum := "1e5508a1e12e9ef9adbd769a76b46379423a025858e3a5829c0561cb3fd4c3fa", func := "tapline/taplinelaw05.SchedWaits", spec := "schedWaits", unfollowed := true, recurses := true, apart := false }
def SchedWaitsSaid : Prop := schedWaitsRow.holds Try.pinned (OpenSpec.ofChange schedWaitsSpec)

/-- ITS FALSE NEIGHBOUR: 'it returns false'. Refute it at one input. -/
def schedWaitsWrong : ChangeSpec := { name := "schedWaits", fn := fun _ => fun
  | [d1, d2, d3] => { results := [.lit (.bool false)], args := [d1, d2, d3] }
  | _ => none }
def SchedWaitsWrongFalsely : Prop := schedWaitsRow.holds Try.pinned (OpenSpec.ofChange schedWaitsWrong)

/-- 'taplinelaw05.SchedPreempts': WHATEVER THE INPUT: true; the input reads as it did. -/
def schedPreemptsSpec : ChangeSpec := { name := "schedPreempts", fn := fun _ => fun
  | [d1, d2] => { results := [.lit (.bool true)], args := [d1, d2] }
  | _ => none }
def schedPreemptsRow : OpenClaim := { program := "ytggikbcgijmhbaa", sum := "1e5508a1e12e9ef9adbd769a76b46379423a025858e3a5829c0561cb3fd4c3fa", func := "tapline/taplinelaw05.SchedPreempts", spec := "schedPreempts", unfollowed := true, recurses := true, apart := false }
def SchedPreemptsSaid : Prop := schedPreemptsRow.holds Try.pinned (OpenSpec.ofChange schedPreemptsSpec)

/-- ITS FALSE NEIGHBOUR: 'it returns false'. Refute it at one input. -/
def schedPreemptsWrong : ChangeSpec := { name := "schedPreempts", fn := fun _ => fun
  | [d1, d2] => { results := [.lit (.bool false)], args := [d1, d2] }
  | _ => none }
def SchedPreemptsWrongFalsely : Prop := schedPreemptsRow.holds Try.pinned (OpenSpec.ofChange schedPreemptsWrong)

/-- 'taplinelaw05.SchedApart': WHATEVER THE INPUT: true; the input reads as it did. -/
def schedApartSpec : ChangeSpec := { name := "schedApart", fn := fun _ => fun
  | [d1, d2, d3] => { results := [.lit (.bool true)], args := [d1, d2, d3] }
  | _ => none }
def schedApartRow : OpenClaim := { program := "ytggikbcgijmhbaa", sum := "1e5508a1e12e9ef9adbd769a76b46379423a025858e3a5829c0561cb3fd4c3fa", func := "tapline/taplinelaw05.SchedApart", spec := "schedApart", unfollowed := true, recurses := true, apart := false }
def SchedApartSaid : Prop := schedApartRow.holds Try.pinned (OpenSpec.ofChange schedApartSpec)

/-- ITS FALSE NEIGHBOUR: 'it returns false'. Refute it at one input. -/
def schedApartWrong : ChangeSpec := { name := "schedApart", fn := fun _ => fun
  | [d1, d2, d3] => { results := [.lit (.bool false)], args := [d1, d2, d3] }
  | _ => none }
def SchedApartWrongFalsely : Prop := schedApartRow.holds Try.pinned (OpenSpec.ofChange schedApartWrong)

/-- 'taplinelaw05.SchedWorks': WHATEVER THE INPUT: true; the input reads as it did. -/
def schedWorksSpec : ChangeSpec := { name := "schedWorks", fn := fun _ => fun
  | [d] => { results := [.lit (.bool true)], args := [d] }
  | _ => none }
def schedWorksRow : OpenClaim := { program := "ytggikbcgijmhbaa", sum := "1e5508a1e12e9ef9adbd769a76b46379423a025858e3a5829c0561cb3fd4c3fa", func := "tapline/taplinelaw05.SchedWorks", spec := "schedWorks", unfollowed := true, recurses := true, apart := false }
def SchedWorksSaid : Prop := schedWorksRow.holds Try.pinned (OpenSpec.ofChange schedWorksSpec)

/-- ITS FALSE NEIGHBOUR: 'it returns false'. Refute it at one input. -/
def schedWorksWrong : ChangeSpec := { name := "schedWorks", fn := fun _ => fun
  | [d] => { results := [.lit (.bool false)], args := [d] }
  | _ => none }
def SchedWorksWrongFalsely : Prop := schedWorksRow.holds Try.pinned (OpenSpec.ofChange schedWorksWrong)

/-- 'taplinelaw05.SchedQueues': WHATEVER THE INPUT: true; the input reads as it did. -/
def schedQueuesSpec : ChangeSpec := { name := "schedQueues", fn := fun _ => fun
  | [d1, d2] => { results := [.lit (.bool true)], args := [d1, d2] }
  | _ => none }
def schedQueuesRow : OpenClaim := { program := "ytggikbcgijmhbaa", sum := "1e5508a1e12e9ef9adbd769a76b46379423a025858e3a5829c0561cb3fd4c3fa", func := "tapline/taplinelaw05.SchedQueues", spec := "schedQueues", unfollowed := true, recurses := true, apart := false }
def SchedQueuesSaid : Prop := schedQueuesRow.holds Try.pinned (OpenSpec.ofChange schedQueuesSpec)

/-- ITS FALSE NEIGHBOUR: 'it returns false'. Refute it at one input. -/
def schedQueuesWrong : ChangeSpec := { name := "schedQueues", fn := fun _ => fun
  | [d1, d2] => { results := [.lit (.bool false)], args := [d1, d2] }
  | _ => none }
def SchedQueuesWrongFalsely : Prop := schedQueuesRow.holds Try.pinned (OpenSpec.ofChange schedQueuesWrong)

/- THE SECOND FORM. 'bulk': how many values and letters a reading holds, each counted each time it is reached (what is shared counts as often as it is met; a slice's spare places count too). A statement '..UptoSaid' is the law's where the arguments, and the package variables that the reading takes, are together of bulk at most 1048576: NARROWER than '..Said'. Prove '..Said' where nothing that the law and all that it calls make is longer than what came in: it says more and counts as full. Else prove '..UptoSaid'. A law counts once. -/
mutual
def uptoBulk {H : Type} : DataW H → Nat
  | .lit (.string bytes) => bytes.length + 1
  | .lit _ => 1
  | .nil => 1
  | .ptr d => uptoBulk d + 1
  | .slice elems spare => uptoBulkAll elems + uptoBulkAll spare + 1
  | .agg parts => uptoBulkAll parts + 1
  | .iface _ d => uptoBulk d + 1
  | .map entries => uptoBulkEntries entries + 1
  | .held _ => 1
def uptoBulkAll {H : Type} : List (DataW H) → Nat
  | [] => 0
  | d :: r => uptoBulk d + uptoBulkAll r
def uptoBulkEntries {H : Type} : List (Lit × DataW H) → Nat
  | [] => 0
  | x :: r => uptoBulkEntry x + uptoBulkEntries r
def uptoBulkEntry {H : Type} : Lit × DataW H → Nat
  | (.string bytes, d) => bytes.length + uptoBulk d + 1
  | (_, d) => uptoBulk d + 1
 end
def uptoSmall : (H : Type) → List (DataW H) → Bool := fun _ ds => decide (uptoBulkAll ds ≤ 1048576)
def OpenSpec.upto (s : _root_.Go.ChangeSpec) : _root_.Go.OpenSpec := { _root_.Go.OpenSpec.ofChange s with cond := some uptoSmall }

/-- 'taplinelaw05.SchedStates', WHERE WHAT IT READS IS OF BULK AT MOST 1048576: true; the input reads as it did. -/
def schedStatesUptoRow : OpenClaim := { program := "ytggikbcgijmhbaa", sum := "1e5508a1e12e9ef9adbd769a76b46379423a025858e3a5829c0561cb3fd4c3fa", func := "tapline/taplinelaw05.SchedStates", spec := "schedStates", unfollowed := true, recurses := true, apart := false, narrowed := true }
def SchedStatesUptoSaid : Prop := schedStatesUptoRow.holds Try.pinned (OpenSpec.upto schedStatesSpec)

/-- 'taplinelaw05.SchedPlaces', WHERE WHAT IT READS IS OF BULK AT MOST 1048576: true; the input reads as it did. -/
def schedPlacesUptoRow : OpenClaim := { program := "ytggikbcgijmhbaa", sum := "1e5508a1e12e9ef9adbd769a76b46379423a025858e3a5829c0561cb3fd4c3fa", func := "tapline/taplinelaw05.SchedPlaces", spec := "schedPlaces", unfollowed := true, recurses := true, apart := false, narrowed := true }
def SchedPlacesUptoSaid : Prop := schedPlacesUptoRow.holds Try.pinned (OpenSpec.upto schedPlacesSpec)

/-- 'taplinelaw05.SchedHighest', WHERE WHAT IT READS IS OF BULK AT MOST 1048576: true; the input reads as it did. -/
def schedHighestUptoRow : OpenClaim := { program := "ytggikbcgijmhbaa", sum := "1e5508a1e12e9ef9adbd769a76b46379423a025858e3a5829c0561cb3fd4c3fa", func := "tapline/taplinelaw05.SchedHighest", spec := "schedHighest", unfollowed := true, recurses := true, apart := false, narrowed := true }
def SchedHighestUptoSaid : Prop := schedHighestUptoRow.holds Try.pinned (OpenSpec.upto schedHighestSpec)

/-- 'taplinelaw05.SchedWaits', WHERE WHAT IT READS IS OF BULK AT MOST 1048576: true; the input reads as it did. -/
def schedWaitsUptoRow : OpenClaim := { program := "ytggikbcgijmhbaa", sum := "1e5508a1e12e9ef9adbd769a76b46379423a025858e3a5829c0561cb3fd4c3fa", func := "tapline/taplinelaw05.SchedWaits", spec := "schedWaits", unfollowed := true, recurses := true, apart := false, narrowed := true }
def SchedWaitsUptoSaid : Prop := schedWaitsUptoRow.holds Try.pinned (OpenSpec.upto schedWaitsSpec)

/-- 'taplinelaw05.SchedPreempts', WHERE WHAT IT READS IS OF BULK AT MOST 1048576: true; the input reads as it did. -/
def schedPreemptsUptoRow : OpenClaim := { program := "ytggikbcgijmhbaa", sum := "1e5508a1e12e9ef9adbd769a76b46379423a025858e3a5829c0561cb3fd4c3fa", func := "tapline/taplinelaw05.SchedPreempts", spec := "schedPreempts", unfollowed := true, recurses := true, apart := false, narrowed := true }
def SchedPreemptsUptoSaid : Prop := schedPreemptsUptoRow.holds Try.pinned (OpenSpec.upto schedPreemptsSpec)

/-- 'taplinelaw05.SchedApart', WHERE WHAT IT READS IS OF BULK AT MOST 1048576: true; the input reads as it did. -/
def schedApartUptoRow : OpenClaim := { program := "ytggikbcgijmhbaa", sum := "1e5508a1e12e9ef9adbd769a76b46379423a025858e3a5829c0561cb3fd4c3fa", func := "tapline/taplinelaw05.SchedApart", spec := "schedApart", unfollowed := true, recurses := true, apart := false, narrowed := true }
def SchedApartUptoSaid : Prop := schedApartUptoRow.holds Try.pinned (OpenSpec.upto schedApartSpec)

/-- 'taplinelaw05.SchedWorks', WHERE WHAT IT READS IS OF BULK AT MOST 1048576: true; the input reads as it did. -/
def schedWorksUptoRow : OpenClaim := { program := "ytggikbcgijmhbaa", sum := "1e5508a1e12e9ef9adbd769a76b46379423a025858e3a5829c0561cb3fd4c3fa", func := "tapline/taplinelaw05.SchedWorks", spec := "schedWorks", unfollowed := true, recurses := true, apart := false, narrowed := true }
def SchedWorksUptoSaid : Prop := schedWorksUptoRow.holds Try.pinned (OpenSpec.upto schedWorksSpec)

/-- 'taplinelaw05.SchedQueues', WHERE WHAT IT READS IS OF BULK AT MOST 1048576: true; the input reads as it did. -/
def schedQueuesUptoRow : OpenClaim := { program := "ytggikbcgijmhbaa", sum := "1e5508a1e12e9ef9adbd769a76b46379423a025858e3a5829c0561cb3fd4c3fa", func := "tapline/taplinelaw05.SchedQueues", spec := "schedQueues", unfollowed := true, recurses := true, apart := false, narrowed := true }
def SchedQueuesUptoSaid : Prop := schedQueuesUptoRow.holds Try.pinned (OpenSpec.upto schedQueuesSpec)

end Rows
end Go.Proofs.Ytggikbcgijmhbaa
