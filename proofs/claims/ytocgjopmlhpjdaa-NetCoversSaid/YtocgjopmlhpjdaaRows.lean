/-
  No cell of these rows narrows 'for every input' (looked for: loops, veiled, ifaces, maps, wideKeys, modest, calm, conditions, laid).
  DERIVED. THE GIVEN ROWS OF THIS SEAT. 9 by the template 'for every input the law returns true; each argument reads behind the call as it read before'; 0 by the template 'total and deterministic' (their statements: YtocgjopmlhpjdaaTotals.lean).
  GIVEN WITH THE SEED: the statements are not yours to turn. If you find one false, say at which input.
  Laid BY PROGRAM, IN A SANDBOX (cutbox-rows.mjs): the forced cells as the released guide's own fill.sh prints them over the translation 612a561d728bc0d0… (all of the seat's roots in one cut). By AI agents, Wed Nov 11 2026. No macro, syntax, notation, axiom, sorry.
-/
import Derived.Test.YtocgjopmlhpjdaaChecked
import GoSem.Claim
import GoSem.ClaimJoined
import GoSem.ClaimMapViews
import Derived.JoinedTies
import Derived.KernelRfl
namespace Go.Proofs.Ytocgjopmlhpjdaa
/- THE CELL 'sum', in the pinned program and in every row, IS THE sha256 OF THE DUMP (.gsa) THAT YtocgjopmlhpjdaaProg.lean LOADS. Nothing in Lean hashes anything: it is a label: what it is worth is what the hold of that sum in a sandbox is worth. -/
noncomputable def Try.pinned : Pinned := { name := "ytocgjopmlhpjdaa", sum := "612a561d728bc0d0b3d6b2bedac8a1c95a21be47512f246273dbcd36ea3a10dd", checked := Try.checked }
namespace Rows
def none {H : Type} : Left H := { results := [], args := [] }

/-- 'massecuitelaw02.NetReaches': WHATEVER THE INPUT: true; the input reads as it did. -/
def netReachesSpec : ChangeSpec := { name := "netReaches", fn := fun _ => fun
  | [d] => { results := [.lit (.bool true)], args := [d] }
  | _ => none }
def netReachesRow : OpenClaim := { program := "ytocgjopmlhpjdaa", sum := "612a561d728bc0d0b3d6b2bedac8a1c95a21be47512f246273dbcd36ea3a10dd", func := "massecuite/massecuitelaw02.NetReaches", spec := "netReaches", unfollowed := true, recurses := true, plainKeys := false, apart := false }
def NetReachesSaid : Prop := netReachesRow.holds Try.pinned (OpenSpec.ofChange netReachesSpec)

/-- ITS FALSE NEIGHBOUR: 'it returns false'. Refute it at one input. -/
def netReachesWrong : ChangeSpec := { name := "netReaches", fn := fun _ => fun
  | [d] => { results := [.lit (.bool false)], args := [d] }
  | _ => none }
def NetReachesWrongFalsely : Prop := netReachesRow.holds Try.pinned (OpenSpec.ofChange netReachesWrong)

/-- 'massecuitelaw02.NetWords': WHATEVER THE INPUT: true; the input reads as it did. -/
def netWordsSpec : ChangeSpec := { name := "netWords", fn := fun _ => fun
  | [d1, d2] => { results := [.lit (.bool true)], args := [d1, d2] }
  | _ => none }
def netWordsRow : OpenClaim := { program := "ytocgjopmlhpjdaa", sum := "612a561d728bc0d0b3d6b2bedac8a1c95a21be47512f246273dbcd36ea3a10dd", func := "massecuite/massecuitelaw02.NetWords", spec := "netWords", unfollowed := true, recurses := true, plainKeys := false, apart := false }
def NetWordsSaid : Prop := netWordsRow.holds Try.pinned (OpenSpec.ofChange netWordsSpec)

/-- ITS FALSE NEIGHBOUR: 'it returns false'. Refute it at one input. -/
def netWordsWrong : ChangeSpec := { name := "netWords", fn := fun _ => fun
  | [d1, d2] => { results := [.lit (.bool false)], args := [d1, d2] }
  | _ => none }
def NetWordsWrongFalsely : Prop := netWordsRow.holds Try.pinned (OpenSpec.ofChange netWordsWrong)

/-- 'massecuitelaw02.NetCovers': WHATEVER THE INPUT: true; the input reads as it did. -/
def netCoversSpec : ChangeSpec := { name := "netCovers", fn := fun _ => fun
  | [d1, d2] => { results := [.lit (.bool true)], args := [d1, d2] }
  | _ => none }
def netCoversRow : OpenClaim := { program := "ytocgjopmlhpjdaa", sum := "612a561d728bc0d0b3d6b2bedac8a1c95a21be47512f246273dbcd36ea3a10dd", func := "massecuite/massecuitelaw02.NetCovers", spec := "netCovers", unfollowed := true, recurses := true, plainKeys := false, apart := false }
def NetCoversSaid : Prop := netCoversRow.holds Try.pinned (OpenSpec.ofChange netCoversSpec)

/-- ITS FALSE NEIGHBOUR: 'it returns false'. Refute it at one input. -/
def netCoversWrong : ChangeSpec := { name := "netCovers", fn := fun _ => fun
  | [d1, d2] => { results := [.lit (.bool false)], args := [d1, d2] }
  | _ => none }
def NetCoversWrongFalsely : Prop := netCoversRow.holds Try.pinned (OpenSpec.ofChange netCoversWrong)

/-- 'massecuitelaw02.NetLives': WHATEVER THE INPUT: true; the input reads as it did. -/
def netLivesSpec : ChangeSpec := { name := "netLives", fn := fun _ => fun
  | [d] => { results := [.lit (.bool true)], args := [d] }
  | _ => none }
def netLivesRow : OpenClaim := { program := "ytocgjopmlhpjdaa", sum := "612a561d728bc0d0b3d6b2bedac8a1c95a21be47512f246273dbcd36ea3a10dd", func := "massecuite/massecuitelaw02.NetLives", spec := "netLives", unfollowed := true, recurses := true, plainKeys := false, apart := false }
def NetLivesSaid : Prop := netLivesRow.holds Try.pinned (OpenSpec.ofChange netLivesSpec)

/-- ITS FALSE NEIGHBOUR: 'it returns false'. Refute it at one input. -/
def netLivesWrong : ChangeSpec := { name := "netLives", fn := fun _ => fun
  | [d] => { results := [.lit (.bool false)], args := [d] }
  | _ => none }
def NetLivesWrongFalsely : Prop := netLivesRow.holds Try.pinned (OpenSpec.ofChange netLivesWrong)

/-- 'massecuitelaw02.NetBounds': WHATEVER THE INPUT: true; the input reads as it did. -/
def netBoundsSpec : ChangeSpec := { name := "netBounds", fn := fun _ => fun
  | [d1, d2] => { results := [.lit (.bool true)], args := [d1, d2] }
  | _ => none }
def netBoundsRow : OpenClaim := { program := "ytocgjopmlhpjdaa", sum := "612a561d728bc0d0b3d6b2bedac8a1c95a21be47512f246273dbcd36ea3a10dd", func := "massecuite/massecuitelaw02.NetBounds", spec := "netBounds", unfollowed := true, recurses := true, plainKeys := false, apart := false }
def NetBoundsSaid : Prop := netBoundsRow.holds Try.pinned (OpenSpec.ofChange netBoundsSpec)

/-- ITS FALSE NEIGHBOUR: 'it returns false'. Refute it at one input. -/
def netBoundsWrong : ChangeSpec := { name := "netBounds", fn := fun _ => fun
  | [d1, d2] => { results := [.lit (.bool false)], args := [d1, d2] }
  | _ => none }
def NetBoundsWrongFalsely : Prop := netBoundsRow.holds Try.pinned (OpenSpec.ofChange netBoundsWrong)

/-- 'massecuitelaw02.NetTight': WHATEVER THE INPUT: true; the input reads as it did. -/
def netTightSpec : ChangeSpec := { name := "netTight", fn := fun _ => fun
  | [d1, d2] => { results := [.lit (.bool true)], args := [d1, d2] }
  | _ => none }
def netTightRow : OpenClaim := { program := "ytocgjopmlhpjdaa", sum := "612a561d728bc0d0b3d6b2bedac8a1c95a21be47512f246273dbcd36ea3a10dd", func := "massecuite/massecuitelaw02.NetTight", spec := "netTight", unfollowed := true, recurses := true, plainKeys := false, apart := false }
def NetTightSaid : Prop := netTightRow.holds Try.pinned (OpenSpec.ofChange netTightSpec)

/-- ITS FALSE NEIGHBOUR: 'it returns false'. Refute it at one input. -/
def netTightWrong : ChangeSpec := { name := "netTight", fn := fun _ => fun
  | [d1, d2] => { results := [.lit (.bool false)], args := [d1, d2] }
  | _ => none }
def NetTightWrongFalsely : Prop := netTightRow.holds Try.pinned (OpenSpec.ofChange netTightWrong)

/-- 'massecuitelaw02.NetMonotone': WHATEVER THE INPUT: true; the input reads as it did. -/
def netMonotoneSpec : ChangeSpec := { name := "netMonotone", fn := fun _ => fun
  | [d1, d2, d3] => { results := [.lit (.bool true)], args := [d1, d2, d3] }
  | _ => none }
def netMonotoneRow : OpenClaim := { program := "ytocgjopmlhpjdaa", sum := "612a561d728bc0d0b3d6b2bedac8a1c95a21be47512f246273dbcd36ea3a10dd", func := "massecuite/massecuitelaw02.NetMonotone", spec := "netMonotone", unfollowed := true, recurses := true, plainKeys := false, apart := false }
def NetMonotoneSaid : Prop := netMonotoneRow.holds Try.pinned (OpenSpec.ofChange netMonotoneSpec)

/-- ITS FALSE NEIGHBOUR: 'it returns false'. Refute it at one input. -/
def netMonotoneWrong : ChangeSpec := { name := "netMonotone", fn := fun _ => fun
  | [d1, d2, d3] => { results := [.lit (.bool false)], args := [d1, d2, d3] }
  | _ => none }
def NetMonotoneWrongFalsely : Prop := netMonotoneRow.holds Try.pinned (OpenSpec.ofChange netMonotoneWrong)

/-- 'massecuitelaw02.NetDead': WHATEVER THE INPUT: true; the input reads as it did. -/
def netDeadSpec : ChangeSpec := { name := "netDead", fn := fun _ => fun
  | [d] => { results := [.lit (.bool true)], args := [d] }
  | _ => none }
def netDeadRow : OpenClaim := { program := "ytocgjopmlhpjdaa", sum := "612a561d728bc0d0b3d6b2bedac8a1c95a21be47512f246273dbcd36ea3a10dd", func := "massecuite/massecuitelaw02.NetDead", spec := "netDead", unfollowed := true, recurses := true, plainKeys := false, apart := false }
def NetDeadSaid : Prop := netDeadRow.holds Try.pinned (OpenSpec.ofChange netDeadSpec)

/-- ITS FALSE NEIGHBOUR: 'it returns false'. Refute it at one input. -/
def netDeadWrong : ChangeSpec := { name := "netDead", fn := fun _ => fun
  | [d] => { results := [.lit (.bool false)], args := [d] }
  | _ => none }
def NetDeadWrongFalsely : Prop := netDeadRow.holds Try.pinned (OpenSpec.ofChange netDeadWrong)

/-- 'massecuitelaw02.NetCommoner': WHATEVER THE INPUT: true; the input reads as it did. -/
def netCommonerSpec : ChangeSpec := { name := "netCommoner", fn := fun _ => fun
  | [d] => { results := [.lit (.bool true)], args := [d] }
  | _ => none }
def netCommonerRow : OpenClaim := { program := "ytocgjopmlhpjdaa", sum := "612a561d728bc0d0b3d6b2bedac8a1c95a21be47512f246273dbcd36ea3a10dd", func := "massecuite/massecuitelaw02.NetCommoner", spec := "netCommoner", unfollowed := true, recurses := true, plainKeys := false, apart := false }
def NetCommonerSaid : Prop := netCommonerRow.holds Try.pinned (OpenSpec.ofChange netCommonerSpec)

/-- ITS FALSE NEIGHBOUR: 'it returns false'. Refute it at one input. -/
def netCommonerWrong : ChangeSpec := { name := "netCommoner", fn := fun _ => fun
  | [d] => { results := [.lit (.bool false)], args := [d] }
  | _ => none }
def NetCommonerWrongFalsely : Prop := netCommonerRow.holds Try.pinned (OpenSpec.ofChange netCommonerWrong)

/- THE SECOND FORM. 'bulk': how many values and letters a reading holds, each counted each time it is reached (what is shared counts as often as it is met; a slice's spare places count too). A statement '..UptoSaid' is the law's where the arguments, and the package variables that the reading takes, are together of bulk at most 1048576: NARROWER than '..Said'. Prove '..Said' where nothing that the law and all that it calls make is longer than what came in: it says more and counts as full. Else prove '..UptoSaid'. A law counts once. -/
mutual
def uptoBulk {H : Type} : DataW H → Nat
  | .lit (.string bytes) => bytes.length + 1
  | .lit _ => 1
  | .nil => 1
  | .ptr d => uptoBulk d + 1
  | .slice elems spare => uptoBulkAll elems + uptoBulkAll spare + 1
  | .agg parts => uptoBulkAll parts + 1
  | .iface _ d => uptoBulk d + 1
  | .map entries => uptoBulkEntries entries + 1
  | .held _ => 1
def uptoBulkAll {H : Type} : List (DataW H) → Nat
  | [] => 0
  | d :: r => uptoBulk d + uptoBulkAll r
def uptoBulkEntries {H : Type} : List (Lit × DataW H) → Nat
  | [] => 0
  | x :: r => uptoBulkEntry x + uptoBulkEntries r
def uptoBulkEntry {H : Type} : Lit × DataW H → Nat
  | (.string bytes, d) => bytes.length + uptoBulk d + 1
  | (_, d) => uptoBulk d + 1
 end
def uptoSmall : (H : Type) → List (DataW H) → Bool := fun _ ds => decide (uptoBulkAll ds ≤ 1048576)
def OpenSpec.upto (s : _root_.Go.ChangeSpec) : _root_.Go.OpenSpec := { _root_.Go.OpenSpec.ofChange s with cond := some uptoSmall }

/-- 'massecuitelaw02.NetReaches', WHERE WHAT IT READS IS OF BULK AT MOST 1048576: true; the input reads as it did. -/
def netReachesUptoRow : OpenClaim := { program := "ytocgjopmlhpjdaa", sum := "612a561d728bc0d0b3d6b2bedac8a1c95a21be47512f246273dbcd36ea3a10dd", func := "massecuite/massecuitelaw02.NetReaches", spec := "netReaches", unfollowed := true, recurses := true, plainKeys := false, apart := false, narrowed := true }
def NetReachesUptoSaid : Prop := netReachesUptoRow.holds Try.pinned (OpenSpec.upto netReachesSpec)

/-- 'massecuitelaw02.NetWords', WHERE WHAT IT READS IS OF BULK AT MOST 1048576: true; the input reads as it did. -/
def netWordsUptoRow : OpenClaim := { program := "ytocgjopmlhpjdaa", sum := "612a561d728bc0d0b3d6b2bedac8a1c95a21be47512f246273dbcd36ea3a10dd", func := "massecuite/massecuitelaw02.NetWords", spec := "netWords", unfollowed := true, recurses := true, plainKeys := false, apart := false, narrowed := true }
def NetWordsUptoSaid : Prop := netWordsUptoRow.holds Try.pinned (OpenSpec.upto netWordsSpec)

/-- 'massecuitelaw02.NetCovers', WHERE WHAT IT READS IS OF BULK AT MOST 1048576: true; the input reads as it did. -/
def netCoversUptoRow : OpenClaim := { program := "ytocgjopmlhpjdaa", sum := "612a561d728bc0d0b3d6b2bedac8a1c95a21be47512f246273dbcd36ea3a10dd", func := "massecuite/massecuitelaw02.NetCovers", spec := "netCovers", unfollowed := true, recurses := true, plainKeys := false, apart := false, narrowed := true }
def NetCoversUptoSaid : Prop := netCoversUptoRow.holds Try.pinned (OpenSpec.upto netCoversSpec)

/-- 'massecuitelaw02.NetLives', WHERE WHAT IT READS IS OF BULK AT MOST 1048576: true; the input reads as it did. -/
def netLivesUptoRow : OpenClaim := { program := "ytocgjopmlhpjdaa", sum := "612a561d728bc0d0b3d6b2bedac8a1c95a21be47512f246273dbcd36ea3a10dd", func := "massecuite/massecuitelaw02.NetLives", spec := "netLives", unfollowed := true, recurses := true, plainKeys := false, apart := false, narrowed := true }
def NetLivesUptoSaid : Prop := netLivesUptoRow.holds Try.pinned (OpenSpec.upto netLivesSpec)

/-- 'massecuitelaw02.NetBounds', WHERE WHAT IT READS IS OF BULK AT MOST 1048576: true; the input reads as it did. -/
def netBoundsUptoRow : OpenClaim := { program := "ytocgjopmlhpjdaa", sum := "612a561d728bc0d0b3d6b2bedac8a1c95a21be47512f246273dbcd36ea3a10dd", func := "massecuite/massecuitelaw02.NetBounds", spec := "netBounds", unfollowed := true, recurses := true, plainKeys := false, apart := false, narrowed := true }
def NetBoundsUptoSaid : Prop := netBoundsUptoRow.holds Try.pinned (OpenSpec.upto netBoundsSpec)

/-- 'massecuitelaw02.NetTight', WHERE WHAT IT READS IS OF BULK AT MOST 1048576: true; the input reads as it did. -/
def netTightUptoRow : OpenClaim := { program := "ytocgjopmlhpjdaa", sum := "612a561d728bc0d0b3d6b2bedac8a1c95a21be47512f246273dbcd36ea3a10dd", func := "massecuite/massecuitelaw02.NetTight", spec := "netTight", unfollowed := true, recurses := true, plainKeys := false, apart := false, narrowed := true }
def NetTightUptoSaid : Prop := netTightUptoRow.holds Try.pinned (OpenSpec.upto netTightSpec)

/-- 'massecuitelaw02.NetMonotone', WHERE WHAT IT READS IS OF BULK AT MOST 1048576: true; the input reads as it did. -/
def netMonotoneUptoRow : OpenClaim := { program := "ytocgjopmlhpjdaa", sum := "612a561d728bc0d0b3d6b2bedac8a1c95a21be47512f246273dbcd36ea3a10dd", func := "massecuite/massecuitelaw02.NetMonotone", spec := "netMonotone", unfollowed := true, recurses := true, plainKeys := false, apart := false, narrowed := true }
def NetMonotoneUptoSaid : Prop := netMonotoneUptoRow.holds Try.pinned (OpenSpec.upto netMonotoneSpec)

/-- 'massecuitelaw02.NetDead', WHERE WHAT IT READS IS OF BULK AT MOST 1048576: true; the input reads as it did. -/
def netDeadUptoRow : OpenClaim := { program := "ytocgjopmlhpjdaa", sum := "612a561d728bc0d0b3d6b2bedac8a1c95a21be47512f246273dbcd36ea3a10dd", func := "massecuite/massecuitelaw02.NetDead", spec := "netDead", unfollowed := true, recurses := true, plainKeys := false, apart := false, narrowed := true }
def NetDeadUptoSaid : Prop := netDeadUptoRow.holds Try.pinned (OpenSpec.upto netDeadSpec)

/-- 'massecuitelaw02.NetCommoner', WHERE WHAT IT READS IS OF BULK AT MOST 1048576: true; the input reads as it did. -/
def netCommonerUptoRow : OpenClaim := { program := "ytocgjopmlhpjdaa", sum := "612a561d728bc0d0b3d6b2bedac8a1c95a21be47512f246273dbcd36ea3a10dd", func := "massecuite/massecuitelaw02.NetCommoner", spec := "netCommoner", unfollowed := true, recurses := true, plainKeys := false, apart := false, narrowed := true }
def NetCommonerUptoSaid : Prop := netCommonerUptoRow.holds Try.pinned (OpenSpec.upto netCommonerSpec)

end Rows
end Go.Proofs.Ytocgjopmlhpjdaa
