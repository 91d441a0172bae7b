/-
  No cell of these rows narrows 'for every input' (looked for: loops, veiled, ifaces, maps, wideKeys, modest, calm, conditions, laid).
  DERIVED. THE GIVEN ROWS OF THIS SEAT. 6 by the template 'for every input the law returns true; each argument reads behind the call as it read before'; 0 by the template 'total and deterministic' (their statements: YtiibjppljpfmoaaTotals.lean).
  GIVEN WITH THE SEED: the statements are not yours to turn. If you find one false, say at which input.
  Laid BY PROGRAM, IN A SANDBOX (cutbox-rows.mjs): the forced cells as the released guide's own fill.sh prints them over the translation 09cb0f003cc9e595… (all of the seat's roots in one cut). By AI agents, Wed Nov 11 2026. No macro, syntax, notation, axiom, sorry.
-/
import Derived.Test.YtiibjppljpfmoaaChecked
import GoSem.Claim
import GoSem.ClaimJoined
import GoSem.ClaimMapViews
import Derived.JoinedTies
import Derived.KernelRfl
namespace Go.Proofs.Ytiibjppljpfmoaa
/- THE CELL 'sum', in the pinned program and in every row, IS THE sha256 OF THE DUMP (.gsa) THAT YtiibjppljpfmoaaProg.lean LOADS. Nothing in Lean hashes anything: it is a label: what it is worth is what the hold of that sum in a sandbox is worth. -/
noncomputable def Try.pinned : Pinned := { name := "ytiibjppljpfmoaa", sum := "09cb0f003cc9e595948fff27ff968eca743d135a6b6741a0c0fa1324ad1b67d3", checked := Try.checked }
namespace Rows
def none {H : Type} : Left H := { results := [], args := [] }

/-- 'laws.FnExactIsName': WHATEVER THE INPUT: true; the input reads as it did. -/
def fnExactIsNameSpec : ChangeSpec := { name := "fnExactIsName", fn := fun _ => fun
  | [d] => { results := [.lit (.bool true)], args := [d] }
  | _ => none }
def fnExactIsNameRow : OpenClaim := { program := "ytiibjppljpfmoaa", sum := "09cb0f003cc9e595948fff27ff968eca743d135a6b6741a0c0fa1324ad1b67d3", func := "loop.example/g03005/laws.FnExactIsName", spec := "fnExactIsName", apart := false }
def FnExactIsNameSaid : Prop := fnExactIsNameRow.holds Try.pinned (OpenSpec.ofChange fnExactIsNameSpec)

/-- ITS FALSE NEIGHBOUR: 'it returns false'. Refute it at one input. -/
def fnExactIsNameWrong : ChangeSpec := { name := "fnExactIsName", fn := fun _ => fun
  | [d] => { results := [.lit (.bool false)], args := [d] }
  | _ => none }
def FnExactIsNameWrongFalsely : Prop := fnExactIsNameRow.holds Try.pinned (OpenSpec.ofChange fnExactIsNameWrong)

/-- 'laws.FnExactIsFeature': WHATEVER THE INPUT: true; the input reads as it did. -/
def fnExactIsFeatureSpec : ChangeSpec := { name := "fnExactIsFeature", fn := fun _ => fun
  | [d] => { results := [.lit (.bool true)], args := [d] }
  | _ => none }
def fnExactIsFeatureRow : OpenClaim := { program := "ytiibjppljpfmoaa", sum := "09cb0f003cc9e595948fff27ff968eca743d135a6b6741a0c0fa1324ad1b67d3", func := "loop.example/g03005/laws.FnExactIsFeature", spec := "fnExactIsFeature", unfollowed := true, recurses := true, apart := false }
def FnExactIsFeatureSaid : Prop := fnExactIsFeatureRow.holds Try.pinned (OpenSpec.ofChange fnExactIsFeatureSpec)

/-- ITS FALSE NEIGHBOUR: 'it returns false'. Refute it at one input. -/
def fnExactIsFeatureWrong : ChangeSpec := { name := "fnExactIsFeature", fn := fun _ => fun
  | [d] => { results := [.lit (.bool false)], args := [d] }
  | _ => none }
def FnExactIsFeatureWrongFalsely : Prop := fnExactIsFeatureRow.holds Try.pinned (OpenSpec.ofChange fnExactIsFeatureWrong)

/-- 'laws.FnExactIsSource': WHATEVER THE INPUT: true; the input reads as it did. -/
def fnExactIsSourceSpec : ChangeSpec := { name := "fnExactIsSource", fn := fun _ => fun
  | [d] => { results := [.lit (.bool true)], args := [d] }
  | _ => none }
def fnExactIsSourceRow : OpenClaim := { program := "ytiibjppljpfmoaa", sum := "09cb0f003cc9e595948fff27ff968eca743d135a6b6741a0c0fa1324ad1b67d3", func := "loop.example/g03005/laws.FnExactIsSource", spec := "fnExactIsSource", unfollowed := true, recurses := true, apart := false }
def FnExactIsSourceSaid : Prop := fnExactIsSourceRow.holds Try.pinned (OpenSpec.ofChange fnExactIsSourceSpec)

/-- ITS FALSE NEIGHBOUR: 'it returns false'. Refute it at one input. -/
def fnExactIsSourceWrong : ChangeSpec := { name := "fnExactIsSource", fn := fun _ => fun
  | [d] => { results := [.lit (.bool false)], args := [d] }
  | _ => none }
def FnExactIsSourceWrongFalsely : Prop := fnExactIsSourceRow.holds Try.pinned (OpenSpec.ofChange fnExactIsSourceWrong)

/-- 'laws.FnExactFindFeature': WHATEVER THE INPUT: true; the input reads as it did. -/
def fnExactFindFeatureSpec : ChangeSpec := { name := "fnExactFindFeature", fn := fun _ => fun
  | [d1, d2] => { results := [.lit (.bool true)], args := [d1, d2] }
  | _ => none }
def fnExactFindFeatureRow : OpenClaim := { program := "ytiibjppljpfmoaa", sum := "09cb0f003cc9e595948fff27ff968eca743d135a6b6741a0c0fa1324ad1b67d3", func := "loop.example/g03005/laws.FnExactFindFeature", spec := "fnExactFindFeature", unfollowed := true, recurses := true, apart := false }
def FnExactFindFeatureSaid : Prop := fnExactFindFeatureRow.holds Try.pinned (OpenSpec.ofChange fnExactFindFeatureSpec)

/-- ITS FALSE NEIGHBOUR: 'it returns false'. Refute it at one input. -/
def fnExactFindFeatureWrong : ChangeSpec := { name := "fnExactFindFeature", fn := fun _ => fun
  | [d1, d2] => { results := [.lit (.bool false)], args := [d1, d2] }
  | _ => none }
def FnExactFindFeatureWrongFalsely : Prop := fnExactFindFeatureRow.holds Try.pinned (OpenSpec.ofChange fnExactFindFeatureWrong)

/-- 'laws.FnExactEqualFeatures': WHATEVER THE INPUT: true; the input reads as it did. -/
def fnExactEqualFeaturesSpec : ChangeSpec := { name := "fnExactEqualFeatures", fn := fun _ => fun
  | [d1, d2] => { results := [.lit (.bool true)], args := [d1, d2] }
  | _ => none }
def fnExactEqualFeaturesRow : OpenClaim := { program := "ytiibjppljpfmoaa", sum := "09cb0f003cc9e595948fff27ff968eca743d135a6b6741a0c0fa1324ad1b67d3", func := "loop.example/g03005/laws.FnExactEqualFeatures", spec := "fnExactEqualFeatures", apart := false }
def FnExactEqualFeaturesSaid : Prop := fnExactEqualFeaturesRow.holds Try.pinned (OpenSpec.ofChange fnExactEqualFeaturesSpec)

/-- ITS FALSE NEIGHBOUR: 'it returns false'. Refute it at one input. -/
def fnExactEqualFeaturesWrong : ChangeSpec := { name := "fnExactEqualFeatures", fn := fun _ => fun
  | [d1, d2] => { results := [.lit (.bool false)], args := [d1, d2] }
  | _ => none }
def FnExactEqualFeaturesWrongFalsely : Prop := fnExactEqualFeaturesRow.holds Try.pinned (OpenSpec.ofChange fnExactEqualFeaturesWrong)

/-- 'laws.FnExactEqualSources': WHATEVER THE INPUT: true; the input reads as it did. -/
def fnExactEqualSourcesSpec : ChangeSpec := { name := "fnExactEqualSources", fn := fun _ => fun
  | [d1, d2] => { results := [.lit (.bool true)], args := [d1, d2] }
  | _ => none }
def fnExactEqualSourcesRow : OpenClaim := { program := "ytiibjppljpfmoaa", sum := "09cb0f003cc9e595948fff27ff968eca743d135a6b6741a0c0fa1324ad1b67d3", func := "loop.example/g03005/laws.FnExactEqualSources", spec := "fnExactEqualSources", unfollowed := true, recurses := true, apart := false }
def FnExactEqualSourcesSaid : Prop := fnExactEqualSourcesRow.holds Try.pinned (OpenSpec.ofChange fnExactEqualSourcesSpec)

/-- ITS FALSE NEIGHBOUR: 'it returns false'. Refute it at one input. -/
def fnExactEqualSourcesWrong : ChangeSpec := { name := "fnExactEqualSources", fn := fun _ => fun
  | [d1, d2] => { results := [.lit (.bool false)], args := [d1, d2] }
  | _ => none }
def FnExactEqualSourcesWrongFalsely : Prop := fnExactEqualSourcesRow.holds Try.pinned (OpenSpec.ofChange fnExactEqualSourcesWrong)

/- THE SECOND FORM. 'bulk': how many values and letters a reading holds, each counted each time it is reached (what is shared counts as often as it is met; a slice's spare places count too). A statement '..UptoSaid' is the law's where the arguments, and the package variables that the reading takes, are together of bulk at most 1048576: NARROWER than '..Said'. Prove '..Said' where nothing that the law and all that it calls make is longer than what came in: it says more and counts as full. Else prove '..UptoSaid'. A law counts once. -/
mutual
def uptoBulk {H : Type} : DataW H → Nat
  | .lit (.string bytes) => bytes.length + 1
  | .lit _ => 1
  | .nil => 1
  | .ptr d => uptoBulk d + 1
  | .slice elems spare => uptoBulkAll elems + uptoBulkAll spare + 1
  | .agg parts => uptoBulkAll parts + 1
  | .iface _ d => uptoBulk d + 1
  | .map entries => uptoBulkEntries entries + 1
  | .held _ => 1
def uptoBulkAll {H : Type} : List (DataW H) → Nat
  | [] => 0
  | d :: r => uptoBulk d + uptoBulkAll r
def uptoBulkEntries {H : Type} : List (Lit × DataW H) → Nat
  | [] => 0
  | x :: r => uptoBulkEntry x + uptoBulkEntries r
def uptoBulkEntry {H : Type} : Lit × DataW H → Nat
  | (.string bytes, d) => bytes.length + uptoBulk d + 1
  | (_, d) => uptoBulk d + 1
 end
def uptoSmall : (H : Type) → List (DataW H) → Bool := fun _ ds => decide (uptoBulkAll ds ≤ 1048576)
def OpenSpec.upto (s : _root_.Go.ChangeSpec) : _root_.Go.OpenSpec := { _root_.Go.OpenSpec.ofChange s with cond := some uptoSmall }

/-- 'laws.FnExactIsName', WHERE WHAT IT READS IS OF BULK AT MOST 1048576: true; the input reads as it did. -/
def fnExactIsNameUptoRow : OpenClaim := { program := "ytiibjppljpfmoaa", sum := "09cb0f003cc9e595948fff27ff968eca743d135a6b6741a0c0fa1324ad1b67d3", func := "loop.example/g03005/laws.FnExactIsName", spec := "fnExactIsName", apart := false, narrowed := true }
def FnExactIsNameUptoSaid : Prop := fnExactIsNameUptoRow.holds Try.pinned (OpenSpec.upto fnExactIsNameSpec)

/-- 'laws.FnExactIsFeature', WHERE WHAT IT READS IS OF BULK AT MOST 1048576: true; the input reads as it did. -/
def fnExactIsFeatureUptoRow : OpenClaim := { program := "ytiibjppljpfmoaa", sum := "09cb0f003cc9e595948fff27ff968eca743d135a6b6741a0c0fa1324ad1b67d3", func := "loop.example/g03005/laws.FnExactIsFeature", spec := "fnExactIsFeature", unfollowed := true, recurses := true, apart := false, narrowed := true }
def FnExactIsFeatureUptoSaid : Prop := fnExactIsFeatureUptoRow.holds Try.pinned (OpenSpec.upto fnExactIsFeatureSpec)

/-- 'laws.FnExactIsSource', WHERE WHAT IT READS IS OF BULK AT MOST 1048576: true; the input reads as it did. -/
def fnExactIsSourceUptoRow : OpenClaim := { program := "ytiibjppljpfmoaa", sum := "09cb0f003cc9e595948fff27ff968eca743d135a6b6741a0c0fa1324ad1b67d3", func := "loop.example/g03005/laws.FnExactIsSource", spec := "fnExactIsSource", unfollowed := true, recurses := true, apart := false, narrowed := true }
def FnExactIsSourceUptoSaid : Prop := fnExactIsSourceUptoRow.holds Try.pinned (OpenSpec.upto fnExactIsSourceSpec)

/-- 'laws.FnExactFindFeature', WHERE WHAT IT READS IS OF BULK AT MOST 1048576: true; the input reads as it did. -/
def fnExactFindFeatureUptoRow : OpenClaim := { program := "ytiibjppljpfmoaa", sum := "09cb0f003cc9e595948fff27ff968eca743d135a6b6741a0c0fa1324ad1b67d3", func := "loop.example/g03005/laws.FnExactFindFeature", spec := "fnExactFindFeature", unfollowed := true, recurses := true, apart := false, narrowed := true }
def FnExactFindFeatureUptoSaid : Prop := fnExactFindFeatureUptoRow.holds Try.pinned (OpenSpec.upto fnExactFindFeatureSpec)

/-- 'laws.FnExactEqualFeatures', WHERE WHAT IT READS IS OF BULK AT MOST 1048576: true; the input reads as it did. -/
def fnExactEqualFeaturesUptoRow : OpenClaim := { program := "ytiibjppljpfmoaa", sum := "09cb0f003cc9e595948fff27ff968eca743d135a6b6741a0c0fa1324ad1b67d3", func := "loop.example/g03005/laws.FnExactEqualFeatures", spec := "fnExactEqualFeatures", apart := false, narrowed := true }
def FnExactEqualFeaturesUptoSaid : Prop := fnExactEqualFeaturesUptoRow.holds Try.pinned (OpenSpec.upto fnExactEqualFeaturesSpec)

/-- 'laws.FnExactEqualSources', WHERE WHAT IT READS IS OF BULK AT MOST 1048576: true; the input reads as it did. -/
def fnExactEqualSourcesUptoRow : OpenClaim := { program := "ytiibjppljpfmoaa", sum := "09cb0f003cc9e595948fff27ff968eca743d135a6b6741a0c0fa1324ad1b67d3", func := "loop.example/g03005/laws.FnExactEqualSources", spec := "fnExactEqualSources", unfollowed := true, recurses := true, apart := false, narrowed := true }
def FnExactEqualSourcesUptoSaid : Prop := fnExactEqualSourcesUptoRow.holds Try.pinned (OpenSpec.upto fnExactEqualSourcesSpec)

end Rows
end Go.Proofs.Ytiibjppljpfmoaa
