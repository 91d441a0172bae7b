/-
  No cell of these rows narrows 'for every input' (looked for: loops, veiled, ifaces, maps, wideKeys, modest, calm, conditions, laid).
  DERIVED. THE GIVEN ROWS OF THIS SEAT. 8 by the template 'for every input the law returns true; each argument reads behind the call as it read before'; 0 by the template 'total and deterministic' (their statements: YtangaaghdidglaaTotals.lean).
  GIVEN WITH THE SEED: the statements are not yours to turn. If you find one false, say at which input.
  Laid BY PROGRAM, IN A SANDBOX (cutbox-rows.mjs): the forced cells as the released guide's own fill.sh prints them over the translation eff2356a56d7f6a8… (all of the seat's roots in one cut). By AI agents, Wed Nov 11 2026. No macro, syntax, notation, axiom, sorry.
-/
import Derived.Test.YtangaaghdidglaaChecked
import GoSem.Claim
import GoSem.ClaimJoined
import GoSem.ClaimMapViews
import Derived.JoinedTies
import Derived.KernelRfl
namespace Go.Proofs.Ytangaaghdidglaa
/- THE CELL 'sum', in the pinned program and in every row, IS THE sha256 OF THE DUMP (.gsa) THAT YtangaaghdidglaaProg.lean LOADS. Nothing in Lean hashes anything: it is a label: what it is worth is what the hold of that sum in a sandbox is worth. -/
noncomputable def Try.pinned : Pinned := { name := "ytangaaghdidglaa", sum := "eff2356a56d7f6a8de790789ef168c41e4e9585c0de26e15b7fabe0b2b331ca9", checked := Try.checked }
namespace Rows
def none {H : Type} : Left H := { results := [], args := [] }

/-- 'laws.FnLines': WHATEVER THE INPUT: true; the input reads as it did. -/
def fnLinesSpec : ChangeSpec := { name := "fnLines", fn := fun _ => fun
  | [d] => { results := [.lit (.bool true)], args := [d] }
  | _ => none }
def fnLinesRow : OpenClaim := { program := "ytangaaghdidglaa", sum := "eff2356a56d7f6a8de790789ef168c41e4e9585c0de26e15b7fabe0b2b331ca9", func := "loop.example/g03005/laws.FnLines", spec := "fnLines", unfollowed := true, recurses := true, apart := false }
def FnLinesSaid : Prop := fnLinesRow.holds Try.pinned (OpenSpec.ofChange fnLinesSpec)

/-- ITS FALSE NEIGHBOUR: 'it returns false'. Refute it at one input. -/
def fnLinesWrong : ChangeSpec := { name := "fnLines", fn := fun _ => fun
  | [d] => { results := [.lit (.bool false)], args := [d] }
  | _ => none }
def FnLinesWrongFalsely : Prop := fnLinesRow.holds Try.pinned (OpenSpec.ofChange fnLinesWrong)

/-- 'laws.FnExactIsLine': WHATEVER THE INPUT: true; the input reads as it did. -/
def fnExactIsLineSpec : ChangeSpec := { name := "fnExactIsLine", fn := fun _ => fun
  | [d] => { results := [.lit (.bool true)], args := [d] }
  | _ => none }
def fnExactIsLineRow : OpenClaim := { program := "ytangaaghdidglaa", sum := "eff2356a56d7f6a8de790789ef168c41e4e9585c0de26e15b7fabe0b2b331ca9", func := "loop.example/g03005/laws.FnExactIsLine", spec := "fnExactIsLine", unfollowed := true, recurses := true, apart := false }
def FnExactIsLineSaid : Prop := fnExactIsLineRow.holds Try.pinned (OpenSpec.ofChange fnExactIsLineSpec)

/-- ITS FALSE NEIGHBOUR: 'it returns false'. Refute it at one input. -/
def fnExactIsLineWrong : ChangeSpec := { name := "fnExactIsLine", fn := fun _ => fun
  | [d] => { results := [.lit (.bool false)], args := [d] }
  | _ => none }
def FnExactIsLineWrongFalsely : Prop := fnExactIsLineRow.holds Try.pinned (OpenSpec.ofChange fnExactIsLineWrong)

/-- 'laws.FnExactSegmentsOf': WHATEVER THE INPUT: true; the input reads as it did. -/
def fnExactSegmentsOfSpec : ChangeSpec := { name := "fnExactSegmentsOf", fn := fun _ => fun
  | [d] => { results := [.lit (.bool true)], args := [d] }
  | _ => none }
def fnExactSegmentsOfRow : OpenClaim := { program := "ytangaaghdidglaa", sum := "eff2356a56d7f6a8de790789ef168c41e4e9585c0de26e15b7fabe0b2b331ca9", func := "loop.example/g03005/laws.FnExactSegmentsOf", spec := "fnExactSegmentsOf", unfollowed := true, recurses := true, apart := false }
def FnExactSegmentsOfSaid : Prop := fnExactSegmentsOfRow.holds Try.pinned (OpenSpec.ofChange fnExactSegmentsOfSpec)

/-- ITS FALSE NEIGHBOUR: 'it returns false'. Refute it at one input. -/
def fnExactSegmentsOfWrong : ChangeSpec := { name := "fnExactSegmentsOf", fn := fun _ => fun
  | [d] => { results := [.lit (.bool false)], args := [d] }
  | _ => none }
def FnExactSegmentsOfWrongFalsely : Prop := fnExactSegmentsOfRow.holds Try.pinned (OpenSpec.ofChange fnExactSegmentsOfWrong)

/-- 'laws.FnExactIsSimple': WHATEVER THE INPUT: true; the input reads as it did. -/
def fnExactIsSimpleSpec : ChangeSpec := { name := "fnExactIsSimple", fn := fun _ => fun
  | [d] => { results := [.lit (.bool true)], args := [d] }
  | _ => none }
def fnExactIsSimpleRow : OpenClaim := { program := "ytangaaghdidglaa", sum := "eff2356a56d7f6a8de790789ef168c41e4e9585c0de26e15b7fabe0b2b331ca9", func := "loop.example/g03005/laws.FnExactIsSimple", spec := "fnExactIsSimple", unfollowed := true, recurses := true, apart := false }
def FnExactIsSimpleSaid : Prop := fnExactIsSimpleRow.holds Try.pinned (OpenSpec.ofChange fnExactIsSimpleSpec)

/-- ITS FALSE NEIGHBOUR: 'it returns false'. Refute it at one input. -/
def fnExactIsSimpleWrong : ChangeSpec := { name := "fnExactIsSimple", fn := fun _ => fun
  | [d] => { results := [.lit (.bool false)], args := [d] }
  | _ => none }
def FnExactIsSimpleWrongFalsely : Prop := fnExactIsSimpleRow.holds Try.pinned (OpenSpec.ofChange fnExactIsSimpleWrong)

/-- 'laws.FnExactLineSteps': WHATEVER THE INPUT: true; the input reads as it did. -/
def fnExactLineStepsSpec : ChangeSpec := { name := "fnExactLineSteps", fn := fun _ => fun
  | [d] => { results := [.lit (.bool true)], args := [d] }
  | _ => none }
def fnExactLineStepsRow : OpenClaim := { program := "ytangaaghdidglaa", sum := "eff2356a56d7f6a8de790789ef168c41e4e9585c0de26e15b7fabe0b2b331ca9", func := "loop.example/g03005/laws.FnExactLineSteps", spec := "fnExactLineSteps", unfollowed := true, recurses := true, apart := false }
def FnExactLineStepsSaid : Prop := fnExactLineStepsRow.holds Try.pinned (OpenSpec.ofChange fnExactLineStepsSpec)

/-- ITS FALSE NEIGHBOUR: 'it returns false'. Refute it at one input. -/
def fnExactLineStepsWrong : ChangeSpec := { name := "fnExactLineSteps", fn := fun _ => fun
  | [d] => { results := [.lit (.bool false)], args := [d] }
  | _ => none }
def FnExactLineStepsWrongFalsely : Prop := fnExactLineStepsRow.holds Try.pinned (OpenSpec.ofChange fnExactLineStepsWrong)

/-- 'laws.FnExactTurnLine': WHATEVER THE INPUT: true; the input reads as it did. -/
def fnExactTurnLineSpec : ChangeSpec := { name := "fnExactTurnLine", fn := fun _ => fun
  | [d] => { results := [.lit (.bool true)], args := [d] }
  | _ => none }
def fnExactTurnLineRow : OpenClaim := { program := "ytangaaghdidglaa", sum := "eff2356a56d7f6a8de790789ef168c41e4e9585c0de26e15b7fabe0b2b331ca9", func := "loop.example/g03005/laws.FnExactTurnLine", spec := "fnExactTurnLine", apart := false }
def FnExactTurnLineSaid : Prop := fnExactTurnLineRow.holds Try.pinned (OpenSpec.ofChange fnExactTurnLineSpec)

/-- ITS FALSE NEIGHBOUR: 'it returns false'. Refute it at one input. -/
def fnExactTurnLineWrong : ChangeSpec := { name := "fnExactTurnLine", fn := fun _ => fun
  | [d] => { results := [.lit (.bool false)], args := [d] }
  | _ => none }
def FnExactTurnLineWrongFalsely : Prop := fnExactTurnLineRow.holds Try.pinned (OpenSpec.ofChange fnExactTurnLineWrong)

/-- 'laws.FnExactLinesMeet': WHATEVER THE INPUT: true; the input reads as it did. -/
def fnExactLinesMeetSpec : ChangeSpec := { name := "fnExactLinesMeet", fn := fun _ => fun
  | [d1, d2] => { results := [.lit (.bool true)], args := [d1, d2] }
  | _ => none }
def fnExactLinesMeetRow : OpenClaim := { program := "ytangaaghdidglaa", sum := "eff2356a56d7f6a8de790789ef168c41e4e9585c0de26e15b7fabe0b2b331ca9", func := "loop.example/g03005/laws.FnExactLinesMeet", spec := "fnExactLinesMeet", unfollowed := true, recurses := true, apart := false }
def FnExactLinesMeetSaid : Prop := fnExactLinesMeetRow.holds Try.pinned (OpenSpec.ofChange fnExactLinesMeetSpec)

/-- ITS FALSE NEIGHBOUR: 'it returns false'. Refute it at one input. -/
def fnExactLinesMeetWrong : ChangeSpec := { name := "fnExactLinesMeet", fn := fun _ => fun
  | [d1, d2] => { results := [.lit (.bool false)], args := [d1, d2] }
  | _ => none }
def FnExactLinesMeetWrongFalsely : Prop := fnExactLinesMeetRow.holds Try.pinned (OpenSpec.ofChange fnExactLinesMeetWrong)

/-- 'laws.FnExactEqualLines': WHATEVER THE INPUT: true; the input reads as it did. -/
def fnExactEqualLinesSpec : ChangeSpec := { name := "fnExactEqualLines", fn := fun _ => fun
  | [d1, d2] => { results := [.lit (.bool true)], args := [d1, d2] }
  | _ => none }
def fnExactEqualLinesRow : OpenClaim := { program := "ytangaaghdidglaa", sum := "eff2356a56d7f6a8de790789ef168c41e4e9585c0de26e15b7fabe0b2b331ca9", func := "loop.example/g03005/laws.FnExactEqualLines", spec := "fnExactEqualLines", apart := false }
def FnExactEqualLinesSaid : Prop := fnExactEqualLinesRow.holds Try.pinned (OpenSpec.ofChange fnExactEqualLinesSpec)

/-- ITS FALSE NEIGHBOUR: 'it returns false'. Refute it at one input. -/
def fnExactEqualLinesWrong : ChangeSpec := { name := "fnExactEqualLines", fn := fun _ => fun
  | [d1, d2] => { results := [.lit (.bool false)], args := [d1, d2] }
  | _ => none }
def FnExactEqualLinesWrongFalsely : Prop := fnExactEqualLinesRow.holds Try.pinned (OpenSpec.ofChange fnExactEqualLinesWrong)

/- THE SECOND FORM. 'bulk': how many values and letters a reading holds, each counted each time it is reached (what is shared counts as often as it is met; a slice's spare places count too). A statement '..UptoSaid' is the law's where the arguments, and the package variables that the reading takes, are together of bulk at most 1048576: NARROWER than '..Said'. Prove '..Said' where nothing that the law and all that it calls make is longer than what came in: it says more and counts as full. Else prove '..UptoSaid'. A law counts once. -/
mutual
def uptoBulk {H : Type} : DataW H → Nat
  | .lit (.string bytes) => bytes.length + 1
  | .lit _ => 1
  | .nil => 1
  | .ptr d => uptoBulk d + 1
  | .slice elems spare => uptoBulkAll elems + uptoBulkAll spare + 1
  | .agg parts => uptoBulkAll parts + 1
  | .iface _ d => uptoBulk d + 1
  | .map entries => uptoBulkEntries entries + 1
  | .held _ => 1
def uptoBulkAll {H : Type} : List (DataW H) → Nat
  | [] => 0
  | d :: r => uptoBulk d + uptoBulkAll r
def uptoBulkEntries {H : Type} : List (Lit × DataW H) → Nat
  | [] => 0
  | x :: r => uptoBulkEntry x + uptoBulkEntries r
def uptoBulkEntry {H : Type} : Lit × DataW H → Nat
  | (.string bytes, d) => bytes.length + uptoBulk d + 1
  | (_, d) => uptoBulk d + 1
 end
def uptoSmall : (H : Type) → List (DataW H) → Bool := fun _ ds => decide (uptoBulkAll ds ≤ 1048576)
def OpenSpec.upto (s : _root_.Go.ChangeSpec) : _root_.Go.OpenSpec := { _root_.Go.OpenSpec.ofChange s with cond := some uptoSmall }

/-- 'laws.FnLines', WHERE WHAT IT READS IS OF BULK AT MOST 1048576: true; the input reads as it did. -/
def fnLinesUptoRow : OpenClaim := { program := "ytangaaghdidglaa", sum := "eff2356a56d7f6a8de790789ef168c41e4e9585c0de26e15b7fabe0b2b331ca9", func := "loop.example/g03005/laws.FnLines", spec := "fnLines", unfollowed := true, recurses := true, apart := false, narrowed := true }
def FnLinesUptoSaid : Prop := fnLinesUptoRow.holds Try.pinned (OpenSpec.upto fnLinesSpec)

/-- 'laws.FnExactIsLine', WHERE WHAT IT READS IS OF BULK AT MOST 1048576: true; the input reads as it did. -/
def fnExactIsLineUptoRow : OpenClaim := { program := "ytangaaghdidglaa", sum := "eff2356a56d7f6a8de790789ef168c41e4e9585c0de26e15b7fabe0b2b331ca9", func := "loop.example/g03005/laws.FnExactIsLine", spec := "fnExactIsLine", unfollowed := true, recurses := true, apart := false, narrowed := true }
def FnExactIsLineUptoSaid : Prop := fnExactIsLineUptoRow.holds Try.pinned (OpenSpec.upto fnExactIsLineSpec)

/-- 'laws.FnExactSegmentsOf', WHERE WHAT IT READS IS OF BULK AT MOST 1048576: true; the input reads as it did. -/
def fnExactSegmentsOfUptoRow : OpenClaim := { program := "ytangaaghdidglaa", sum := "eff2356a56d7f6a8de790789ef168c41e4e9585c0de26e15b7fabe0b2b331ca9", func := "loop.example/g03005/laws.FnExactSegmentsOf", spec := "fnExactSegmentsOf", unfollowed := true, recurses := true, apart := false, narrowed := true }
def FnExactSegmentsOfUptoSaid : Prop := fnExactSegmentsOfUptoRow.holds Try.pinned (OpenSpec.upto fnExactSegmentsOfSpec)

/-- 'laws.FnExactIsSimple', WHERE WHAT IT READS IS OF BULK AT MOST 1048576: true; the input reads as it did. -/
def fnExactIsSimpleUptoRow : OpenClaim := { program := "ytangaaghdidglaa", sum := "eff2356a56d7f6a8de790789ef168c41e4e9585c0de26e15b7fabe0b2b331ca9", func := "loop.example/g03005/laws.FnExactIsSimple", spec := "fnExactIsSimple", unfollowed := true, recurses := true, apart := false, narrowed := true }
def FnExactIsSimpleUptoSaid : Prop := fnExactIsSimpleUptoRow.holds Try.pinned (OpenSpec.upto fnExactIsSimpleSpec)

/-- 'laws.FnExactLineSteps', WHERE WHAT IT READS IS OF BULK AT MOST 1048576: true; the input reads as it did. -/
def fnExactLineStepsUptoRow : OpenClaim := { program := "ytangaaghdidglaa", sum := "eff2356a56d7f6a8de790789ef168c41e4e9585c0de26e15b7fabe0b2b331ca9", func := "loop.example/g03005/laws.FnExactLineSteps", spec := "fnExactLineSteps", unfollowed := true, recurses := true, apart := false, narrowed := true }
def FnExactLineStepsUptoSaid : Prop := fnExactLineStepsUptoRow.holds Try.pinned (OpenSpec.upto fnExactLineStepsSpec)

/-- 'laws.FnExactTurnLine', WHERE WHAT IT READS IS OF BULK AT MOST 1048576: true; the input reads as it did. -/
def fnExactTurnLineUptoRow : OpenClaim := { program := "ytangaaghdidglaa", sum := "eff2356a56d7f6a8de790789ef168c41e4e9585c0de26e15b7fabe0b2b331ca9", func := "loop.example/g03005/laws.FnExactTurnLine", spec := "fnExactTurnLine", apart := false, narrowed := true }
def FnExactTurnLineUptoSaid : Prop := fnExactTurnLineUptoRow.holds Try.pinned (OpenSpec.upto fnExactTurnLineSpec)

/-- 'laws.FnExactLinesMeet', WHERE WHAT IT READS IS OF BULK AT MOST 1048576: true; the input reads as it did. -/
def fnExactLinesMeetUptoRow : OpenClaim := { program := "ytangaaghdidglaa", sum := "eff2356a56d7f6a8de790789ef168c41e4e9585c0de26e15b7fabe0b2b331ca9", func := "loop.example/g03005/laws.FnExactLinesMeet", spec := "fnExactLinesMeet", unfollowed := true, recurses := true, apart := false, narrowed := true }
def FnExactLinesMeetUptoSaid : Prop := fnExactLinesMeetUptoRow.holds Try.pinned (OpenSpec.upto fnExactLinesMeetSpec)

/-- 'laws.FnExactEqualLines', WHERE WHAT IT READS IS OF BULK AT MOST 1048576: true; the input reads as it did. -/
def fnExactEqualLinesUptoRow : OpenClaim := { program := "ytangaaghdidglaa", sum := "eff2356a56d7f6a8de790789ef168c41e4e9585c0de26e15b7fabe0b2b331ca9", func := "loop.example/g03005/laws.FnExactEqualLines", spec := "fnExactEqualLines", apart := false, narrowed := true }
def FnExactEqualLinesUptoSaid : Prop := fnExactEqualLinesUptoRow.holds Try.pinned (OpenSpec.upto fnExactEqualLinesSpec)

end Rows
end Go.Proofs.Ytangaaghdidglaa
