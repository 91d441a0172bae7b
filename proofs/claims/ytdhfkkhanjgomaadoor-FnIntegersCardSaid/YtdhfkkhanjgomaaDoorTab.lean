/- The library's table of powers of ten, as the statements list it, is what strconv.Itoa's contract asks for; it stays as it is while nothing that existed is written. -/
import Derived.Test.YtdhfkkhanjgomaaDoorRows
import Derived.Test.YtdhfkkhanjgomaaDoorShelf
import Derived.WalkKit
import Derived.ProofKit
import Derived.OpenShut
import Derived.Lib.LaidTab
import Derived.WalkSmall
import Derived.Below
import Derived.Stop.LaidErr
import Derived.LaidMore
namespace Go.Proofs.YtdhfkkhanjgomaaDoor
open Go.ChangeShapes Go.WideShapes Go.ChangeAt Go.RowKit

theorem gPow : Tryd.prog.globalNamed "internal/strconv.uint64pow10" = some 2 := by kernel_rfl
/-- The table as strconv.Itoa reads it. -/
abbrev PowTab (w : World) : Prop := Lib.TabIs Tryd.prog w "internal/strconv.uint64pow10" .u64 Lib.pow10Tab
theorem powTab_lt {w : World} (h : PowTab w) : 2 < w.heap.size := by
  have hc := World.var?_cell gPow h 0
  have : (Lib.pow10Tab.map fun z => Value.int .u64 z).toArray[0]? = some (.int .u64 1) := by kernel_rfl
  rw [this] at hc
  exact World.block_lt_of_cell? w _ hc
theorem powTab_below {w w' : World} (h : PowTab w) (hb : Below w.heap.size w w') : PowTab w' :=
  var?_below hb gPow (powTab_lt h) h
theorem tPow : (Tryd.prog.globals[2]?).map (·.type) = some 80 := by kernel_rfl
theorem powTab_of {r : List (String × DataW Unit)} {w : World} (h : laidMet Tryd.prog (("internal/strconv.uint64pow10", Rows.laid_internal_strconv_uint64pow10) :: r) w) : PowTab w :=
  Lib.tabIs_of_head (t := 80) (e := 67) (n := 20) gPow tPow Tryd.underlying80 Tryd.underlying67 (by kernel_rfl) (by kernel_rfl) h
end Go.Proofs.YtdhfkkhanjgomaaDoor
