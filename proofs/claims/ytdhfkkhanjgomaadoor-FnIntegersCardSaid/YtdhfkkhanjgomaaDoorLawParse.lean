/- The law FnExactParseInt: its walk, for every string. -/
import Derived.Test.YtdhfkkhanjgomaaDoorSParse
import Derived.Stop.LaidErr
namespace Go.Proofs.YtdhfkkhanjgomaaDoor
open Go.ChangeShapes Go.WideShapes Go.ChangeAt Go.RowKit
set_option linter.unusedVariables false

theorem gSyn : Tryd.prog.globalNamed "strconv.ErrSyntax" = some 0 := by kernel_rfl
theorem gRng : Tryd.prog.globalNamed "strconv.ErrRange" = some 1 := by kernel_rfl
theorem tSyn : (Tryd.prog.globals[0]?).map (·.type) = some 52 := by kernel_rfl
theorem tRng : (Tryd.prog.globals[1]?).map (·.type) = some 52 := by kernel_rfl
theorem cellsES : Tryd.prog.cellsOf 88 = 1 := by kernel_rfl
theorem cellsS : Tryd.prog.cellsOf 9 = 1 := by kernel_rfl
theorem starES : "*" ++ "errors.errorString" = "*errors.errorString" := by decide
theorem rowES (u : TypeId) (h : Tryd.prog.typeName? 3 u = some "*errors.errorString") : u = 86 :=
  typeName_ptr_named (nm := "errors.errorString") (by rw [starES]; kernel_rfl) (by kernel_rfl) (by decide) u (by rw [starES]; exact h)
theorem sent_of {r : List (String × DataW Unit)} {w : World} (h : laidMet Tryd.prog (("strconv.ErrRange", Rows.laid_strconv_ErrRange) :: ("strconv.ErrSyntax", Rows.laid_strconv_ErrSyntax) :: r) w) : Sent w := by
  obtain ⟨a0, s0, hv0, -, -, -⟩ := laid_sentinel h gRng tRng Tryd.underlying52 rowES Tryd.underlying86 Tryd.underlying88 rfl rfl Tryd.underlying9 cellsES cellsS
  obtain ⟨a1, s1, hv1, -, -, -⟩ := laid_sentinel h.tail gSyn tSyn Tryd.underlying52 rowES Tryd.underlying86 Tryd.underlying88 rfl rfl Tryd.underlying9 cellsES cellsS
  exact ⟨_, _, (by have h0 := World.var?_cell gSyn hv1 0; simpa using h0), Or.inr ⟨_, _, rfl⟩, (by have h0 := World.var?_cell gRng hv0 0; simpa using h0), Or.inr ⟨_, _, rfl⟩⟩
theorem sent_below {w w' : World} (h : Sent w) (hb : Below w.heap.size w w') : Sent w' := by
  obtain ⟨e0, e1, c0, k0, c1, k1⟩ := h
  exact ⟨e0, e1, (hb.cell (World.block_lt_of_cell? w _ c0)).trans c0, k0, (hb.cell (World.block_lt_of_cell? w _ c1)).trans c1, k1⟩

theorem law_parse (s : ByteArray) (hs : s.size ≤ maxLen) (w : World) (ht : PowTab w) (hse : Sent w) :
    Calls Tryd.prog 5 #[.string s] w fun e w' => e = .returned (.bool true) ∧ Below w.heap.size w w' := by
  by_cases hbig : 1048576 < s.size
  · unfold maxLen at hs
    go_enter Tryd.func5, Tryd.ntmps5
    go_wp2
    go_ret
    exact ⟨rfl, Below.refl _ _⟩
  · go_enter Tryd.func5, Tryd.ntmps5
    go_wp2_with fail
    refine (sparse_any s hs _).mono ?_
    rintro e w1 ⟨⟨n, hn, hd, rfl⟩ | ⟨hno, rfl⟩, hb1⟩
    · have ht1 := powTab_below ht hb1
      have es : s = ⟨(Lib.decDigits n).toArray⟩ := by rw [hd]
      clear hd
      subst es
      go_wp2_with (go_at_call 8; refine (parse_yes n hn _ ht1).mono ?_; rintro e w2 ⟨rfl, hb2⟩)
      go_ret
      exact ⟨rfl, hb1.trans (hb2.mono hb1.size)⟩
    · have ht1 := powTab_below ht hb1
      have hs1 := sent_below hse hb1
      have HN := Lib.hid hno; clear hno
      go_wp2_with (go_at_call 8; refine (parse_no s (by omega) HN.out _ ht1 hs1).mono ?_; rintro e w2 ⟨rfl, hb2⟩)
      go_ret
      exact ⟨rfl, hb1.trans (hb2.mono hb1.size)⟩
theorem law_parse_laid (W : World) (s : ByteArray) (hs : s.size ≤ maxLen) (hr : s.size ≤ 140737488355328) (hL : laidMet Tryd.prog Rows.fnExactParseIntRow.laid W) :
    Calls Tryd.prog 5 #[.string s] W fun e w' => e = .returned (.bool true) ∧ Below W.heap.size W w' :=
  law_parse s hs W (powTab_of hL.tail.tail) (sent_of hL.tail.tail.tail)
end Go.Proofs.YtdhfkkhanjgomaaDoor
