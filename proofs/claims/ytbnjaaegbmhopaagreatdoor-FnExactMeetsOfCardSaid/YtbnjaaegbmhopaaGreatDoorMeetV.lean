/- All meetings of a source: values; append of a meeting as a step of a drawn region. -/
import Derived.Test.YtbnjaaegbmhopaaGreatDoorPartV
import Derived.Test.YtbnjaaegbmhopaaGreatDoorHelpE
import Derived.Test.YtbnjaaegbmhopaaGreatDoorMeetTo
namespace Go.Proofs.YtbnjaaegbmhopaaGreatDoor
open Go.ChangeShapes Go.WideShapes Go.ChangeAt Go.RowKit
set_option linter.unusedVariables false

/-- The meeting of the i-th and the k-th feature, if any. -/
def mOne (l : List Feat) (i k : Nat) : List Mt3 := match l[i]?, l[k]? with
  | some f, some g => if meetF f g = 0 then [] else [(f.1, g.1, meetF f g)]
  | _, _ => []
/-- Those of the i-th one with d others behind it. -/
def mRow (l : List Feat) (i d : Nat) : List Mt3 := (List.range d).flatMap fun t => mOne l i (i + 1 + t)
/-- Those of the first n with all behind them. -/
def mAll (l : List Feat) (n : Nat) : List Mt3 := (List.range n).flatMap fun i => mRow l i (l.length - (i + 1))
def meetsV (l : List Feat) : List Mt3 := if srcV l = true then mAll l l.length else []
theorem mRow_zero (l : List Feat) (i : Nat) : mRow l i 0 = [] := rfl
theorem mAll_zero (l : List Feat) : mAll l 0 = [] := rfl
theorem mRow_step (l : List Feat) (i d : Nat) : mRow l i (d + 1) = mRow l i d ++ mOne l i (i + 1 + d) := by
  simp [mRow, List.range_succ, List.flatMap_append]
theorem mAll_step (l : List Feat) (n : Nat) : mAll l (n + 1) = mAll l n ++ mRow l n (l.length - (n + 1)) := by
  simp [mAll, List.range_succ, List.flatMap_append]
theorem mOne_no {l : List Feat} {i k : Nat} {f g : Feat} (hf : l[i]? = some f) (hg : l[k]? = some g) (h : meetF f g = 0) : mOne l i k = [] := by simp [mOne, hf, hg, h]
theorem mOne_yes {l : List Feat} {i k : Nat} {f g : Feat} (hf : l[i]? = some f) (hg : l[k]? = some g) (h : ¬ meetF f g = 0) : mOne l i k = [(f.1, g.1, meetF f g)] := by simp [mOne, hf, hg, h]
theorem mOne_len (l : List Feat) (i k : Nat) : (mOne l i k).length ≤ 1 := by
  unfold mOne
  split
  · split <;> simp
  · simp
theorem flat_len {α : Type} (f : Nat → List α) (m : Nat) (h : ∀ i, (f i).length ≤ m) : ∀ n, ((List.range n).flatMap f).length ≤ n * m
  | 0 => by simp
  | n + 1 => by
    have := flat_len f m h n
    have := h n
    rw [List.range_succ, List.flatMap_append, List.length_append, Nat.add_mul, Nat.one_mul]
    simp only [List.flatMap_cons, List.flatMap_nil, List.append_nil]
    omega
theorem mRow_len (l : List Feat) (i d : Nat) : (mRow l i d).length ≤ d := by
  have := flat_len (fun t => mOne l i (i + 1 + t)) 1 (fun t => mOne_len _ _ _) d
  simpa [mRow] using this
theorem mAll_len (l : List Feat) (n : Nat) : (mAll l n).length ≤ n * l.length :=
  flat_len _ _ (fun i => Nat.le_trans (mRow_len _ _ _) (Nat.sub_le _ _)) n
theorem meets_yes {l : List Feat} (h : srcV l = true) : meetsV l = mAll l l.length := by unfold meetsV; rw [if_pos h]
theorem meets_no {l : List Feat} (h : srcV l = false) : meetsV l = [] := by unfold meetsV; rw [h]; rfl
theorem meets_len (l : List Feat) : (meetsV l).length ≤ 256 := by
  cases h : srcV l
  · rw [meets_no h]; simp
  · rw [meets_yes h]
    have h16 := src_len h
    have h1 := mAll_len l l.length
    have h2 : l.length * l.length ≤ 16 * 16 := Nat.mul_le_mul h16 h16
    omega
theorem mAll_256 {l : List Feat} (h : l.length ≤ 16) {n d : Nat} (hn : n ≤ l.length) (hd : d ≤ l.length) : (mAll l n ++ mRow l n d).length ≤ 1000 := by
  have h1 := mAll_len l n
  have h2 : n * l.length ≤ 16 * 16 := Nat.mul_le_mul (by omega) h
  have h3 := mRow_len l n d
  rw [List.length_append]
  omega
/-- A meeting's cells. -/
abbrev mC (x : Mt3) : Array Value := #[.int .i64 x.1, .int .i64 x.2.1, .int .i64 x.2.2]
theorem stepMt (w : World) {o : Oper} {a : Act} {K : Act → World → Prop} {Q : Exit → Act → World → Prop} (s x : Operand)
    (ho : o.op = .call { callee := .builtin .append, args := #[s, x], argTypes := #[47, 47] })
    (base : Nat) (v : Value) (l : List Mt3) (hv : a.eval s = v) (hown : OwnE 3 encMeet w base 93 v l)
    (B : Nat) (A : Option Addr) (m c : Nat) (l2 : List Mt3) (hx : a.eval x = .slice A m c) (hm : m = l2.length) (hs : SeesE 3 encMeet w B A l2) (h63 : l.length + l2.length ≤ 1099511627776) (hbase : base ≤ w.heap.size)
    (h : ∀ A' c' L w', Hid (L = l ++ l2) → L.length ≤ l.length + l2.length → l.length + l2.length ≤ L.length → OwnE 3 encMeet w' base 93 (.slice A' L.length c') L → Below base w w' → K (a.put o.dst (.slice A' L.length c')) w') :
    o.wp Tryz.prog a w K Q := by
  obtain ⟨i, hi, hz, h1, h2⟩ := info_parts infoMeet
  exact wp_appE w elMeet s x _ ho _ i _ 24 Tryz.underlying47 hi hz h1 h2 rfl base v l hv hown B A m c l2 hx hm hs h63 (by decide) hbase h
end Go.Proofs.YtbnjaaegbmhopaaGreatDoor
