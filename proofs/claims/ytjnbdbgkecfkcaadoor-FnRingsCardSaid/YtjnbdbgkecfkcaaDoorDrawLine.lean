/- The model's draws of lines: rows of points of the call's own. -/
import Derived.Test.YtjnbdbgkecfkcaaDoorSeg
import Derived.Test.YtjnbdbgkecfkcaaDoorPad
import Derived.Test.YtjnbdbgkecfkcaaDoorHelpE
import Derived.Deep.LoopGhost
import Derived.Deep.DeepCutAuto
namespace Go.Proofs.YtjnbdbgkecfkcaaDoor
open Go.ChangeShapes Go.WideShapes Go.ChangeAt Go.RowKit
set_option linter.unusedVariables false

/-- A cursor p, and a row of points of the call's own. -/
def Rowed (p : Nat) (w0 w : World) (v : Value) (L : List (Int × Int)) : Prop :=
  p < w0.heap.size ∧ Cur w p ∧ w0.grownBy w (some p) ∧ OwnE 2 encPoint w w0.heap.size 33 v L
theorem grownB {w0 w w' : World} {p B : Nat} (h : w0.grownBy w (some p)) (hb : Below B w w') (hB : w0.heap.size ≤ B) : w0.grownBy w' (some p) :=
  ⟨hb.os.trans h.os, hb.tape.trans h.tape, hb.output.trans h.output, Nat.le_trans h.size hb.size, fun k hk hne => (hb.block k (Nat.lt_of_lt_of_le hk hB)).trans (h.block k hk hne)⟩
section
variable {p : Nat} {w0 w w' : World} {v v' : Value} {L L' : List (Int × Int)} {x y : Int}
theorem Rowed.next (h : Rowed p w0 w v L) (hc : Cur w' p) (hg : w.grownBy w' (some p)) : Rowed p w0 w' v L := by
  refine ⟨h.1, hc, grown_trans h.2.2.1 hg, h.2.2.2.kept hg ?_⟩
  match hv : v.ownBlock with
  | none => exact .inl rfl
  | some g =>
    refine .inr fun e => ?_
    have h2 := (h.2.2.2.lt g hv).1
    have h1 := h.1
    injection e with e
    omega
theorem Rowed.bel {B : Nat} (h : Rowed p w0 w v L) (hb : Below B w w') (hB : w0.heap.size ≤ B) (ho : OwnE 2 encPoint w' w0.heap.size 33 v' L') : Rowed p w0 w' v' L' :=
  ⟨h.1, cur_below h.2.1 hb (Nat.lt_of_lt_of_le h.1 hB), grownB h.2.2.1 hb hB, ho⟩
theorem Rowed.al (h : Rowed p w0 w v L) (o : Obj) : Rowed p w0 (w.alloc o) v L := h.next (cur_alloc h.2.1 o) (grown_alloc (grown_refl _ _) o)
end
/-- A new row of one point. -/
theorem ownE_one {α : Type} {n : Nat} {enc : α → List Value} (hE : IsEl n enc) (w : World) (B : Nat) (T : TypeId) (cs : Array Value) (x : α) (hcs : cs.toList = enc x) (hB : B ≤ w.heap.size) :
    OwnE n enc (w.alloc (.cells cs T)) B T (.slice (some ⟨w.heap.size, 0, none⟩) 1 1) [x] := by
  have hl : cs.size = n := by rw [← Array.length_toList, hcs, (hE.2 x).1]
  exact RowE.own (L := [x]) hE ⟨cs, heap_alloc_new w _, Nat.le_refl _, by decide, by simp [hl], by
    have e : cellsE enc [x] = enc x := by simp [cellsE]
    rw [e, ← hcs]; exact List.take_of_length_le (by simp [hl])⟩ hB
theorem seesE_at {α : Type} {n : Nat} {enc : α → List Value} (hE : IsEl n enc) (w : World) (b : Nat) (hb : b = w.heap.size) (x : α) (cs : Array Value) (T : TypeId) (B : Nat) (hB : b < B) (hcs : cs.toList = enc x) : SeesE n enc (w.alloc (.cells cs T)) B (some ⟨b, 0, none⟩) [x] := by
  subst hb; exact seesE_new hE w x cs T B hB hcs
/-- A row of at most lim points was drawn. -/
def DRow (p lim : Nat) (w : World) (e : Ending) (w' : World) : Prop :=
  ∃ A c l, e = .returned (.slice A l.length c) ∧ 1 ≤ l.length ∧ l.length ≤ lim ∧ Rowed p w w' (.slice A l.length c) l
theorem lastL {l : List (Int × Int)} (h : 1 ≤ l.length) : ∃ k x y, l.length = k + 1 ∧ l[k]? = some (x, y) := by
  refine ⟨l.length - 1, (l[l.length - 1]).1, (l[l.length - 1]).2, by omega, ?_⟩
  rw [List.getElem?_eq_getElem (by omega)]
end Go.Proofs.YtjnbdbgkecfkcaaDoor
