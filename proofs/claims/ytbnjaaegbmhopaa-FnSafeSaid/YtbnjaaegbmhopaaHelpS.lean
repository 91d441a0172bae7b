/- The laws' own helpers over slices of slices. -/
import Derived.Test.YtbnjaaegbmhopaaLs
import Derived.Test.YtbnjaaegbmhopaaHelpE
import Derived.LoopTactic
import Derived.Deep.LoopGhost
import Derived.Deep.RegionHeld3
import Derived.Deep.DeepCutAuto
namespace Go.Proofs.Ytbnjaaegbmhopaa
open Go.ChangeShapes Go.WideShapes Go.ChangeAt Go.RowKit
set_option linter.unusedVariables false

theorem infoSlPoint : (Try.prog.info? 47).map (fun i => (i.zero, i.size, i.bytes)) = some (some (.slice none 0 0), 1, 24) := by kernel_rfl
/-- append onto the call's own slices: one more, made anew behind what is held. -/
theorem appPointS1 {B C : Nat} {v : Value} {l : List (List (Int × Int))} {ops : Array Oper} {rest : List Oper} {o : Oper} {act : Act} {Q : Exit → Act → World → Prop} (w1 : World) (hgd : o.guard = none) (s x : Operand)
    (ho : o.op = .call { callee := .builtin .append, args := #[s, x], argTypes := #[58, 58] })
    (hv : act.eval s = v) (hH : HeldLs 2 encPoint 25 47 w1 B C v l) {A1 : Option Addr} {c1 : Nat} {L : List (Int × Int)} (hP : OwnE 2 encPoint w1 C 25 (.slice A1 L.length c1) L)
    (hx : act.eval x = .slice (some ⟨w1.heap.size, 0, none⟩) 1 1) (h63 : l.length + 1 ≤ 1099511627776) (hbase : B ≤ C)
    (h : ∀ A' c' L' w', Hid (L' = l ++ [L]) → L'.length ≤ l.length + 1 → l.length + 1 ≤ L'.length → OwnLs 2 encPoint 25 47 w' B (.slice A' L'.length c') L' → Below B (w1.alloc (.cells #[.slice A1 L.length c1] 47)) w' → wpList Try.prog ops Q rest (act.put o.dst (.slice A' L'.length c')) w') :
    wpList Try.prog ops Q (o :: rest) act (w1.alloc (.cells #[.slice A1 L.length c1] 47)) := by
  obtain ⟨xs, h1, h2, h3, h4, h5⟩ := hH
  have h1' := h1.alloc (.cells #[.slice A1 L.length c1] 47)
  have h2' := h2.belowAll ((Below.refl _ _).alloc (Nat.le_refl _) (.cells #[.slice A1 L.length c1] 47))
  obtain ⟨i, hi, hz, g1, g2⟩ := info_parts infoSlPoint
  obtain ⟨v', w', hrun, q1, q2, q3⟩ := run_appE (P := Try.prog) (w1.alloc (.cells #[.slice A1 L.length c1] 47)) elLs 58 o.type 47 i _ 24 Try.underlying58 hi hz g1 g2 rfl B v xs h1' (w1.heap.size + 1) _ 1 1 [(A1, L.length, c1)] rfl
    (seesE_new elLs w1 _ _ _ _ (Nat.lt_succ_self _) rfl) (by rw [h2.1]; exact h63) (by decide) (by simp; omega)
  have hone : ∀ (j : Nat) y b, ([(A1, L.length, c1)] : List LsC)[j]? = some y → (slC y).ownBlock = some b → C ≤ b := fun j y b hy hb' => by
    match j, hy with
    | 0, hy => simp at hy; subst hy; exact (hP.lt b hb').1
  have hr : RowsLs 2 encPoint 25 w' B v' (xs ++ [(A1, L.length, c1)]) (l ++ [L]) := (h2'.app (rowsLs_one (x := (A1, L.length, c1)) (C := C) ((hP.mono hbase).alloc _) (fun b hb' => (hP.lt b hb').1) (fun g hg => h3 g hg))
    (fun i j x y b hx hy hb he => by have := h4 i x b hx hb; have := hone j y b hy he; omega)).grown q2 q3
  refine wpList_plain hgd fun K hK => ?_
  unfold Oper.wp execOp
  simp only [ho, resolve, invoke, builtin, Sem.run_bind, Sem.run_pure, Result.andThen_ok, List.map_toArray, List.map_cons, List.map_nil, hv, hx, hrun]
  have hO : OwnLs 2 encPoint 25 47 w' B v' (l ++ [L]) := ⟨_, q1, hr⟩
  obtain ⟨A', c', rfl, _, _⟩ := hO.form
  exact hK _ _ (h A' c' _ w' (Lib.hid rfl) (by simp) (by simp) hO ((Below.refl _ _).grown q2 (by simp; omega) fun g hg => (h1'.lt g hg).1))
end Go.Proofs.Ytbnjaaegbmhopaa
