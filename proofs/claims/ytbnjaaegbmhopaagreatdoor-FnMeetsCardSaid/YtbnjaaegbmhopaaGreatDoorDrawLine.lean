/- The model's draws of lines: rows of points of the call's own. -/
import Derived.Test.YtbnjaaegbmhopaaGreatDoorSeg
import Derived.Test.YtbnjaaegbmhopaaGreatDoorPad
import Derived.Test.YtbnjaaegbmhopaaGreatDoorHelpE
import Derived.Deep.LoopGhost
import Derived.Deep.DeepCutAuto
namespace Go.Proofs.YtbnjaaegbmhopaaGreatDoor
open Go.ChangeShapes Go.WideShapes Go.ChangeAt Go.RowKit
set_option linter.unusedVariables false

/-- A cursor p, and a row of points of the call's own. -/
def Rowed (p : Nat) (w0 w : World) (v : Value) (L : List (Int × Int)) : Prop :=
  p < w0.heap.size ∧ Cur w p ∧ w0.grownBy w (some p) ∧ OwnE 2 encPoint w w0.heap.size 33 v L
theorem grownB {w0 w w' : World} {p B : Nat} (h : w0.grownBy w (some p)) (hb : Below B w w') (hB : w0.heap.size ≤ B) : w0.grownBy w' (some p) :=
  ⟨hb.os.trans h.os, hb.tape.trans h.tape, hb.output.trans h.output, Nat.le_trans h.size hb.size, fun k hk hne => (hb.block k (Nat.lt_of_lt_of_le hk hB)).trans (h.block k hk hne)⟩
section
variable {p : Nat} {w0 w w' : World} {v v' : Value} {L L' : List (Int × Int)} {x y : Int}
theorem Rowed.next (h : Rowed p w0 w v L) (hc : Cur w' p) (hg : w.grownBy w' (some p)) : Rowed p w0 w' v L := by
  refine ⟨h.1, hc, grown_trans h.2.2.1 hg, h.2.2.2.kept hg ?_⟩
  match hv : v.ownBlock with
  | none => exact .inl rfl
  | some g =>
    refine .inr fun e => ?_
    have h2 := (h.2.2.2.lt g hv).1
    have h1 := h.1
    injection e with e
    omega
theorem Rowed.bel {B : Nat} (h : Rowed p w0 w v L) (hb : Below B w w') (hB : w0.heap.size ≤ B) (ho : OwnE 2 encPoint w' w0.heap.size 33 v' L') : Rowed p w0 w' v' L' :=
  ⟨h.1, cur_below h.2.1 hb (Nat.lt_of_lt_of_le h.1 hB), grownB h.2.2.1 hb hB, ho⟩
theorem Rowed.al (h : Rowed p w0 w v L) (o : Obj) : Rowed p w0 (w.alloc o) v L := h.next (cur_alloc h.2.1 o) (grown_alloc (grown_refl _ _) o)
end
/-- A new row of one point. -/
theorem ownE_one {α : Type} {n : Nat} {enc : α → List Value} (hE : IsEl n enc) (w : World) (B : Nat) (T : TypeId) (cs : Array Value) (x : α) (hcs : cs.toList = enc x) (hB : B ≤ w.heap.size) :
    OwnE n enc (w.alloc (.cells cs T)) B T (.slice (some ⟨w.heap.size, 0, none⟩) 1 1) [x] := by
  have hl : cs.size = n := by rw [← Array.length_toList, hcs, (hE.2 x).1]
  exact RowE.own (L := [x]) hE ⟨cs, heap_alloc_new w _, Nat.le_refl _, by decide, by simp [hl], by
    have e : cellsE enc [x] = enc x := by simp [cellsE]
    rw [e, ← hcs]; exact List.take_of_length_le (by simp [hl])⟩ hB
theorem seesE_at {α : Type} {n : Nat} {enc : α → List Value} (hE : IsEl n enc) (w : World) (b : Nat) (hb : b = w.heap.size) (x : α) (cs : Array Value) (T : TypeId) (B : Nat) (hB : b < B) (hcs : cs.toList = enc x) : SeesE n enc (w.alloc (.cells cs T)) B (some ⟨b, 0, none⟩) [x] := by
  subst hb; exact seesE_new hE w x cs T B hB hcs
/-- A row of at most lim points was drawn. -/
def DRow (p lim : Nat) (w : World) (e : Ending) (w' : World) : Prop :=
  ∃ A c l, e = .returned (.slice A l.length c) ∧ 1 ≤ l.length ∧ l.length ≤ lim ∧ Rowed p w w' (.slice A l.length c) l
theorem lastL {l : List (Int × Int)} (h : 1 ≤ l.length) : ∃ k x y, l.length = k + 1 ∧ l[k]? = some (x, y) := by
  refine ⟨l.length - 1, (l[l.length - 1]).1, (l[l.length - 1]).2, by omega, ?_⟩
  rw [List.getElem?_eq_getElem (by omega)]
set_option maxRecDepth 100000 in
set_option maxHeartbeats 4000000 in
theorem l6Draw_any (p : Nat) (w : World) (hc : Cur w p) :
    Calls Tryz.prog 154 #[.pointer (some ⟨p, 0, none⟩)] w (DRow p 6 w) := by
  have HC := Lib.hid hc
  have hp := cur_lt hc
  clear hc
  go_enter Tryz.func154, Tryz.ntmps154
  go_wp2_with fail
  refine (l4Draw_any p _ HC.out).mono ?_
  rintro e w1 ⟨⟨x, y, -, -, -, -, rfl⟩, hc1, hg1⟩
  have HR1 : Hid (Rowed p w (w1.alloc (.cells #[.int .i64 x, .int .i64 y] 33)) (.slice (some ⟨w1.heap.size, 0, none⟩) 1 1) [(x, y)]) := Lib.hid ⟨hp, cur_alloc hc1 _, grown_alloc hg1 _, ownE_one elPoint w1 w.heap.size _ _ (x, y) rfl hg1.size⟩
  clear hc1 hg1
  go_wp2_with fail
  refine (below_any p 5 _ (by decide) (by decide) HR1.out.2.1).mono ?_
  rintro e w2 ⟨⟨n, hn0, hn1, rfl⟩, hc2, hg2⟩
  have HR2 := Lib.hid (HR1.out.next hc2 hg2)
  clear hc2 hg2 HR1
  obtain ⟨m, rfl⟩ : ∃ m : Nat, n = m := ⟨n.toNat, by omega⟩
  have hw : IntKind.i64.wrap (1 + (m : Int)) = ((m + 1 : Nat) : Int) := by rw [IntWalk.i64_in _ (by omega)]; omega
  go_wp2
  go_loopw [3, 4] (fun v i wr => ∃ (A : Option Addr) (c : Nat) (L : List (Int × Int)) (m : Nat), v = .slice A L.length c ∧ i = .int .i64 (m : Int) ∧ L.length + m ≤ 6 ∧ 1 ≤ L.length ∧ Hid (Rowed p w wr v L)) (fun _ i _ => (intOf i).toNat)
  case atStart => exact ⟨_, _, [(x, y)], m + 1, rfl, by go_num, by simp; omega, by simp, HR2⟩
  case round =>
    obtain ⟨A1, c1, L, m1, rfl, rfl, h6, h1, HR⟩ := hrel
    clear HR2
    cases m1 with
    | zero =>
      go_wp2
      go_ret
      exact ⟨A1, c1, L, rfl, h1, by omega, HR.out⟩
    | succ m2 =>
      obtain ⟨k, x1, y1, hk, hx⟩ := lastL h1
      have hki : IntKind.i64.wrap ((L.length : Int) - 1) = (k : Int) := by rw [IntWalk.i64_in _ (by omega)]; omega
      have hkl : (k : Int) < (L.length : Int) := by omega
      obtain ⟨M, hM⟩ : ∃ M : Int, ((m2 + 1 : Nat) : Int) = M := ⟨_, rfl⟩
      have hmp : (0 : Int) < M := by omega
      have hwM : IntKind.i64.wrap (M - 1) = (m2 : Int) := by rw [IntWalk.i64_in _ (by omega)]; omega
      have HM : Hid (M.toNat = m2 + 1) := Lib.hid (by omega)
      rw [hM]
      clear hM
      have HK := Lib.hid hk; clear hk
      obtain ⟨b, off, hA, hbl, -⟩ := HR.out.2.2.2.sees elPoint k _ hx
      subst hA
      obtain ⟨q0, q1⟩ := cellsPoint (HR.out.2.2.2.sees elPoint) hx
      have HX := Lib.hid hx
      have HP := Lib.hid ((Pad.start HR.out.2.1).more 33 (PtC x1 y1))
      clear hx
      go_upto_region 6 with fail
      go_cut [6] (fun s6 wx => Hid (∃ b6 z1 z2, s6 = .pointer (some ⟨b6, 0, none⟩) ∧ Pad p wr wx [(wr.heap.size, PtC x1 y1), (b6, PtC z1 z2)]))
      case first =>
        have HP : Hid (Pad p wr (wr.alloc (.cells (PtC x1 y1) 33)) [(wr.heap.size, PtC x1 y1)]) := HP
        have k0 := HP.out.drew.c2 0 rfl
        go_region_held3 (fun w' => w'.cell? ⟨wr.heap.size, 0, none⟩ = some (.int .i64 x1) ∧ w'.cell? ⟨wr.heap.size, 1, none⟩ = some (.int .i64 y1)) (first | with_reducible exact HP8.out.c2 0 rfl | with_reducible exact (HP8.out.al _).c2 0 rfl | with_reducible exact HP7.out.c2 0 rfl | with_reducible exact (HP7.out.al _).c2 0 rfl | with_reducible exact k0 | with_reducible exact (HP.out.al _).drew.c2 0 rfl | with_reducible exact (HP8.out.set2 1 0 rfl _ _).c2 0 rfl) (first
          | (go_at_call 47; refine (below_any p _ _ (by decide) (by decide) (by first | exact HP7.out.2.1 | exact (HP7.out.al _).2.1 | exact HP.out.drew.2.1 | exact (HP.out.al _).drew.2.1)).mono ?_; rintro e w9 ⟨⟨n9, -, -, rfl⟩, hc9, hg9⟩; (first | have HP8 := Lib.hid (HP7.out.next hc9 hg9) | have HP8 := Lib.hid ((HP7.out.more _ _).next hc9 hg9) | have HP7 := Lib.hid (HP.out.drew.next hc9 hg9) | have HP7 := Lib.hid ((HP.out.moreAt (wr.heap.size + 1) (by simp) _ _).drew.next hc9 hg9)); clear hc9 hg9; (first | (obtain ⟨u0, u1⟩ := HP8.out.c2 1 rfl; obtain ⟨f0, f1⟩ := HP8.out.f2 1 rfl) | skip))
          | (go_at_call 138; refine (smin_any _ _ _).mono ?_; rintro e w5 ⟨rfl, rfl⟩) | fail)
        all_goals
          go_wp2_with fail
          go_meet
          first
            | exact Lib.hid ⟨_, _, _, rfl, HP8.out.more _ _⟩
            | exact Lib.hid ⟨_, _, _, rfl, HP8.out.set2 1 0 rfl _ _⟩
      case rest =>
      obtain ⟨b6, z1, z2, rfl, hp2⟩ := hcut.out
      have HP2 := Lib.hid hp2
      clear hp2 hcut HP
      have n1 := HP2.out.ne 0 1 rfl rfl (by decide)
      have HR2 := Lib.hid (HR.out.next HP2.out.2.1 HP2.out.2.2.1)
      obtain ⟨k0, k1⟩ := HP2.out.c2 0 rfl
      obtain ⟨k2, k3⟩ := HP2.out.c2 1 rfl
      obtain ⟨f2, f3⟩ := HP2.out.f2 1 rfl
      have hb6 := HP2.out.lt (j := 1) rfl
      by_cases h0 : z1 = x1
      · by_cases h1' : z2 = y1
        · subst h0 h1'
          have HR3 := Lib.hid (HR.out.next (HP2.out.set 1 0 rfl (.int .i64 (wrap64 (z1 + 1)))).2.1 (HP2.out.set 1 0 rfl (.int .i64 (wrap64 (z1 + 1)))).2.2.1)
          have hle : w.heap.size ≤ (wc.setCell ⟨b6, 0, none⟩ (.int .i64 (wrap64 (z1 + 1)))).heap.size := HR3.out.2.2.1.size
          have hone : L.length + [(wrap64 (z1 + 1), z2)].length ≤ 1099511627776 := by simp; omega
          go_wp2_with (at_builtin; refine appPoint _ rfl _ _ rfl w.heap.size _ L rfl (HR3.out.2.2.2.alloc _) (wc.heap.size + 1) (some ⟨wc.heap.size, 0, none⟩) 1 1 [(wrap64 (z1 + 1), z2)] rfl rfl (seesE_at elPoint (wc.setCell ⟨b6, 0, none⟩ (.int .i64 (wrap64 (z1 + 1)))) wc.heap.size (by simp) (wrap64 (z1 + 1), z2) _ _ _ (Nat.lt_succ_self _) rfl) hone (Nat.le_trans hle (by simp)) ?_; intro A4 c4 L4 w4 hL4 g1 g2 ho4 hb4)
          go_roundw
          case rel => exact ⟨A4, c4, L4, m2, rfl, by go_num, by have := g1; simp at g1 g2; omega, by simp at g2; omega, Lib.hid (HR3.out.bel (((Below.refl w.heap.size (wc.setCell ⟨b6, 0, none⟩ (.int .i64 (wrap64 (z1 + 1))))).alloc hle _).trans hb4) (Nat.le_refl _) ho4)⟩
          case measure => simp [intOf]; have := HM.out; omega
        · subst h0
          have hle : w.heap.size ≤ (wc).heap.size := HR2.out.2.2.1.size
          have hone : L.length + [(z1, z2)].length ≤ 1099511627776 := by simp; omega
          go_wp2_with (at_builtin; refine appPoint _ rfl _ _ rfl w.heap.size _ L rfl (HR2.out.2.2.2.alloc _) (wc.heap.size + 1) (some ⟨wc.heap.size, 0, none⟩) 1 1 [(z1, z2)] rfl rfl (seesE_at elPoint (wc) wc.heap.size (by simp) (z1, z2) _ _ _ (Nat.lt_succ_self _) rfl) hone (Nat.le_trans hle (by simp)) ?_; intro A4 c4 L4 w4 hL4 g1 g2 ho4 hb4)
          go_roundw
          case rel => exact ⟨A4, c4, L4, m2, rfl, by go_num, by have := g1; simp at g1 g2; omega, by simp at g2; omega, Lib.hid (HR2.out.bel (((Below.refl w.heap.size (wc)).alloc hle _).trans hb4) (Nat.le_refl _) ho4)⟩
          case measure => simp [intOf]; have := HM.out; omega
      · skip
        have hle : w.heap.size ≤ (wc).heap.size := HR2.out.2.2.1.size
        have hone : L.length + [(z1, z2)].length ≤ 1099511627776 := by simp; omega
        go_wp2_with (at_builtin; refine appPoint _ rfl _ _ rfl w.heap.size _ L rfl (HR2.out.2.2.2.alloc _) (wc.heap.size + 1) (some ⟨wc.heap.size, 0, none⟩) 1 1 [(z1, z2)] rfl rfl (seesE_at elPoint (wc) wc.heap.size (by simp) (z1, z2) _ _ _ (Nat.lt_succ_self _) rfl) hone (Nat.le_trans hle (by simp)) ?_; intro A4 c4 L4 w4 hL4 g1 g2 ho4 hb4)
        go_roundw
        case rel => exact ⟨A4, c4, L4, m2, rfl, by go_num, by have := g1; simp at g1 g2; omega, by simp at g2; omega, Lib.hid (HR2.out.bel (((Below.refl w.heap.size (wc)).alloc hle _).trans hb4) (Nat.le_refl _) ho4)⟩
        case measure => simp [intOf]; have := HM.out; omega
end Go.Proofs.YtbnjaaegbmhopaaGreatDoor
