/- Lines that never cross: the model's draws. -/
import Derived.Test.YtbnjaaegbmhopaaDrawLine2
import Derived.Test.YtbnjaaegbmhopaaHelpS
namespace Go.Proofs.Ytbnjaaegbmhopaa
open Go.ChangeShapes Go.WideShapes Go.ChangeAt Go.RowKit
set_option linter.unusedVariables false

/-- Some lists of points were drawn: all in new memory. -/
def DLs (p : Nat) (w : World) (e : Ending) (w' : World) : Prop :=
  ∃ A c O, e = .returned (.slice A O.length c) ∧ O.length ≤ 3 ∧ Hid (∀ q ∈ O, q.length ≤ 6) ∧ OwnLs 2 encPoint 25 47 w' w.heap.size (.slice A O.length c) O ∧ Cur w' p ∧ w.grownBy w' (some p)
set_option maxRecDepth 100000 in
set_option maxHeartbeats 4000000 in
theorem l12Others_any (p : Nat) (w : World) (hc : Cur w p) :
    Calls Try.prog 95 #[.pointer (some ⟨p, 0, none⟩)] w (DLs p w) := by
  have HC := Lib.hid hc
  have hp := cur_lt hc
  clear hc
  go_enter Try.func95, Try.ntmps95
  go_wp2_with fail
  refine (below_any p 4 _ (by decide) (by decide) (cur_alloc HC.out _)).mono ?_
  rintro e w2 ⟨⟨n, hn0, hn1, rfl⟩, hc2, hg2⟩
  have HO2 := Lib.hid (((OwnLs.lit (n := 2) (enc := encPoint) (T := 25) (U := 47) w w.heap.size (Nat.le_refl _)).held.keptP hg2 hp).own)
  have HC2 := Lib.hid hc2
  have HG2 := Lib.hid (grown_trans (grown_alloc (grown_refl w _) (.cells #[] 47)) hg2)
  obtain ⟨m, rfl⟩ : ∃ m : Nat, n = m := ⟨n.toNat, by omega⟩
  clear hc2 hg2
  go_wp2
  go_loopw [3, 4] (fun v i wr => ∃ (A : Option Addr) (c : Nat) (O : List (List (Int × Int))) (m : Nat), v = .slice A O.length c ∧ i = .int .i64 (m : Int) ∧ O.length + m ≤ 3 ∧ Hid (∀ q ∈ O, q.length ≤ 6) ∧ Hid (OwnLs 2 encPoint 25 47 wr w.heap.size (.slice A O.length c) O) ∧ Hid (Cur wr p) ∧ Hid (w.grownBy wr (some p))) (fun _ i _ => (intOf i).toNat)
  case atStart => exact ⟨_, 0, [], m, rfl, rfl, by simp; omega, Lib.hid (by simp), HO2, HC2, HG2⟩
  case round =>
    obtain ⟨A1, c1, O, m1, rfl, rfl, h3, HQ, HO, HCr, HG⟩ := hrel
    clear HO2 HC2 HG2
    cases m1 with
    | zero =>
      go_wp2
      go_ret
      exact ⟨A1, c1, O, rfl, by omega, HQ, HO.out, HCr.out, HG.out⟩
    | succ m2 =>
      obtain ⟨M, hM⟩ : ∃ M : Int, ((m2 + 1 : Nat) : Int) = M := ⟨_, rfl⟩
      have hmp : (0 : Int) < M := by omega
      have hwM : IntKind.i64.wrap (M - 1) = (m2 : Int) := by rw [IntWalk.i64_in _ (by omega)]; omega
      have HM : Hid (M.toNat = m2 + 1) := Lib.hid (by omega)
      rw [hM]
      clear hM
      go_wp2_with fail
      refine (l6Draw_any p _ HCr.out).mono ?_
      rintro e w5 ⟨A5, c5, L5, rfl, -, h6, hpr, hc5, hg5, ho5⟩
      have HH := Lib.hid (HO.out.held.keptP hg5 hp)
      have HP5 := Lib.hid ho5
      have HC5 := Lib.hid hc5
      have HG5 := Lib.hid (grown_trans HG.out hg5)
      have hz := HG.out.size
      have hz5 := HG5.out.size
      have h63 : O.length + 1 ≤ 1099511627776 := by omega
      clear hpr hc5 hg5 ho5
      go_wp2_with (at_builtin; refine appPointS1 w5 rfl _ _ rfl rfl HH.out HP5.out rfl h63 hz ?_; intro A4 c4 L4 w4 hL4 h1 h2 ho4 hb4)
      go_roundw
      case rel => exact ⟨A4, c4, L4, m2, rfl, by go_num, by omega, Lib.hid (by
        rw [hL4.out]
        intro q hq
        rcases List.mem_append.1 hq with hq | hq
        · exact HQ.out q hq
        · simp at hq; subst hq; exact h6), Lib.hid ho4, Lib.hid (cur_below (cur_alloc HC5.out _) hb4 hp), Lib.hid (grownB (grown_alloc HG5.out _) hb4 (Nat.le_refl _))⟩
      case measure => simp [intOf]; have := HM.out; omega
def GotSafe (w : World) (e : Ending) (w' : World) : Prop :=
  ∃ A c l Ao co O least, e = .returned (.tuple #[.slice A l.length c, .slice Ao O.length co, .int .i64 least]) ∧ 1 ≤ l.length ∧ (l.length ≤ 11 ∧ l.length ≤ c ∧ (c : Int) ≤ 9223372036854775807) ∧ O.length ≤ 3 ∧ Hid (FewLs O) ∧ SeesE 2 encPoint w' w'.heap.size A l ∧ SeesLs 2 encPoint w' w'.heap.size Ao O ∧ Below w.heap.size w w'
theorem fewLs_of {O : List (List (Int × Int))} (h : ∀ q ∈ O, q.length ≤ 6) : FewLs O := fun j q hq => Nat.le_trans (h q (List.mem_of_getElem? hq)) (by decide)
set_option maxRecDepth 100000 in
set_option maxHeartbeats 4000000 in
theorem drawSafeSimplify_any (A : Option Addr) (len cap B : Nat) (w : World) (hc : Code w B A len) :
    Calls Try.prog 40 #[.slice A len cap] w (GotSafe w) := by
  have HC := Lib.hid hc
  clear hc
  go_enter Try.func40, Try.ntmps40
  go_wp2_with fail
  refine (new_any A len cap B _ HC.out).mono ?_
  rintro e w1 ⟨p, hp, rfl, hc1, hb1⟩
  have HB1 := Lib.hid hb1
  have hpl := cur_lt hc1
  clear hb1
  go_wp2_with fail
  refine (l6Any_any p _ hc1).mono ?_
  rintro e w2 ⟨A2, c2, l, rfl, h1, h2, hs, hlo, hc2, hg2⟩
  have HS := Lib.hid hs
  have HB2 := Lib.hid (below_grown HB1.out hg2 HB1.out.size hp)
  have HL := Lib.hid hlo
  have hp2 := Nat.lt_of_lt_of_le hpl hg2.size
  clear hs hg2 hc1 hlo
  go_wp2_with fail
  refine (l12Others_any p _ hc2).mono ?_
  rintro e w3 ⟨A3, c3, O, rfl, hO3, hq, ho3, hc3, hg3⟩
  have HQ := Lib.hid (fewLs_of hq.out)
  have HO := Lib.hid ho3.held
  have HS3 := Lib.hid ((HS.out.kept hg3 (fun a ha => by have := HL.out a ha; omega)).mono hg3.size)
  have HB3 := Lib.hid (below_grown HB2.out hg3 HB2.out.size hp)
  have hp3 := hp2
  clear ho3 hg3 hc2 hq
  go_wp2_with fail
  refine (ints_made p 7 7 _ [0, 1, 5, 20, 100, 99999, -1] (-1) 99999 w3 _ _ rfl (by decide) (by decide) rfl rfl (by decide) hc3).mono ?_
  rintro e w4 ⟨⟨n, h3, h4, rfl⟩, -, hg4⟩
  have HS4 := Lib.hid ((HS3.out.kept hg4 (fun a ha => by have := HL.out a ha; omega)).mono hg4.size)
  have HO4 := Lib.hid ((HO.out.keptP hg4 hp2).own.sees elPoint)
  have HB4 := Lib.hid (below_grown HB3.out hg4 HB3.out.size hp)
  clear hg4 hc3
  go_wp2
  refine bodyPost_ret (v := .tuple #[.slice A2 l.length c2, .slice A3 O.length c3, .int .i64 n]) (by simp [results, Try.results40, go_sem]) rfl ?_
  exact ⟨A2, c2, l, A3, c3, O, n, rfl, h1, h2, hO3, HQ, HS4.out, HO4.out, HB4.out⟩
def GotDrop (w : World) (e : Ending) (w' : World) : Prop :=
  ∃ A c l i, e = .returned (.tuple #[.slice A l.length c, .int .i64 i]) ∧ 1 ≤ l.length ∧ (l.length ≤ 11 ∧ l.length ≤ c ∧ (c : Int) ≤ 9223372036854775807) ∧ (-1 ≤ i ∧ i ≤ 6) ∧ SeesE 2 encPoint w' w'.heap.size A l ∧ Below w.heap.size w w'
set_option maxRecDepth 100000 in
set_option maxHeartbeats 4000000 in
theorem drawDropPoint_any (A : Option Addr) (len cap B : Nat) (w : World) (hc : Code w B A len) :
    Calls Try.prog 47 #[.slice A len cap] w (GotDrop w) := by
  have HC := Lib.hid hc
  clear hc
  go_enter Try.func47, Try.ntmps47
  go_wp2_with fail
  refine (new_any A len cap B _ HC.out).mono ?_
  rintro e w1 ⟨p, hp, rfl, hc1, hb1⟩
  have HB1 := Lib.hid hb1
  have hpl := cur_lt hc1
  clear hb1
  go_wp2_with fail
  refine (l6Any_any p _ hc1).mono ?_
  rintro e w2 ⟨A2, c2, l, rfl, h1, h2, hs, hlo, hc2, hg2⟩
  have HS := Lib.hid hs
  have HB2 := Lib.hid (below_grown HB1.out hg2 HB1.out.size hp)
  have HL := Lib.hid hlo
  clear hs hg2 hc1 hlo
  go_wp2_with fail
  refine (below_any p 8 _ (by decide) (by decide) hc2).mono ?_
  rintro e w3 ⟨⟨n, h3, h4, rfl⟩, -, hg3⟩
  have HS2 := Lib.hid ((HS.out.kept hg3 (fun a ha => by have := HL.out a ha; omega)).mono hg3.size)
  have HB3 := Lib.hid (below_grown HB2.out hg3 HB2.out.size hp)
  obtain ⟨i, hi⟩ : ∃ i, n - 1 = i := ⟨_, rfl⟩
  have hib : -1 ≤ i ∧ i ≤ 6 := by omega
  clear hg3 hc2
  go_wp2
  refine bodyPost_ret (v := .tuple #[.slice A2 l.length c2, .int .i64 i]) (by simp [results, Try.results47, go_sem]) rfl ?_
  exact ⟨A2, c2, l, i, rfl, h1, h2, hib, HS2.out, HB3.out⟩
end Go.Proofs.Ytbnjaaegbmhopaa
