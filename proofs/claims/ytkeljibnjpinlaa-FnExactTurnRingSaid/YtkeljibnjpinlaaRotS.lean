/- RotateRing and TurnRing of the model. -/
import Derived.Test.YtkeljibnjpinlaaConcat
import Derived.Test.YtkeljibnjpinlaaRing
import Derived.Test.YtkeljibnjpinlaaStepE
namespace Go.Proofs.Ytkeljibnjpinlaa
open Go.ChangeShapes Go.WideShapes Go.ChangeAt Go.RowKit
set_option linter.unusedVariables false

theorem keepA' {w : World} {p : Addr} {v : Value} (h : w.cell? p = some v) (o : Obj) : (w.alloc o).cell? p = some v :=
  (World.cell?_of_block (Below.heap_alloc _ _ _ (World.block_lt_of_cell? w p h))).trans h
set_option maxRecDepth 100000 in
set_option maxHeartbeats 1000000 in
theorem sRotateRing_any (A : Option Addr) (c : Nat) (l : List (Int × Int)) (k : Int) (w : World) (hs : SeesE 2 encPoint w w.heap.size A l) (hl : l.length ≤ 274877906944) (hlc : l.length ≤ c) (hc : (c : Int) ≤ 9223372036854775807) (hk : (Lit.int .i64 k).wf = true) :
    Calls Try.prog 25 #[.slice A l.length c, .int .i64 k] w (GivesE 2 encPoint 36 (rotV l k) w) := by
  have HS := Lib.hid hs; clear hs
  go_enter Try.func25, Try.ntmps25
  cases hin : inB k 0 ((l.length : Int) - 1)
  · have HR : Hid (l = rotV l k) := Lib.hid (by unfold rotV; rw [if_neg (by rw [hin]; decide)])
    go_wp2_with (first
      | (go_at_call 45; refine (l1in_is _ _ _ _ _ hin).mono ?_; rintro e w1 ⟨rfl, rfl⟩)
      | (at_builtin; refine appPoint _ rfl _ _ rfl w.heap.size _ [] rfl (OwnE.lit w w.heap.size 36 (Nat.le_refl _)) w.heap.size A l.length c l rfl rfl (HS.out.alloc (Nat.le_refl _) _) (by simp; omega) (by simp) ?_; intro A1 c1 L w1 hL h1 h2 ho hb))
    go_ret
    exact ⟨A1, c1, L, Lib.hid (by rw [hL.out]; exact HR.out), rfl, ho, ((Below.refl _ w).alloc (Nat.le_refl _) _).trans hb⟩
  · have hk' : 0 ≤ k ∧ k ≤ (l.length : Int) - 1 := by simpa [inB] using hin
    obtain ⟨j, rfl⟩ : ∃ j : Nat, k = (j : Int) := ⟨k.toNat, by omega⟩
    have hjl : j < l.length := by omega
    have hjl' : (j : Int) ≤ (l.length : Int) := by omega
    have hjc' : (j : Int) ≤ (c : Int) := by omega
    have b1 : (0 : Int) ≤ (j : Int) := by omega
    have b2 : ¬ ((j : Int) < 0) := by omega
    have b3 : ¬ ((c : Int) < (j : Int)) := by omega
    have b4 : ¬ ((l.length : Int) < (j : Int)) := by omega
    have hcj : ¬ (c = j) := by omega
    have HA : Hid (SeesE 2 encPoint w w.heap.size (if c = j then A else Option.map (fun x => x.add (j * 2)) A) (l.drop j)) := Lib.hid (HS.out.suf j _ (fun _ => if_neg hcj))
    have HT : Hid (SeesE 2 encPoint w w.heap.size A (l.take j)) := Lib.hid (HS.out.pre j)
    have HW0 := Lib.hid (((Below.refl w.heap.size w).alloc (Nat.le_refl _) (.cells #[] 36)).drew)
    have HO0 := Lib.hid ((OwnE.lit (n := 2) (enc := encPoint) w w.heap.size 36 (Nat.le_refl _)).drew)
    have HA0 := Lib.hid (HA.out.below HW0.out)
    have E1 : l.length - j = (l.drop j).length := by simp
    have E2 : j = (l.take j).length := by simp; omega
    have hd63 : ([] : List (Int × Int)).length + (l.drop j).length ≤ 1099511627776 := by simp; omega
    have HT63 : Hid ((l.take j).length ≤ 549755813888) := Lib.hid (by rw [← E2]; omega)
    have HD63 : Hid ((l.drop j).length ≤ 549755813888) := Lib.hid (by rw [← E1]; omega)
    have HE1 := Lib.hid E1; have HE2 := Lib.hid E2; have HDD := Lib.hid hd63
    have HR : Hid ([] ++ l.drop j ++ l.take j = rotV l j) := Lib.hid (by unfold rotV; rw [if_pos hin]; simp)
    clear hcj E1 E2 hd63
    go_wp2_with (first
      | (go_at_call 45; refine (l1in_is _ _ _ _ _ hin).mono ?_; rintro e w1 ⟨rfl, rfl⟩))
    go_region_held3 (fun _ => True) (trivial) (first
      | (refine stepPt (w.alloc (.cells #[] 36)).drew _ _ (by rfl) w.heap.size (.slice (some ⟨w.heap.size, 0, none⟩) 0 0) [] (by rfl) HO0.out w.heap.size (if c = j then A else Option.map (fun x => x.add (j * 2)) A) (l.length - j) (c - j) (l.drop j) (by rfl) HE1.out HA0.out HDD.out HW0.out.size ?_; intro A1 c1 L1 w1 hL1 h1 h2 ho1 hb1; have HL1 := hL1; have HO1 := Lib.hid ho1; have HB1 := Lib.hid (HW0.out.trans hb1); have HT1 := Lib.hid (HT.out.below HB1.out); have H63 : L1.length + (l.take j).length ≤ 1099511627776 := (by have := HD63.out; have := HT63.out; simp only [List.length_nil] at h1; omega))
      | (refine stepPt w1 _ _ (by rfl) w.heap.size (.slice A1 L1.length c1) L1 (by rfl) HO1.out w.heap.size A j c (l.take j) (by rfl) HE2.out HT1.out H63 HB1.out.size ?_; intro A2 c2 L2 w2 hL2 h3 h4 ho2 hb2; have HL2 := hL2; have HO2 := Lib.hid ho2; have HB2 := Lib.hid (HB1.out.trans hb2)) | fail)
    all_goals
      go_wp2
      go_ret
      exact ⟨A2, c2, L2, Lib.hid (by rw [HL2.out, HL1.out]; exact HR.out), rfl, HO2.out, HB2.out⟩
theorem trn_get {l : List (Int × Int)} {j : Nat} (h : j < l.length) : (trn l)[j]? = l[(l.length - j) % l.length]? := by
  cases l with
  | nil => cases h
  | cons a t =>
    simp only [List.length_cons] at h ⊢
    cases j with
    | zero => simp [trn]
    | succ i =>
      rw [Nat.mod_eq_of_lt (by omega)]
      show (a :: t.reverse)[i + 1]? = _
      rw [List.getElem?_cons_succ, List.getElem?_reverse (by omega), show t.length + 1 - (i + 1) = (t.length - 1 - i) + 1 by omega, List.getElem?_cons_succ]
theorem trn_step {S L L2 : List (Int × Int)} {j : Nat} {x : Int × Int} (hL : L = S.take j) (h : L2 = L ++ [x]) (hx : S[j]? = some x) : L2 = S.take (j + 1) := by
  rw [h, hL, List.take_add_one, hx]; rfl
set_option maxRecDepth 100000 in
set_option maxHeartbeats 1000000 in
theorem sTurnRing_any (A : Option Addr) (c : Nat) (l : List (Int × Int)) (w : World) (hs : SeesE 2 encPoint w w.heap.size A l) (hl : l.length ≤ 274877906944) :
    Calls Try.prog 21 #[.slice A l.length c] w (GivesE 2 encPoint 36 (trn l) w) := by
  have HS := Lib.hid hs; clear hs
  have hrl := trn_len l
  go_enter Try.func21, Try.ntmps21
  go_wp2
  go_loopw [3, 4] (fun v i wr => ∃ (A1 : Option Addr) (c1 : Nat) (L : List (Int × Int)) (j : Nat), v = .slice A1 L.length c1 ∧ i = .int .i64 (j : Int) ∧ j ≤ l.length ∧ Hid (L = (trn l).take j) ∧ Hid (L.length = j) ∧ Hid (OwnE 2 encPoint wr w.heap.size 36 (.slice A1 L.length c1) L) ∧ Hid (Below w.heap.size w wr)) (fun _ i _ => l.length - (intOf i).toNat)
  case atStart => exact ⟨_, _, [], 0, rfl, rfl, Nat.zero_le _, Lib.hid (by simp), Lib.hid rfl, Lib.hid (OwnE.lit w _ _ (Nat.le_refl _)), Lib.hid ((Below.refl _ _).alloc (Nat.le_refl _) _)⟩
  case round =>
    obtain ⟨A1, c1, L, j, rfl, rfl, hj, hL, HN, HO, HB⟩ := hrel
    by_cases hlt : j < l.length
    · have hlt' : (j : Int) < (l.length : Int) := by omega
      have hrem2 : wrap64 ((l.length : Int) - (j : Int)) = (l.length : Int) - (j : Int) := by unfold wrap64; omega
      have hrem3 : IntKind.i64.wrap ((l.length : Int) - (j : Int)) = (l.length : Int) - (j : Int) := IntWalk.i64_in _ (by omega)
      obtain ⟨k, hk, hkl⟩ : ∃ k, (l.length - j) % l.length = k ∧ k < l.length := ⟨_, rfl, Nat.mod_lt _ (by omega)⟩
      obtain ⟨⟨y0, y1⟩, hy⟩ : ∃ p, l[k]? = some p := ⟨_, List.getElem?_eq_getElem hkl⟩
      have HJ : Hid ((trn l)[j]? = some (y0, y1)) := Lib.hid (by rw [trn_get hlt, hk]; exact hy)
      obtain ⟨b, off, rfl, hbl, -⟩ := HS.out k _ hy
      obtain ⟨k2, k3⟩ := cellsPoint (HS.out.below HB.out) hy
      have hone : L.length + [(y0, y1)].length ≤ 1099511627776 := by rw [HN.out]; simp; omega
      have hkl' : (k : Int) < (l.length : Int) := by omega
      have hne : ¬ ((l.length : Int) = 0) := by omega
      have hne2 : ¬ (l = []) := fun e => by rw [e] at hlt; simp at hlt
      have HB2 := Lib.hid (HB.out.alloc HB.out.size (.cells #[.int .i64 y0, .int .i64 y1] 36))
      have hrem : ((l.length : Int) - (j : Int)).tmod (l.length : Int) = (k : Int) := by
        rw [show (l.length : Int) - (j : Int) = ((l.length - j : Nat) : Int) by omega, Int.tmod_eq_emod_of_nonneg (Int.natCast_nonneg _)]; exact_mod_cast hk
      clear hy hk
      go_wp2_with (at_builtin; refine appPoint _ rfl _ _ rfl w.heap.size _ L rfl (HO.out.alloc _) (wr.heap.size + 1) (some ⟨wr.heap.size, 0, none⟩) 1 1 [(y0, y1)] rfl rfl (seesE_new elPoint wr (y0, y1) #[.int .i64 y0, .int .i64 y1] 36 _ (Nat.lt_succ_self _) rfl) hone HB2.out.size ?_; intro A4 c4 L4 w4 hL4 h1 h2 ho4 hb4)
      go_roundw
      case rel => exact ⟨A4, c4, L4, j + 1, rfl, by go_num, by omega, Lib.hid (trn_step hL.out hL4.out HJ.out), Lib.hid (by have := HN.out; simp at h1 h2; omega), Lib.hid ho4, Lib.hid (HB2.out.trans hb4)⟩
      case measure => simp [intOf]; omega
    · obtain rfl : j = l.length := by omega
      go_wp2
      go_ret
      exact ⟨A1, c1, L, Lib.hid (by rw [hL.out, List.take_of_length_le (by omega)]), rfl, HO.out, HB.out⟩
end Go.Proofs.Ytkeljibnjpinlaa
