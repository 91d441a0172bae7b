/- Lines: SegmentsOf and LineSteps of the model. -/
import Derived.Test.YtbnjaaegbmhopaaDoorLineS1
import Derived.Test.YtbnjaaegbmhopaaDoorLineJ
namespace Go.Proofs.YtbnjaaegbmhopaaDoor
open Go.ChangeShapes Go.WideShapes Go.ChangeAt Go.RowKit
set_option linter.unusedVariables false

theorem keepA {w : World} {p : Addr} {v : Value} (h : w.cell? p = some v) (o : Obj) : (w.alloc o).cell? p = some v :=
  (World.cell?_of_block (Below.heap_alloc _ _ _ (World.block_lt_of_cell? w p h))).trans h
theorem sizeA (w : World) (o : Obj) : w.heap.size ≤ (w.alloc o).heap.size := by simp
/-- append of one segment, as one step of a region that draws its order. -/
theorem stepSegment (w : World) {ops : Array Oper} {o : Oper} {a : Act} {K : Act → World → Prop} {Q : Exit → Act → World → Prop} {E : Prop} (hgd : o.guard = none) (s x : Operand)
    (ho : o.op = .call { callee := .builtin .append, args := #[s, x], argTypes := #[36, 36] })
    (base : Nat) (v : Value) (l : List (Int × Int × Int × Int)) (hv : a.eval s = v) (hown : OwnE 4 encSegment w base 53 v l)
    (B : Nat) (A : Option Addr) (m c : Nat) (l2 : List (Int × Int × Int × Int)) (hx : a.eval x = .slice A m c) (hm : m = l2.length) (hs : SeesE 4 encSegment w B A l2) (h63 : l.length + l2.length ≤ 1099511627776) (hbase : base ≤ w.heap.size)
    (h : ∀ A' c' L w', Hid (L = l ++ l2) → L.length ≤ l.length + l2.length → l.length + l2.length ≤ L.length → OwnE 4 encSegment w' base 53 (.slice A' L.length c') L → Below base w w' → K (a.put o.dst (.slice A' L.length c')) w') :
    if Region.wanted o (yielded ops a.tmps) = true then Oper.wp Tryd.prog o a w K Q else E := by
  have hw : Region.wanted o (yielded ops a.tmps) = true := by simp [Region.wanted, hgd]
  rw [if_pos hw]
  obtain ⟨i, hi, hz, h1, h2⟩ := info_parts infoSegment
  exact wp_appE w elSegment s x _ ho _ i _ 32 Tryd.underlying36 hi hz h1 h2 rfl base v l hv hown B A m c l2 hx hm hs h63 (by decide) hbase h
def SoRel (l : List (Int × Int)) (w : World) (v i : Value) (wr : World) : Prop :=
  ∃ (A : Option Addr) (c : Nat) (L : List (Int × Int × Int × Int)) (j : Nat), v = .slice A L.length c ∧ i = .int .i64 ((j : Int) + 1) ∧ (isLn l = false → j = 0) ∧ (j = 0 ∨ j ≤ (jts l).length) ∧ Hid (L = (sgV l).take j) ∧ L.length = j ∧ OwnE 4 encSegment wr w.heap.size 53 (.slice A L.length c) L ∧ Below w.heap.size w wr
theorem so_step {S L L2 : List (Int × Int × Int × Int)} {j : Nat} {x : Int × Int × Int × Int} (hL : L = S.take j) (h : L2 = L ++ [x]) (hx : S[j]? = some x) : L2 = S.take (j + 1) := by
  rw [h, hL, List.take_add_one, hx]; rfl
set_option maxRecDepth 100000 in
set_option maxHeartbeats 4000000 in
theorem sSegmentsOf_any (A : Option Addr) (c : Nat) (l : List (Int × Int)) (w : World) (hs : SeesE 2 encPoint w w.heap.size A l) (hl : l.length ≤ 1099511627776) :
    Calls Tryd.prog 66 #[.slice A l.length c] w (GivesE 4 encSegment 53 (sgV l) w) := by
  have HS := Lib.hid hs; clear hs
  go_enter Tryd.func66, Tryd.ntmps66
  go_wp2
  go_loopw [3, 4] (fun v i wr => SoRel l w v i wr) (fun _ i _ => l.length - (intOf i).toNat)
  case atStart => exact ⟨_, _, [], 0, rfl, by go_num, fun _ => rfl, .inl rfl, Lib.hid (by simp), rfl, OwnE.lit w _ _ (Nat.le_refl _), (Below.refl _ _).alloc (Nat.le_refl _) _⟩
  case round =>
    obtain ⟨A1, c1, L, j, rfl, rfl, hi0, hj, hL, hn, ho, hb⟩ := hrel
    have HB := Lib.hid hb; clear hb
    have HO := Lib.hid ho; clear ho
    have hsz := HB.out.size
    have hjl := jts_len l
    have HN := Lib.hid hn; clear hn
    by_cases hlt : j + 1 < l.length
    · have hji : (j : Int) + 1 < (l.length : Int) := by omega
      cases hi : isLn l
      · obtain rfl := hi0 hi
        go_wp2_with (go_at_call 85; refine (sIsLine_is A c l _ ((HS.out.below HB.out).mono HB.out.size) hl _ hi).mono ?_; rintro e w9 ⟨rfl, hb9⟩)
        go_ret
        refine ⟨A1, c1, L, Lib.hid ?_, rfl, HO.out.belowAll hb9, HB.out.trans (hb9.mono HB.out.size)⟩
        rw [hL.out, sgV_no hi]; rfl
      · obtain ⟨x0, x1, y0, y1, hx, hy, hjx⟩ := jts_at hlt
        have hxl : (jts l)[j]? = (sgV l)[j]? := by rw [sgV_yes hi]
        rw [hxl] at hjx
        have HX := Lib.hid hx; have HY := Lib.hid hy; have HJ := Lib.hid hjx
        obtain ⟨b, off, rfl, hbl, -⟩ := HS.out j _ hx
        clear hx hy hjx hxl
        have hw : IntKind.i64.wrap (j : Int) = j := IntWalk.i64_in _ (by omega)
        have hnn : (0 : Int) ≤ (j : Int) + 1 := by omega
        have hkl : (j : Int) < (l.length : Int) := by omega
        have hone : L.length + [(x0, x1, y0, y1)].length ≤ 1099511627776 := by have := HN.out; simp; omega
        go_wp2_with (go_at_call 85; refine (sIsLine_is _ c l _ ((HS.out.below HB.out).mono HB.out.size) hl _ hi).mono ?_; rintro e w9 ⟨rfl, hb9⟩; have HB9 := Lib.hid (HB.out.trans (hb9.mono HB.out.size)); have HO9 := Lib.hid (HO.out.belowAll hb9).drew; obtain ⟨k0, k1⟩ := cellsPoint (HS.out.below HB9.out) HX.out; obtain ⟨k2, k3⟩ := cellsPoint (HS.out.below HB9.out) HY.out)
        have hz9 : w.heap.size ≤ w9.drew.heap.size := HB9.out.size
        go_region_held3 (fun w' => w'.cell? ⟨b, off + j * 2, none⟩ = some (.int .i64 x0) ∧ w'.cell? ⟨b, off + j * 2 + 1, none⟩ = some (.int .i64 x1) ∧ w'.cell? ⟨b, off + (j + 1) * 2, none⟩ = some (.int .i64 y0) ∧ w'.cell? ⟨b, off + (j + 1) * 2 + 1, none⟩ = some (.int .i64 y1)) (first | exact ⟨k0, k1, k2, k3⟩ | exact ⟨keepA k0 _, keepA k1 _, keepA k2 _, keepA k3 _⟩ | exact hc4) (first
          | (refine stepSegment _ rfl _ _ rfl w.heap.size _ L rfl (HO9.out.alloc _) (w9.drew.heap.size + 1) _ 1 _ [(x0, x1, y0, y1)] rfl rfl (seesE_new elSegment w9.drew (x0, x1, y0, y1) _ _ _ (Nat.lt_succ_self _) rfl) hone (Nat.le_trans hz9 (sizeA _ _)) ?_; intro A4 c4 L4 w4 hL4 h1 h2 ho4 hb4; have hc4 := And.intro ((hb4.cell (p := ⟨b, off + j * 2, none⟩) hbl).trans (keepA k0 _)) (And.intro ((hb4.cell (p := ⟨b, off + j * 2 + 1, none⟩) hbl).trans (keepA k1 _)) (And.intro ((hb4.cell (p := ⟨b, off + (j + 1) * 2, none⟩) hbl).trans (keepA k2 _)) ((hb4.cell (p := ⟨b, off + (j + 1) * 2 + 1, none⟩) hbl).trans (keepA k3 _))))) | fail)
        go_wp2
        go_roundw
        case rel => exact ⟨A4, c4, L4, j + 1, rfl, by go_num, fun h => (by rw [hi] at h; cases h), .inr (by omega), Lib.hid (so_step hL.out hL4.out HJ.out), by have := HN.out; simp at h1 h2; omega, ho4, HB9.out.drew.trans (((Below.refl _ _).alloc hz9 _).trans hb4)⟩
        case measure => simp [intOf]; omega
    · have hji : ¬ ((j : Int) + 1 < (l.length : Int)) := by omega
      go_wp2
      go_ret
      refine ⟨A1, c1, L, Lib.hid ?_, rfl, HO.out, HB.out⟩
      rw [hL.out]
      cases hi : isLn l
      · rw [sgV_no hi, List.take_nil]
      · have := isLn_yes hi
        rw [sgV_yes hi]; exact List.take_of_length_le (by omega)
theorem stpV_step {L : List (Int × Int × Int × Int)} {j : Nat} {x : Int × Int × Int × Int} (hx : L[j]? = some x) : stpV (L.take j) + stS x = stpV (L.take (j + 1)) := by
  rw [List.take_add_one, hx]; exact (stpV_snoc _ _).symm
end Go.Proofs.YtbnjaaegbmhopaaDoor
