/- Chapter 3: bytes as ints, equal ints, keys out of strings, of package impl and of the model: contracts. -/
import Derived.Test.YtalghkfkeaogfaaCrypt
import Derived.Test.YtalghkfkeaogfaaEnc
import Derived.Laws.IdiomStrings
namespace Go.Proofs.Ytalghkfkeaogfaa
open Go.RowKit
set_option linter.unusedVariables false

/-- A list of bytes behind its length. -/
def b2i (l : List Int) : List Int := (l.length : Int) :: l
def BtRel (l : List Int) (w : World) (v i : Value) (wr : World) : Prop :=
  ∃ (A : Option Addr) (c : Nat) (L : List Int) (j : Nat), j ≤ l.length ∧ v = .slice A L.length c ∧ i = .int .i64 j ∧ Hid (L = (l.length : Int) :: l.take j) ∧ L.length = j + 1 ∧ Own wr w.heap.size 3 .i64 (.slice A L.length c) L ∧ Below w.heap.size w wr
theorem bt_step {l L L2 : List Int} {j : Nat} {x n : Int} (hL : L = n :: l.take j) (h : L2 = L ++ [x]) (hx : l[j]? = some x) : L2 = n :: l.take (j + 1) := by
  rw [h, hL, List.take_add_one, hx]; rfl
set_option maxRecDepth 100000 in
theorem b2i_any (A : Option Addr) (c : Nat) (l : List Int) (w : World) (hs : Sees w w.heap.size .u8 A l) (h8 : B8 l) (hl : l.length ≤ 4398046511104) :
    Calls Try.prog 33 #[.slice A l.length c] w (Gives 3 .i64 (b2i l) w) := by
  have HS := Lib.hid hs; clear hs
  have H8 : Hid (B8 l) := Lib.hid h8; clear h8
  go_enter Try.func33, Try.ntmps33
  go_wp2_with (first
    | (at_make; refine make64z w rfl _ _ rfl .i64 .i64 _ (1 + l.length) rfl rfl (by omega) (by omega) ?_; intro w1 ho1 hb1)
    | (at_builtin; refine app64 _ rfl _ _ rfl w.heap.size _ [] rfl (ho1.alloc _) (w1.heap.size + 1) _ 1 _ [_] rfl rfl (sees_new w1 .i64 _ 3 _ (by omega)) (by simp) (by have := hb1.size; simp; omega) ?_; intro A2 c2 L2 w2 hL2 h1 h2 ho2 hb2))
  have hn : L2.length = 1 := by rw [hL2.out]; rfl
  have HL2 : Hid (L2 = (l.length : Int) :: l.take 0) := Lib.hid (by rw [hL2.out]; rfl)
  have HO := Lib.hid ho2
  have HB := Lib.hid (hb1.trans (((Below.refl _ _).alloc hb1.size _).trans hb2))
  clear hL2 h1 h2 ho1 ho2 hb1 hb2
  go_loopw [3, 17] (fun v i wr => BtRel l w v i wr) (fun _ i _ => l.length - (intOf i).toNat)
  case atStart => exact ⟨A2, c2, L2, 0, Nat.zero_le _, rfl, rfl, HL2, hn, HO.out, HB.out⟩
  case round =>
    obtain ⟨A3, c3, L, j, hj, rfl, rfl, hL, hLn, hown, hb⟩ := hrel
    clear HO HB HL2 hn
    have HB := Lib.hid hb; clear hb
    have hsz := HB.out.size
    by_cases hlt : j < l.length
    · obtain ⟨b, off, x, rfl, hbl, hx, hc⟩ := (HS.out.below HB.out).lt hlt
      have hx8 := H8.out x (List.mem_of_getElem? hx)
      have HX := Lib.hid hx; clear hx
      go_wp2_with (at_builtin; refine app64 _ rfl _ _ rfl w.heap.size _ L rfl (hown.alloc _) (wr.heap.size + 1) _ 1 _ [_] rfl rfl (sees_new wr .i64 _ 3 _ (by omega)) (by simp; omega) (by simp; omega) ?_; intro A4 c4 L4 w4 hL4 h1 h2 ho4 hb4)
      go_roundw
      case rel => exact ⟨A4, c4, L4, j + 1, by omega, rfl, by go_num, Lib.hid (bt_step hL.out hL4.out HX.out), by simp at h1 h2; omega, ho4, HB.out.trans (((Below.refl _ _).alloc (by omega) _).trans hb4)⟩
      case measure => simp [intOf]; omega
    · obtain rfl : j = l.length := by omega
      go_wp2
      go_ret
      exact give (by rw [hL.out, List.take_length]; rfl) hown HB.out
set_option maxRecDepth 100000 in
theorem sb2i_any (A : Option Addr) (c : Nat) (l : List Int) (w : World) (hs : Sees w w.heap.size .u8 A l) (h8 : B8 l) (hl : l.length ≤ 4398046511104) :
    Calls Try.prog 31 #[.slice A l.length c] w (Gives 3 .i64 (b2i l) w) := by
  have HS := Lib.hid hs; clear hs
  have H8 : Hid (B8 l) := Lib.hid h8; clear h8
  go_enter Try.func31, Try.ntmps31
  go_wp2
  go_loopw [3, 4] (fun v i wr => BtRel l w v i wr) (fun _ i _ => l.length - (intOf i).toNat)
  case atStart => exact ⟨_, _, [_], 0, Nat.zero_le _, rfl, rfl, Lib.hid rfl, rfl, own_lit1 w _ _ _ _ (Nat.le_refl _), (Below.refl _ _).alloc (Nat.le_refl _) _⟩
  case round =>
    obtain ⟨A3, c3, L, j, hj, rfl, rfl, hL, hLn, hown, hb⟩ := hrel
    have HB := Lib.hid hb; clear hb
    have hsz := HB.out.size
    by_cases hlt : j < l.length
    · obtain ⟨b, off, x, rfl, hbl, hx, hc⟩ := (HS.out.below HB.out).lt hlt
      have hx8 := H8.out x (List.mem_of_getElem? hx)
      have HX := Lib.hid hx; clear hx
      go_wp2_with (at_builtin; refine app64 _ rfl _ _ rfl w.heap.size _ L rfl (hown.alloc _) (wr.heap.size + 1) _ 1 _ [_] rfl rfl (sees_new wr .i64 _ 3 _ (by omega)) (by simp; omega) (by simp; omega) ?_; intro A4 c4 L4 w4 hL4 h1 h2 ho4 hb4)
      go_roundw
      case rel => exact ⟨A4, c4, L4, j + 1, by omega, rfl, by go_num, Lib.hid (bt_step hL.out hL4.out HX.out), by simp at h1 h2; omega, ho4, HB.out.trans (((Below.refl _ _).alloc (by omega) _).trans hb4)⟩
      case measure => simp [intOf]; omega
    · obtain rfl : j = l.length := by omega
      go_wp2
      go_ret
      exact give (by rw [hL.out, List.take_length]; rfl) hown HB.out
theorem seqI_any (A A' : Option Addr) (c c' B B' : Nat) (l l' : List Int) (b : Bool) (w : World) (hs : Sees w B .i64 A l) (hs' : Sees w B' .i64 A' l') (hb : decide (l = l') = b) (hl : l.length ≤ 17592186044416) :
    Calls Try.prog 42 #[.slice A l.length c, .slice A' l'.length c'] w fun e w' => e = .returned (.bool b) ∧ Below w.heap.size w w' := by
  have HS := Lib.hid hs; have HS' := Lib.hid hs'; have HE := Lib.hid hb
  clear hs hs' hb
  by_cases hln : l.length = l'.length
  · go_enter Try.func42, Try.ntmps42
    go_wp2
    go_loopw [5] (fun i wr => ∃ (j n : Nat), j ≤ l.length ∧ i = .int .i64 j ∧ wr = w.drewN n ∧ Hid (l.take j = l'.take j)) (fun i _ => l.length - (intOf i).toNat)
    case atStart => exact ⟨0, 0, Nat.zero_le _, rfl, rfl, Lib.hid rfl⟩
    case round =>
      obtain ⟨j, n, hj, rfl, rfl, ht⟩ := hrel
      by_cases hlt : j < l.length
      · obtain ⟨b1, off, x, rfl, hbl, hx, hc⟩ := HS.out.lt hlt
        obtain ⟨b2, off', y, rfl, hbl', hy, hc'⟩ := HS'.out.lt (j := j) (by omega)
        have HX := Lib.hid hx; have HY := Lib.hid hy; clear hx hy
        by_cases hxy : x = y
        · subst hxy
          go_wp2
          go_quiet (fail)
          go_wp2
          go_roundw
          case rel => exact ⟨j + 1, _, by omega, by go_num, rfl, Lib.hid (by rw [List.take_add_one, List.take_add_one, HX.out, HY.out, ht.out])⟩
          case measure => simp [intOf]; omega
        · go_wp2
          go_quiet (fail)
          go_wp2
          go_ret
          have hne : l ≠ l' := fun h => hxy (by subst h; exact Option.some.inj (HX.out.symm.trans HY.out))
          exact ⟨by rw [← HE.out]; simp [hne], below_drewN (below_drewN (Below.refl _ _) _) _⟩
      · obtain rfl : j = l.length := by omega
        go_wp2
        go_ret
        have he : l = l' := by have := ht.out; rwa [List.take_length, hln, List.take_length] at this
        exact ⟨by rw [← HE.out]; simp [he], below_drewN (Below.refl _ _) _⟩
  · go_enter Try.func42, Try.ntmps42
    go_wp2
    go_ret
    have hne : l ≠ l' := fun h => hln (by rw [h])
    exact ⟨by rw [← HE.out]; simp [hne], Below.refl _ _⟩
theorem impl_max_bel (a b : Int) (w : World) :
    Calls Try.prog 55 #[.int .i64 a, .int .i64 b] w fun e w' => e = .returned (.int .i64 (extV true a b)) ∧ Below w.heap.size w w' := by
  go_enter Try.func55, Try.ntmps55
  go_wp2_with (go_at_call 62; refine (ext_any _ _ b _ _ (by simp [go_sem])).mono ?_; rintro e w' ⟨rfl, rfl⟩)
  go_ret
  exact ⟨rfl, by first | exact (Below.refl _ _).alloc (Nat.le_refl _) _ | exact ((Below.refl _ _).alloc (Nat.le_refl _) _).drew | exact (Below.refl _ _).drew.alloc (Nat.le_refl _) _⟩
theorem spec_max_bel (a b : Int) (w : World) :
    Calls Try.prog 56 #[.int .i64 a, .int .i64 b] w fun e w' => e = .returned (.int .i64 (extV true a b)) ∧ Below w.heap.size w w' := bel_eq (smax_any a b w)
end Go.Proofs.Ytalghkfkeaogfaa
