/- The model's encoders of chapter 2, and both encoders of lists. -/
import Derived.Test.YtnjmohpdmboopaaEnc
import Derived.Test.YtnjmohpdmboopaaBits
namespace Go.Proofs.Ytnjmohpdmboopaa
open Go.RowKit
set_option linter.unusedVariables false

theorem sapp_out (A : Option Addr) (c : Nat) (l : List Int) (n : Int) (w : World) (hs : Sees w w.heap.size .u8 A l) (hl : l.length ≤ 4398046511104) (hn : ¬ (0 ≤ n ∧ n ≤ 1000000000000)) :
    Calls Try.prog 26 #[.slice A l.length c, .int .i64 n] w (Gives 5 .u8 (l ++ enc n) w) := by
  have HS := Lib.hid hs; clear hs
  have hf : inB n 0 1000000000000 = false := by
    rcases (by omega : n < 0 ∨ 1000000000000 < n) with h | h
    · exact inB_low h
    · exact inB_high h
  have HF := Lib.hid hf; clear hf
  have HN := Lib.hid hn; clear hn
  go_enter Try.func26, Try.ntmps26
  go_wp2_with (first
    | (at_builtin; refine app8 _ rfl _ _ rfl w.heap.size _ [] rfl (Own.lit w w.heap.size 5 .u8 (Nat.le_refl _)) w.heap.size A l.length c l rfl rfl (HS.out.alloc (Nat.le_refl _) _) (by simp; omega) (by simp) ?_; intro A1 c1 L1 w1 hL1 h1 h2 ho1 hb1)
    | (go_at_call 55; refine (l1in_is _ _ _ false _ HF.out).mono ?_; rintro e w' ⟨rfl, rfl⟩))
  go_ret
  exact give (by rw [hL1.out, enc_out HN.out]; simp) ho1 (((Below.refl _ _).alloc (Nat.le_refl _) _).trans hb1)
theorem sapp_in (A : Option Addr) (c : Nat) (l : List Int) (n : Nat) (w : World) (hs : Sees w w.heap.size .u8 A l) (hl : l.length ≤ 4398046511104) (hn : n ≤ 1000000000000) :
    Calls Try.prog 26 #[.slice A l.length c, .int .i64 n] w (Gives 5 .u8 (l ++ enc n) w) := by
  have HS := Lib.hid hs; clear hs
  go_enter Try.func26, Try.ntmps26
  go_wp2_with (first
    | (at_builtin; refine app8 _ rfl _ _ rfl w.heap.size _ [] rfl (Own.lit w w.heap.size 5 .u8 (Nat.le_refl _)) w.heap.size A l.length c l rfl rfl (HS.out.alloc (Nat.le_refl _) _) (by simp; omega) (by simp) ?_; intro A1 c1 L1 w1 hL1 h1 h2 ho1 hb1)
    | (go_at_call 55; refine (l1in_is _ _ _ true _ (inB_yes (by omega) (by omega))).mono ?_; rintro e w' ⟨rfl, rfl⟩))
  obtain rfl : L1 = l := by simpa using hL1.out
  clear hL1 h1 h2
  have hb0 := ((Below.refl w.heap.size w).alloc (Nat.le_refl _) (.cells #[] 5)).trans hb1
  have HO := Lib.hid ho1; clear ho1
  have HB := Lib.hid hb0; clear hb0 hb1
  go_loopw [1, 5] (fun v1 v wr => PutRel w.heap.size L1 n w v v1 wr) (fun v1 _ _ => (intOf v1).toNat)
  case atStart => exact ⟨A1, c1, L1, n, rfl, rfl, hn, by omega, HO.out, rfl, HB.out⟩
  case round =>
    obtain ⟨A', c', L, m, rfl, rfl, hm, hLl, hown, hu, hb⟩ := hrel
    clear HO HB HS
    have HU := Lib.hid hu; clear hu
    have HB := Lib.hid hb; clear hb
    have hsz := HB.out.size
    by_cases hlt : m < 128
    · go_wp2_with (at_builtin; refine app8 _ rfl _ _ rfl w.heap.size _ L rfl (hown.alloc _) (wr.heap.size + 1) _ 1 _ [_] rfl rfl (sees_new wr .u8 _ 5 _ (by omega)) (by simp; omega) (by simp; omega) ?_; intro A2 c2 L2 w2 hL2 h1 h2 hown2 hb2)
      go_ret
      exact give (put_end HU.out hlt hn hL2.out) hown2 (HB.out.trans (((Below.refl _ _).alloc (by omega) _).trans hb2))
    · go_wp2_with (at_builtin; refine app8 _ rfl _ _ rfl w.heap.size _ L rfl (hown.alloc _) (wr.heap.size + 1) _ 1 _ [_] rfl rfl (sees_new wr .u8 _ 5 _ (by omega)) (by simp; omega) (by simp; omega) ?_; intro A2 c2 L2 w2 hL2 h1 h2 hown2 hb2)
      go_roundw
      case rel =>
        have hs := put_step HU.out hlt hn (L2 := L2) (hL2.out.trans (by rw [group_byte m (by omega)]))
        exact ⟨A2, c2, L2, m / 128, rfl, by go_num, by omega, hs.2, hown2, hs.1, HB.out.trans (((Below.refl _ _).alloc (by omega) _).trans hb2)⟩
      case measure => simp [intOf]; omega
theorem sapp_any (A : Option Addr) (c : Nat) (l : List Int) (n : Int) (w : World) (hs : Sees w w.heap.size .u8 A l) (hl : l.length ≤ 4398046511104) :
    Calls Try.prog 26 #[.slice A l.length c, .int .i64 n] w (Gives 5 .u8 (l ++ enc n) w) := by
  by_cases h : 0 ≤ n ∧ n ≤ 1000000000000
  · obtain ⟨m, rfl⟩ : ∃ m : Nat, n = m := ⟨n.toNat, by omega⟩
    exact sapp_in A c l m w hs hl (by omega)
  · exact sapp_out A c l n w hs hl h
theorem sappB_any (A A' : Option Addr) (c c' : Nat) (l d : List Int) (w : World) (hs : Sees w w.heap.size .u8 A l) (hd : Sees w w.heap.size .u8 A' d) (hl : l.length ≤ 4398046511104) (hl' : d.length ≤ 4398046511104) :
    Calls Try.prog 31 #[.slice A l.length c, .slice A' d.length c'] w (Gives 5 .u8 (l ++ enc d.length ++ d) w) := by
  have HS := Lib.hid hs; clear hs
  have HD := Lib.hid hd; clear hd
  have hE := enc_len d.length
  go_enter Try.func31, Try.ntmps31
  go_wp2_with fail
  refine (sapp_any A c l d.length _ HS.out (by omega)).mono ?_
  rintro e w2 ⟨A2, c2, L2, HL2, rfl, ho2, hb⟩
  have HD2 := Lib.hid (HD.out.below hb)
  have hLl : L2.length ≤ l.length + 6 := by rw [HL2.out, List.length_append]; omega
  go_wp2_with (at_builtin; refine app8 _ rfl _ _ rfl w.heap.size _ L2 rfl ho2 w.heap.size A' d.length c' d rfl rfl HD2.out (by omega) hb.size ?_; intro A3 c3 L3 w3 hL3 h1 h2 ho3 hb3)
  go_ret
  exact give (by rw [hL3.out, HL2.out]) ho3 (hb.trans hb3)
def EncsRel (B : Nat) (l : List Int) (w : World) (v i : Value) (wr : World) : Prop :=
  ∃ (A : Option Addr) (c : Nat) (L : List Int) (j : Nat), j ≤ l.length ∧ v = .slice A L.length c ∧ i = .int .i64 j ∧ L = encs (l.take j) ∧ Own wr B 5 .u8 (.slice A L.length c) L ∧ Below B w wr
theorem encs_take {l : List Int} {j : Nat} {x : Int} (h : l[j]? = some x) : encs (l.take (j + 1)) = encs (l.take j) ++ enc x := by
  rw [List.take_add_one, h]; exact encs_snoc _ _
theorem encs_take_len {l L : List Int} {j : Nat} (h : L = encs (l.take j)) : L.length ≤ 6 * l.length := by
  rw [h]; have := encs_len (l.take j); rw [List.length_take] at this; omega
set_option maxRecDepth 100000 in
theorem encI_any (A : Option Addr) (c : Nat) (l : List Int) (w : World) (hs : Sees w w.heap.size .i64 A l) (hl : l.length ≤ 274877906944) :
    Calls Try.prog 23 #[.slice A l.length c] w (Gives 5 .u8 (encs l) w) := by
  have HS := Lib.hid hs; clear hs
  go_enter Try.func23, Try.ntmps23
  go_wp2
  go_loopw [3, 9] (fun v i wr => EncsRel w.heap.size l w v i wr) (fun _ i _ => l.length - (intOf i).toNat)
  case atStart => exact ⟨_, _, [], 0, Nat.zero_le _, rfl, rfl, rfl, Own.lit w w.heap.size 5 .u8 (Nat.le_refl _), (Below.refl _ _).alloc (Nat.le_refl _) _⟩
  case round =>
    obtain ⟨A1, c1, L, j, hj, rfl, rfl, hL, hown, hb⟩ := hrel
    have hLl := encs_take_len hL
    have HL := Lib.hid hL; clear hL
    have HB := Lib.hid hb; clear hb
    by_cases hlt : j < l.length
    · obtain ⟨b, off, x, rfl, hbl, hx, hc⟩ := (HS.out.below HB.out).lt hlt
      have HX := Lib.hid hx; clear hx
      go_wp2_with fail
      refine (put_any w.heap.size A1 c1 L x _ hown (by omega) HB.out.size).mono ?_
      rintro e w2 ⟨A2, c2, L2, HL2, rfl, ho2, hb2⟩
      go_wp2
      go_roundw
      case rel => exact ⟨A2, c2, L2, j + 1, by omega, rfl, by go_num, by rw [HL2.out, HL.out, encs_take HX.out], ho2, HB.out.trans hb2⟩
      case measure => simp [intOf]; omega
    · obtain rfl : j = l.length := by omega
      go_wp2
      go_ret
      exact give (by rw [HL.out, List.take_length]) hown HB.out
set_option maxRecDepth 100000 in
theorem sencI_any (A : Option Addr) (c : Nat) (l : List Int) (w : World) (hs : Sees w w.heap.size .i64 A l) (hl : l.length ≤ 274877906944) :
    Calls Try.prog 33 #[.slice A l.length c] w (Gives 5 .u8 (encs l) w) := by
  have HS := Lib.hid hs; clear hs
  go_enter Try.func33, Try.ntmps33
  go_wp2
  go_loopw [3, 4] (fun v i wr => EncsRel w.heap.size l w v i wr) (fun _ i _ => l.length - (intOf i).toNat)
  case atStart => exact ⟨_, _, [], 0, Nat.zero_le _, rfl, rfl, rfl, Own.lit w w.heap.size 5 .u8 (Nat.le_refl _), (Below.refl _ _).alloc (Nat.le_refl _) _⟩
  case round =>
    obtain ⟨A1, c1, L, j, hj, rfl, rfl, hL, hown, hb⟩ := hrel
    have hLl := encs_take_len hL
    have HL := Lib.hid hL; clear hL
    have HB := Lib.hid hb; clear hb
    by_cases hlt : j < l.length
    · obtain ⟨b, off, x, rfl, hbl, hx, hc⟩ := (HS.out.below HB.out).lt hlt
      have HX := Lib.hid hx; clear hx
      have hsee : Sees wr wr.heap.size .u8 A1 L := hown.sees
      have HE := Lib.hid hsee; clear hsee
      go_wp2_with fail
      refine (sapp_any A1 c1 L x _ HE.out (by omega)).mono ?_
      rintro e w2 ⟨A2, c2, L2, HL2, rfl, ho2, hb2⟩
      have hsz := HB.out.size
      go_wp2
      go_roundw
      case rel => exact ⟨A2, c2, L2, j + 1, by omega, rfl, by go_num, by rw [HL2.out, HL.out, encs_take HX.out], ho2.mono hsz, HB.out.trans (hb2.mono hsz)⟩
      case measure => simp [intOf]; omega
    · obtain rfl : j = l.length := by omega
      go_wp2
      go_ret
      exact give (by rw [HL.out, List.take_length]) hown HB.out
end Go.Proofs.Ytnjmohpdmboopaa
