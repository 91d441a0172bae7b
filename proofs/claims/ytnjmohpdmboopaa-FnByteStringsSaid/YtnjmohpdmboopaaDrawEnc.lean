/- The model's draws of bytes, and of chapter 2: what they give is bounded; nothing that existed before the draw is written. -/
import Derived.Test.YtnjmohpdmboopaaDrawInt
import Derived.Test.YtnjmohpdmboopaaSEnc
namespace Go.Proofs.Ytnjmohpdmboopaa
open Go.RowKit
set_option linter.unusedVariables false

/-- Bytes were drawn, at most m. -/
def DBytes (p m : Nat) (w : World) (e : Ending) (w' : World) : Prop :=
  ∃ A c L, B8 L ∧ L.length ≤ m ∧ e = .returned (.slice A L.length c) ∧ Own w' w.heap.size 5 .u8 (.slice A L.length c) L ∧ Cur w' p ∧ w.grownBy w' (some p)
def BytesRel (p n : Nat) (w : World) (v i : Value) (wr : World) : Prop :=
  ∃ (A : Option Addr) (c : Nat) (L : List Int) (j : Nat), j ≤ n ∧ i = .int .i64 j ∧ v = .slice A L.length c ∧ L.length ≤ j ∧ B8 L ∧ Own wr w.heap.size 5 .u8 (.slice A L.length c) L ∧ Cur wr p ∧ w.grownBy wr (some p)
theorem own_cursor {w w' : World} {B p : Nat} {T : TypeId} {k : IntKind} {v : Value} {L : List Int} (h : Own w B T k v L) (hg : w.grownBy w' (some p)) (hp : p < B) : Own w' B T k v L := by
  refine h.kept hg ?_
  match hv : v.ownBlock with
  | none => exact .inl rfl
  | some g => exact .inr (by have := (World.ownsRow.lt h g hv).1; simp; omega)
theorem grown_below {w0 w w' : World} {p B : Nat} (h : w0.grownBy w (some p)) (hb : Below B w w') (hB : w0.heap.size ≤ B) : w0.grownBy w' (some p) :=
  ⟨hb.os.trans h.os, hb.tape.trans h.tape, hb.output.trans h.output, Nat.le_trans h.size hb.size, fun k hk hne => (hb.block k (by omega)).trans (h.block k hk hne)⟩
theorem snoc_B8 {L L' : List Int} {x : Int} (h : B8 L) (h0 : 0 ≤ x) (h1 : x ≤ 255) (e : L' = L ++ [x]) : B8 L' := by subst e; exact h.append (B8.cons h0 h1 B8.nil)
set_option maxRecDepth 100000 in
theorem bytes_any (p n : Nat) (w : World) (hn : n ≤ 1000) (hc : Cur w p) :
    Calls Try.prog 42 #[.pointer (some ⟨p, 0, none⟩), .int .i64 n] w (DBytes p n w) := by
  have hp := cur_lt hc
  go_enter Try.func42, Try.ntmps42
  go_wp2
  go_loopw [5, 6] (fun v i wr => BytesRel p n w v i wr) (fun _ i _ => n - (intOf i).toNat)
  case atStart => exact ⟨_, 0, [], 0, Nat.zero_le _, rfl, rfl, Nat.le_refl _, B8.nil, Own.lit w w.heap.size 5 .u8 (Nat.le_refl _), cur_alloc hc _, grown_alloc (grown_refl w _) _⟩
  case round =>
    obtain ⟨A, c, L, j, hj, rfl, rfl, hL, h8, ho, hcr, hg⟩ := hrel
    have H8 : Hid (B8 L) := Lib.hid h8
    have HO := Lib.hid ho; have HG := Lib.hid hg; have HC := Lib.hid hcr
    clear h8 ho hg hcr
    by_cases hlt : j < n
    · go_wp2_with fail
      refine (byte_any p _ HC.out).mono ?_
      rintro e w1 ⟨⟨x, hx0, hx1, rfl⟩, hc1, hg1⟩
      have HC1 := Lib.hid hc1
      have HG1 := Lib.hid (grown_trans HG.out hg1)
      have ho1 := own_cursor HO.out hg1 hp
      have hsz := HG1.out.size
      clear hc1 hg1
      go_wp2_with (at_builtin; refine app8 _ rfl _ _ rfl w.heap.size _ L rfl (ho1.alloc _) (w1.heap.size + 1) _ 1 _ [_] rfl rfl (sees_new w1 .u8 _ 5 _ (by omega)) (by simp; omega) (by simp; omega) ?_; intro A2 c2 L2 w2 hL2 h1 h2 ho2 hb2)
      go_roundw
      case rel => exact ⟨A2, c2, L2, j + 1, by omega, by go_num, rfl, by simp at h1; omega, snoc_B8 H8.out hx0 hx1 hL2.out, ho2, cur_below (cur_alloc HC1.out _) hb2 hp, grown_below (grown_alloc HG1.out _) hb2 (Nat.le_refl _)⟩
      case measure => simp [intOf]; omega
    · obtain rfl : j = n := by omega
      go_wp2
      go_ret
      exact ⟨A, c, L, H8.out, hL, rfl, HO.out, HC.out, HG.out⟩
/-- Bytes and a number were drawn by a whole draw. -/
def GotBN (m : Nat) (w : World) (e : Ending) (w' : World) : Prop :=
  ∃ A c L, ∃ n : Int, B8 L ∧ L.length ≤ m ∧ -9223372036854775808 ≤ n ∧ n ≤ 9223372036854775807 ∧ e = .returned (.tuple #[.slice A L.length c, .int .i64 n]) ∧ Own w' w.heap.size 5 .u8 (.slice A L.length c) L ∧ Below w.heap.size w w'
def GotBB (m : Nat) (w : World) (e : Ending) (w' : World) : Prop :=
  ∃ A c L A' c' L', B8 L ∧ L.length ≤ m ∧ B8 L' ∧ L'.length ≤ m ∧ e = .returned (.tuple #[.slice A L.length c, .slice A' L'.length c']) ∧ Own w' w.heap.size 5 .u8 (.slice A L.length c) L ∧ Own w' w.heap.size 5 .u8 (.slice A' L'.length c') L' ∧ Below w.heap.size w w'
theorem drawAppU_any (a : Option Addr) (len cap B : Nat) (w : World) (hc : Code w B a len) :
    Calls Try.prog 13 #[.slice a len cap] w (GotBN 2 w) := by
  go_enter Try.func13, Try.ntmps13
  go_wp2_with fail
  refine (new_any a len cap B _ hc).mono ?_
  rintro e w1 ⟨p, hp, rfl, hc1, hb1⟩
  go_wp2_with fail
  refine (below_any p 3 _ (by decide) (by decide) hc1).mono ?_
  rintro e w2 ⟨⟨x, hx0, hx1, rfl⟩, hc2, hg2⟩
  obtain ⟨k, rfl⟩ : ∃ k : Nat, x = k := ⟨x.toNat, by omega⟩
  have hk : k ≤ 2 := by omega
  go_wp2_with fail
  refine (bytes_any p k _ (by omega) hc2).mono ?_
  rintro e w3 ⟨A, c, L, h8, hL, rfl, ho3, hc3, hg3⟩
  have hp3 := cur_lt hc2
  go_wp2_with fail
  refine (one_any p _ hc3).mono ?_
  rintro e w4 ⟨⟨y, hy0, hy1, rfl⟩, hc4, hg4⟩
  go_wp2
  go_ret2
  have hs2 : w.heap.size ≤ w2.heap.size := Nat.le_trans hb1.size hg2.size
  exact ⟨A, c, L, y, h8, by omega, hy0, hy1, rfl, (own_cursor ho3 hg4 hp3).mono hs2, below_grown hb1 (grown_trans hg2 (grown_trans hg3 hg4)) hb1.size hp⟩
theorem drawAppB_any (a : Option Addr) (len cap B : Nat) (w : World) (hc : Code w B a len) :
    Calls Try.prog 19 #[.slice a len cap] w (GotBB 5 w) := by
  go_enter Try.func19, Try.ntmps19
  go_wp2_with fail
  refine (new_any a len cap B _ hc).mono ?_
  rintro e w1 ⟨p, hp, rfl, hc1, hb1⟩
  go_wp2_with fail
  refine (below_any p 3 _ (by decide) (by decide) hc1).mono ?_
  rintro e w2 ⟨⟨x, hx0, hx1, rfl⟩, hc2, hg2⟩
  obtain ⟨k, rfl⟩ : ∃ k : Nat, x = k := ⟨x.toNat, by omega⟩
  have hk : k ≤ 2 := by omega
  go_wp2_with fail
  refine (bytes_any p k _ (by omega) hc2).mono ?_
  rintro e w3 ⟨A, c, L, h8, hL, rfl, ho3, hc3, hg3⟩
  have hp3 := cur_lt hc2
  go_wp2_with fail
  refine (below_any p 6 _ (by decide) (by decide) hc3).mono ?_
  rintro e w4 ⟨⟨y, hy0, hy1, rfl⟩, hc4, hg4⟩
  obtain ⟨j, rfl⟩ : ∃ j : Nat, y = j := ⟨y.toNat, by omega⟩
  have hj : j ≤ 5 := by omega
  go_wp2_with fail
  refine (bytes_any p j _ (by omega) hc4).mono ?_
  rintro e w5 ⟨A', c', L', h8', hL', rfl, ho5, hc5, hg5⟩
  go_wp2
  go_ret2
  have hs2 : w.heap.size ≤ w2.heap.size := Nat.le_trans hb1.size hg2.size
  have hs4 : w.heap.size ≤ w4.heap.size := Nat.le_trans hs2 (Nat.le_trans hg3.size hg4.size)
  exact ⟨A, c, L, A', c', L', h8, by omega, h8', by omega, rfl, (own_cursor (own_cursor ho3 hg4 hp3) hg5 hp3).mono hs2, ho5.mono hs4, below_grown hb1 (grown_trans hg2 (grown_trans hg3 (grown_trans hg4 hg5))) hb1.size hp⟩
def ReadRel (p : Nat) (w : World) (v i : Value) (wr : World) : Prop :=
  ∃ (A : Option Addr) (c : Nat) (L : List Int) (j : Nat), i = .int .i64 j ∧ v = .slice A L.length c ∧ L.length + j ≤ 7 ∧ B8 L ∧ Own wr w.heap.size 5 .u8 (.slice A L.length c) L ∧ Cur wr p ∧ w.grownBy wr (some p)
set_option maxRecDepth 100000 in
theorem drawReadU_any (a : Option Addr) (len cap B : Nat) (w : World) (hc : Code w B a len) :
    Calls Try.prog 17 #[.slice a len cap] w (GotBN 7 w) := by
  go_enter Try.func17, Try.ntmps17
  go_wp2_with fail
  refine (new_any a len cap B _ hc).mono ?_
  rintro e w1 ⟨p, hp, rfl, hc1, hb1⟩
  go_wp2_with fail
  refine (once_any p 2 _ (by decide) (by decide) hc1).mono ?_
  rintro e w2 ⟨⟨x, rfl⟩, hc2, hg2⟩
  have hs2 : w.heap.size ≤ w2.heap.size := Nat.le_trans hb1.size hg2.size
  have HB2 := Lib.hid (below_grown hb1 hg2 hb1.size hp)
  have HC2 := Lib.hid hc2
  have hp2 := cur_lt hc2
  clear hb1 hc1 hg2 hc2
  cases x
  · go_wp2_with fail
    refine (below_any p 8 _ (by decide) (by decide) (cur_alloc HC2.out _)).mono ?_
    rintro e w3 ⟨⟨x, hx0, hx1, rfl⟩, hc3, hg3⟩
    obtain ⟨k, rfl⟩ : ∃ k : Nat, x = k := ⟨x.toNat, by omega⟩
    have hk : k ≤ 7 := by omega
    have HC3 := Lib.hid hc3
    have HG3 := Lib.hid (grown_trans (grown_alloc (grown_refl w2 (some p)) (.cells #[] 5)) hg3)
    have HO3 := Lib.hid (own_cursor (Own.lit w2 w2.heap.size 5 .u8 (Nat.le_refl _)) hg3 hp2)
    clear hc3 hg3 hx0 hx1
    go_wp2_with fail
    go_loopw [5, 6] (fun v i wr => ReadRel p w2 v i wr) (fun _ i _ => (intOf i).toNat)
    case atStart => exact ⟨_, 0, [], k, rfl, rfl, by simpa using hk, B8.nil, HO3.out, HC3.out, HG3.out⟩
    case round =>
      obtain ⟨A, c, L, j, rfl, rfl, hL, h8, ho, hcr, hg⟩ := hrel
      clear HO3 HC3 HG3
      have H8 : Hid (B8 L) := Lib.hid h8
      have HO := Lib.hid ho; have HG := Lib.hid hg; have HC := Lib.hid hcr
      clear h8 ho hg hcr
      by_cases hlt : 0 < j
      · go_wp2_with fail
        refine (ints_made p 5 5 _ [128, 255, 0, 1, 127] 0 255 wr _ _ rfl (by decide) (by decide) rfl rfl (by decide) HC.out).mono ?_
        rintro e w4 ⟨⟨x, hx0, hx1, rfl⟩, hc4, hg4⟩
        have HC4 := Lib.hid hc4
        have HG4 := Lib.hid (grown_trans HG.out hg4)
        have ho4 := own_cursor HO.out hg4 hp2
        have hsz := HG4.out.size
        clear hc4 hg4
        go_wp2_with (at_builtin; refine app8 _ rfl _ _ rfl w2.heap.size _ L rfl (ho4.alloc _) (w4.heap.size + 1) _ 1 _ [_] rfl rfl (sees_new w4 .u8 _ 5 _ (by omega)) (by simp; omega) (by simp; omega) ?_; intro A2 c2 L2 w5 hL2 h1 h2 ho2 hb2)
        go_roundw
        case rel => exact ⟨A2, c2, L2, j - 1, by go_num, rfl, by simp at h1; omega, snoc_B8 H8.out hx0 hx1 hL2.out, ho2, cur_below (cur_alloc HC4.out _) hb2 hp2, grown_below (grown_alloc HG4.out _) hb2 (Nat.le_refl _)⟩
        case measure => simp [intOf]; omega
      · obtain rfl : j = 0 := by omega
        go_wp2_with fail
        refine (below_any p 4 _ (by decide) (by decide) HC.out).mono ?_
        rintro e w4 ⟨⟨x, hx0, hx1, rfl⟩, hc4, hg4⟩
        go_wp2
        go_ret2
        exact ⟨A, c, L, x - 1, H8.out, by omega, by omega, by omega, rfl, (own_cursor HO.out hg4 hp2).mono hs2, below_grown HB2.out (grown_trans HG.out hg4) hs2 hp⟩
  · go_wp2_with fail
    refine (bytes_any p 1 _ (by decide) HC2.out).mono ?_
    rintro e w3 ⟨A, c, L, h8, hL, rfl, ho3, hc3, hg3⟩
    have H8 : Hid (B8 L) := Lib.hid h8
    clear h8
    go_wp2_with fail
    refine (num_any p _ hc3).mono ?_
    rintro e w4 ⟨⟨y, hy0, hy1, rfl⟩, hc4, hg4⟩
    have ho4 := own_cursor ho3 hg4 hp2
    have HG4 := Lib.hid (grown_trans hg3 hg4)
    have HS := Lib.hid ho4.sees
    clear ho3 hc3 hg3 hg4 ho4 hc4
    have hE := enc_len y
    go_wp2_with fail
    refine (sapp_any A c L y _ HS.out (by omega)).mono ?_
    rintro e w5 ⟨A5, c5, L5, HL5, rfl, ho5, hb5⟩
    go_wp2
    go_ret2
    have hs4 : w.heap.size ≤ w4.heap.size := Nat.le_trans hs2 HG4.out.size
    have e5 := HL5.out
    exact ⟨A5, c5, L5, 1, by rw [e5]; exact H8.out.append (enc_B8 y), by rw [e5, List.length_append]; omega, by omega, by omega, rfl, ho5.mono hs4, (below_grown HB2.out HG4.out hs2 hp).trans (hb5.mono hs4)⟩
/-- A byte of the input, or a number of its own. -/
def AtOut (w : World) (e : Ending) (w' : World) : Prop := ∃ n : Int, 0 ≤ n ∧ n ≤ 255 ∧ e = .returned (.int .i64 n) ∧ w = w'
theorem at_nat (A : Option Addr) (c k B : Nat) (l : List Int) (w : World) (hs : Sees w B .u8 A l) (h8 : B8 l) (hk : k ≤ 1000) (hl : l.length ≤ 1048576) :
    Calls Try.prog 22 #[.slice A l.length c, .int .i64 k] w (AtOut w) := by
  by_cases h : k < l.length
  · obtain ⟨b, off, x, rfl, hbl, hx, hc⟩ := hs.lt h
    have hx8 := h8 x (List.mem_of_getElem? hx)
    clear hs h8 hx
    go_enter Try.func22, Try.ntmps22
    go_wp2
    go_ret
    exact ⟨x, hx8.1, hx8.2, rfl, rfl⟩
  · clear hs h8
    go_enter Try.func22, Try.ntmps22
    go_wp2
    go_ret
    exact ⟨_, by omega, by omega, rfl, rfl⟩
theorem at_any (A : Option Addr) (c B : Nat) (k : Int) (l : List Int) (w : World) (hs : Sees w B .u8 A l) (h8 : B8 l) (h0 : 0 ≤ k) (hk : k ≤ 1000) (hl : l.length ≤ 1048576) :
    Calls Try.prog 22 #[.slice A l.length c, .int .i64 k] w (AtOut w) := by
  obtain ⟨n, rfl⟩ : ∃ n : Nat, k = n := ⟨k.toNat, by omega⟩
  exact at_nat A c n B l w hs h8 (by omega) hl
end Go.Proofs.Ytnjmohpdmboopaa
