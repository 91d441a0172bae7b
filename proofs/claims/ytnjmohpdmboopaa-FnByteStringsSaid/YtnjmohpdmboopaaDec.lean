/- DecodeInts of the model. -/
import Derived.Test.YtnjmohpdmboopaaBytes
namespace Go.Proofs.Ytnjmohpdmboopaa
open Go.RowKit
set_option linter.unusedVariables false

theorem readV_bd {l : List Int} (hl : B8 l) {off : Int} {m a : Nat} (h : readV l off = some (m, a)) : a ≤ l.length ∧ m ≤ 1000000000000 := by
  obtain ⟨_, _, _, h1, h2, _⟩ := readV_inv hl h
  exact ⟨h1, h2⟩
/-- What is read so far: L, and the offset a behind it. -/
def DecEq (l : List Int) (n k i a : Nat) (L : List Int) : Prop := decs l n k = (decs l (n - i) a).map fun p => (L ++ p.1, p.2)
theorem decEq_start (l : List Int) (n k : Nat) : DecEq l n k 0 k [] := by unfold DecEq; simp
theorem decEq_none {l L : List Int} {n k i a : Nat} (h : DecEq l n k i a L) (hi : i < n) (hr : readV l a = none) : decs l n k = none := by
  unfold DecEq at h
  rw [h, show n - i = (n - (i + 1)) + 1 by omega, decs_none hr]; rfl
theorem decEq_next {l L : List Int} {n k i a m b : Nat} (h : DecEq l n k i a L) (hi : i < n) (hr : readV l a = some (m, b)) : DecEq l n k (i + 1) b (L ++ [(m : Int)]) := by
  unfold DecEq at h ⊢
  rw [h, show n - i = (n - (i + 1)) + 1 by omega, decs_some hr]; simp [Function.comp_def]
theorem decEq_end {l L : List Int} {n k a : Nat} (h : DecEq l n k n a L) : decs l n k = some (L, a) := by
  unfold DecEq at h
  rw [h, Nat.sub_self]; simp [decs]
def SDecRel (l : List Int) (n k : Nat) (w : World) (v1 v9 v10 : Value) (wr : World) : Prop :=
  ∃ (A : Option Addr) (c : Nat) (L : List Int) (i a : Nat), i ≤ n ∧ v1 = .int .i64 a ∧ v9 = .slice A L.length c ∧ v10 = .int .i64 i ∧ L.length ≤ i ∧ a ≤ l.length ∧ DecEq l n k i a L ∧ Own wr w.heap.size 3 .i64 (.slice A L.length c) L ∧ Below w.heap.size w wr
set_option maxRecDepth 100000 in
set_option maxHeartbeats 1000000 in
theorem sdec_in (A : Option Addr) (c n k : Nat) (l : List Int) (w : World) (hs : Sees w w.heap.size .u8 A l) (h8 : B8 l) (hl : l.length ≤ 4398046511104) (hn : n ≤ 100) (hk : k ≤ l.length) :
    Calls Try.prog 37 #[.slice A l.length c, .int .i64 k, .int .i64 n] w (GivesT 3 .i64 (decV l k n) w) := by
  have H8 : Hid (B8 l) := Lib.hid h8
  have HS := Lib.hid hs
  clear hs h8
  go_enter Try.func37, Try.ntmps37
  go_wp2_with fail
  refine (l1in_is _ _ _ true _ (inB_yes (by omega) (by omega))).mono ?_
  rintro e w' ⟨rfl, rfl⟩
  go_wp2_with fail
  refine (l1in_is _ _ _ true _ (inB_yes (by omega) (by omega))).mono ?_
  rintro e w' ⟨rfl, rfl⟩
  go_wp2_with fail
  go_loopw [1, 9, 10] (fun v1 v9 v10 wr => SDecRel l n k w v1 v9 v10 wr) (fun _ _ v10 _ => n - (intOf v10).toNat)
  case atStart => exact ⟨_, _, [], 0, k, Nat.zero_le _, rfl, rfl, rfl, Nat.le_refl _, hk, decEq_start _ _ _, Own.lit w w.heap.size 3 .i64 (Nat.le_refl _), (Below.refl _ _).alloc (Nat.le_refl _) _⟩
  case round =>
    obtain ⟨A1, c1, L, i, a, hi, rfl, rfl, rfl, hLn, ha, hd, ho, hb⟩ := hrel
    have HD := Lib.hid hd; clear hd
    have HB := Lib.hid hb; clear hb
    by_cases hlt : i < n
    · have HS1 := Lib.hid (HS.out.below HB.out)
      match hr : readV l a with
      | none =>
        have HR := Lib.hid hr; clear hr
        go_wp2_with fail
        refine (sread_any A c _ l a _ HS1.out H8.out hl (by omega) (by omega)).mono ?_
        rintro e w2 ⟨he, rfl⟩
        rw [HR.out] at he; unfold rvV at he; subst he
        go_wp2
        go_ret3
        exact giveT_no (by rw [decV_in hn hk]; exact decEq_none HD.out hlt HR.out) rfl HB.out
      | some (m, b) =>
        obtain ⟨hbl, hm⟩ := readV_bd H8.out hr
        have HR := Lib.hid hr; clear hr
        have hsz := HB.out.size
        go_wp2_with fail
        refine (sread_any A c _ l a _ HS1.out H8.out hl (by omega) (by omega)).mono ?_
        rintro e w2 ⟨he, rfl⟩
        rw [HR.out] at he; unfold rvV at he; subst he
        go_wp2_with (at_builtin; refine app64 _ rfl _ _ rfl w.heap.size _ L rfl (ho.alloc _) (wr.heap.size + 1) _ 1 _ [_] rfl rfl (sees_new wr .i64 _ 3 _ (by omega)) (by simp; omega) (by simp; omega) ?_; intro A3 c3 L3 w3 hL3 h1 h2 ho3 hb3)
        go_roundw
        case rel => exact ⟨A3, c3, L3, i + 1, b, by omega, rfl, rfl, by go_num, by simp at h1; omega, hbl, by rw [hL3.out]; exact decEq_next HD.out hlt HR.out, ho3, HB.out.trans (((Below.refl _ _).alloc (by omega) _).trans hb3)⟩
        case measure => simp [intOf]; omega
    · obtain rfl : i = n := by omega
      go_wp2
      go_ret3
      exact giveT_yes (by rw [decV_in hn hk]; exact decEq_end HD.out) rfl rfl rfl ho HB.out
theorem dec_no_range {l : List Int} {off n : Int} (h : n < 0 ∨ 100 < n ∨ ((0 ≤ n ∧ n ≤ 100) ∧ (off < 0 ∨ (l.length : Int) < off))) : decV l off n = none := decV_out (by omega)
set_option maxRecDepth 100000 in
theorem sdec_any (A : Option Addr) (c : Nat) (l : List Int) (off n : Int) (w : World) (hs : Sees w w.heap.size .u8 A l) (h8 : B8 l) (hl : l.length ≤ 4398046511104) :
    Calls Try.prog 37 #[.slice A l.length c, .int .i64 off, .int .i64 n] w (GivesT 3 .i64 (decV l off n) w) := by
  by_cases hn : 0 ≤ n ∧ n ≤ 100
  · by_cases ho : 0 ≤ off ∧ off ≤ l.length
    · obtain ⟨k, rfl⟩ : ∃ k : Nat, off = k := ⟨off.toNat, by omega⟩
      obtain ⟨m, rfl⟩ : ∃ m : Nat, n = m := ⟨n.toNat, by omega⟩
      exact sdec_in A c m k l w hs h8 hl (by omega) (by omega)
    · have hf : inB off 0 l.length = false := by
        rcases (by omega : off < 0 ∨ (l.length : Int) < off) with h | h
        · exact inB_low h
        · exact inB_high h
      have HF := Lib.hid hf
      have HNo : Hid (decV l off n = none) := Lib.hid (dec_no_range (by omega))
      clear hs h8 hf ho
      go_enter Try.func37, Try.ntmps37
      go_wp2_with fail
      refine (l1in_is _ _ _ true _ (inB_yes (by omega) (by omega))).mono ?_
      rintro e w' ⟨rfl, rfl⟩
      go_wp2_with fail
      refine (l1in_is _ _ _ false _ HF.out).mono ?_
      rintro e w' ⟨rfl, rfl⟩
      go_wp2_with fail
      go_ret3
      exact giveT_no HNo.out rfl (Below.refl _ _)
  · have hf : inB n 0 100 = false := by
      rcases (by omega : n < 0 ∨ 100 < n) with h | h
      · exact inB_low h
      · exact inB_high h
    have HF := Lib.hid hf
    have HNo : Hid (decV l off n = none) := Lib.hid (dec_no_range (by omega))
    clear hs h8 hf hn
    go_enter Try.func37, Try.ntmps37
    go_wp2_with fail
    refine (l1in_is _ _ _ false _ HF.out).mono ?_
    rintro e w' ⟨rfl, rfl⟩
    go_wp2_with fail
    go_ret3
    exact giveT_no HNo.out rfl (Below.refl _ _)
end Go.Proofs.Ytnjmohpdmboopaa
