/- The encoders of chapter 2, of package impl and of the model: what they append, in new memory. -/
import Derived.Test.YtnjmohpdmboopaaHelp
import Derived.Test.YtnjmohpdmboopaaVar
import Derived.Test.YtnjmohpdmboopaaInt
namespace Go.Proofs.Ytnjmohpdmboopaa
open Go.RowKit
set_option linter.unusedVariables false

/-- A call gives a slice, owned from block B on, that shows l. -/
def GivesAt (B : Nat) (T : TypeId) (k : IntKind) (l : List Int) (w : World) (e : Ending) (w' : World) : Prop :=
  ∃ A c L, Hid (L = l) ∧ e = .returned (.slice A L.length c) ∧ Own w' B T k (.slice A L.length c) L ∧ Below B w w'
theorem giveAt {B : Nat} {T : TypeId} {k : IntKind} {l L : List Int} {w w' : World} {A : Option Addr} {c : Nat} (e : L = l) (ho : Own w' B T k (.slice A L.length c) L) (hb : Below B w w') :
    GivesAt B T k l w (.returned (.slice A L.length c)) w' := ⟨A, c, L, Lib.hid e, rfl, ho, hb⟩
theorem give {T : TypeId} {k : IntKind} {l L : List Int} {w w' : World} {A : Option Addr} {c : Nat} (e : L = l) (ho : Own w' w.heap.size T k (.slice A L.length c) L) (hb : Below w.heap.size w w') :
    Gives T k l w (.returned (.slice A L.length c)) w' := ⟨A, c, L, Lib.hid e, rfl, ho, hb⟩
theorem copyBytes_any (A : Option Addr) (c : Nat) (l : List Int) (w : World) (hs : Sees w w.heap.size .u8 A l) (hl : l.length ≤ 8796093022208) :
    Calls Try.prog 46 #[.slice A l.length c] w (Gives 5 .u8 l w) := by
  have HS := Lib.hid hs; clear hs
  go_enter Try.func46, Try.ntmps46
  go_wp2_with (at_builtin; refine app8 _ rfl _ _ rfl w.heap.size _ [] rfl (Own.lit w w.heap.size 5 .u8 (Nat.le_refl _)) w.heap.size A l.length c l rfl rfl (HS.out.alloc (Nat.le_refl _) _) (by simp; omega) (by simp) ?_; intro A' c' L w1 hL h1 h2 hown hb)
  go_ret
  exact give hL.out hown (((Below.refl _ _).alloc (Nat.le_refl _) _).trans hb)
theorem put_out (B : Nat) (A : Option Addr) (c : Nat) (l : List Int) (n : Int) (w : World) (ho : Own w B 5 .u8 (.slice A l.length c) l) (hn : ¬ (0 ≤ n ∧ n ≤ 1000000000000)) :
    Calls Try.prog 45 #[.slice A l.length c, .int .i64 n] w (GivesAt B 5 .u8 (l ++ enc n) w) := by
  have hf : inB n 0 1000000000000 = false := by
    rcases (by omega : n < 0 ∨ 1000000000000 < n) with h | h
    · exact inB_low h
    · exact inB_high h
  have HF := Lib.hid hf; clear hf
  have HO := Lib.hid ho; clear ho
  have HN := Lib.hid hn; clear hn
  go_enter Try.func45, Try.ntmps45
  go_wp2_with (go_at_call 47; refine (in_is _ _ _ false _ HF.out).mono ?_; rintro e w' ⟨rfl, rfl⟩)
  go_ret
  exact giveAt (by rw [enc_out HN.out, List.append_nil]) HO.out (Below.refl _ _)
theorem put_end {L l L2 : List Int} {m n : Nat} (hu : L ++ uv m = l ++ uv n) (hm : m < 128) (hn : n ≤ 1000000000000) (h : L2 = L ++ [(m : Int)]) : L2 = l ++ enc n := by
  rw [h, enc_in hn, ← hu, uv_small hm]
theorem put_step {L l L2 : List Int} {m n : Nat} (hu : L ++ uv m = l ++ uv n) (hm : ¬ m < 128) (hn : n ≤ 1000000000000) (h : L2 = L ++ [bits .or .u8 ((m : Int) % 128) 128]) :
    L2 ++ uv (m / 128) = l ++ uv n ∧ L2.length ≤ l.length + 6 := by
  have e : bits .or .u8 ((m : Int) % 128) 128 = ((m % 128 + 128 : Nat) : Int) := by rw [u8_or128_right _ (by omega) (by omega)]; omega
  have h1 : L2 ++ uv (m / 128) = l ++ uv n := by rw [h, e, ← hu, uv_big hm]; simp
  have h2 := congrArg List.length h1
  have h3 := uv_len6 hn
  simp only [List.length_append] at h2
  exact ⟨h1, by omega⟩
def PutRel (B : Nat) (l : List Int) (n : Nat) (w : World) (v v1 : Value) (wr : World) : Prop :=
  ∃ (A : Option Addr) (c : Nat) (L : List Int) (m : Nat), v = .slice A L.length c ∧ v1 = .int .i64 m ∧ m ≤ 1000000000000 ∧ L.length ≤ l.length + 6 ∧ Own wr B 5 .u8 (.slice A L.length c) L ∧ L ++ uv m = l ++ uv n ∧ Below B w wr
set_option maxRecDepth 100000 in
theorem put_in (B : Nat) (A : Option Addr) (c : Nat) (l : List Int) (n : Nat) (w : World) (ho : Own w B 5 .u8 (.slice A l.length c) l) (hn : n ≤ 1000000000000) (hl : l.length ≤ 8796093022208) (hB : B ≤ w.heap.size) :
    Calls Try.prog 45 #[.slice A l.length c, .int .i64 n] w (GivesAt B 5 .u8 (l ++ enc n) w) := by
  have HO := Lib.hid ho; clear ho
  go_enter Try.func45, Try.ntmps45
  go_wp2_with (go_at_call 47; refine (in_is _ _ _ true _ (inB_yes (by omega) (by omega))).mono ?_; rintro e w' ⟨rfl, rfl⟩)
  go_loopw [0, 1] (fun v v1 wr => PutRel B l n w v v1 wr) (fun _ v1 _ => (intOf v1).toNat)
  case atStart => exact ⟨A, c, l, n, rfl, rfl, hn, by omega, HO.out, rfl, Below.refl _ _⟩
  case round =>
    obtain ⟨A', c', L, m, rfl, rfl, hm, hLl, hown, hu, hb⟩ := hrel
    clear HO
    have HU := Lib.hid hu; clear hu
    have HB := Lib.hid hb; clear hb
    have hsz := HB.out.size
    by_cases hlt : m < 128
    · go_wp2_with (at_builtin; refine app8 _ rfl _ _ rfl B _ L rfl (hown.alloc _) (wr.heap.size + 1) _ 1 _ [_] rfl rfl (sees_new wr .u8 _ 5 _ (by omega)) (by simp; omega) (by simp; omega) ?_; intro A2 c2 L2 w2 hL2 h1 h2 hown2 hb2)
      go_ret
      exact giveAt (put_end HU.out hlt hn hL2.out) hown2 (HB.out.trans (((Below.refl _ _).alloc (by omega) _).trans hb2))
    · go_wp2_with (at_builtin; refine app8 _ rfl _ _ rfl B _ L rfl (hown.alloc _) (wr.heap.size + 1) _ 1 _ [_] rfl rfl (sees_new wr .u8 _ 5 _ (by omega)) (by simp; omega) (by simp; omega) ?_; intro A2 c2 L2 w2 hL2 h1 h2 hown2 hb2)
      go_roundw
      case rel =>
        have hs := put_step HU.out hlt hn hL2.out
        exact ⟨A2, c2, L2, m / 128, rfl, by go_num, by omega, hs.2, hown2, hs.1, HB.out.trans (((Below.refl _ _).alloc (by omega) _).trans hb2)⟩
      case measure => simp [intOf]; omega
theorem put_any (B : Nat) (A : Option Addr) (c : Nat) (l : List Int) (n : Int) (w : World) (ho : Own w B 5 .u8 (.slice A l.length c) l) (hl : l.length ≤ 8796093022208) (hB : B ≤ w.heap.size) :
    Calls Try.prog 45 #[.slice A l.length c, .int .i64 n] w (GivesAt B 5 .u8 (l ++ enc n) w) := by
  by_cases h : 0 ≤ n ∧ n ≤ 1000000000000
  · obtain ⟨m, rfl⟩ : ∃ m : Nat, n = m := ⟨n.toNat, by omega⟩
    exact put_in B A c l m w ho (by omega) hl hB
  · exact put_out B A c l n w ho h
theorem appU_any (A : Option Addr) (c : Nat) (l : List Int) (n : Int) (w : World) (hs : Sees w w.heap.size .u8 A l) (hl : l.length ≤ 4398046511104) :
    Calls Try.prog 14 #[.slice A l.length c, .int .i64 n] w (Gives 5 .u8 (l ++ enc n) w) := by
  have HS := Lib.hid hs; clear hs
  go_enter Try.func14, Try.ntmps14
  go_wp2_with fail
  refine (copyBytes_any A c l _ HS.out (by omega)).mono ?_
  rintro e w1 ⟨A1, c1, L1, HL1, rfl, ho1, hb1⟩
  obtain rfl := HL1.out; clear HL1
  go_wp2_with fail
  refine (put_any w.heap.size A1 c1 L1 n _ ho1 (by omega) hb1.size).mono ?_
  rintro e w2 ⟨A2, c2, L2, HL2, rfl, ho2, hb2⟩
  go_wp2
  go_ret
  exact give HL2.out ho2 (hb1.trans hb2)
theorem appB_any (A A' : Option Addr) (c c' : Nat) (l d : List Int) (w : World) (hs : Sees w w.heap.size .u8 A l) (hd : Sees w w.heap.size .u8 A' d) (hl : l.length ≤ 4398046511104) (hl' : d.length ≤ 4398046511104) :
    Calls Try.prog 20 #[.slice A l.length c, .slice A' d.length c'] w (Gives 5 .u8 (l ++ enc d.length ++ d) w) := by
  have HS := Lib.hid hs; clear hs
  have HD := Lib.hid hd; clear hd
  have hE := enc_len d.length
  go_enter Try.func20, Try.ntmps20
  go_wp2_with fail
  refine (copyBytes_any A c l _ HS.out (by omega)).mono ?_
  rintro e w1 ⟨A1, c1, L1, HL1, rfl, ho1, hb1⟩
  obtain rfl := HL1.out; clear HL1
  go_wp2_with fail
  refine (put_any w.heap.size A1 c1 L1 d.length _ ho1 (by omega) hb1.size).mono ?_
  rintro e w2 ⟨A2, c2, L2, HL2, rfl, ho2, hb2⟩
  have hb := hb1.trans hb2
  have HD2 := Lib.hid (HD.out.below hb)
  have hLl : L2.length ≤ L1.length + 6 := by rw [HL2.out, List.length_append]; omega
  go_wp2_with (at_builtin; refine app8 _ rfl _ _ rfl w.heap.size _ L2 rfl ho2 w.heap.size A' d.length c' d rfl rfl HD2.out (by omega) hb.size ?_; intro A3 c3 L3 w3 hL3 h1 h2 ho3 hb3)
  go_ret
  exact give (by rw [hL3.out, HL2.out]) ho3 (hb.trans hb3)
end Go.Proofs.Ytnjmohpdmboopaa
