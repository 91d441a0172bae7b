/- ReadBytes, of package impl and of the model. -/
import Derived.Test.YtnjmohpdmboopaaSRead
namespace Go.Proofs.Ytnjmohpdmboopaa
open Go.RowKit
set_option linter.unusedVariables false

def rbL (o : Option (List Int × Nat)) : List Int := match o with | none => [] | some p => p.1
def rbN (o : Option (List Int × Nat)) : Int := match o with | none => 0 | some p => (p.2 : Int)
def rbB (o : Option (List Int × Nat)) : Bool := match o with | none => false | some _ => true
/-- A call gives a new slice, a number and whether it could be read. -/
def GivesT (T : TypeId) (k : IntKind) (o : Option (List Int × Nat)) (w : World) (e : Ending) (w' : World) : Prop :=
  ∃ A c L, Hid (L = rbL o) ∧ e = .returned (.tuple #[.slice A L.length c, .int .i64 (rbN o), .bool (rbB o)]) ∧ Own w' w.heap.size T k (.slice A L.length c) L ∧ Below w.heap.size w w'
theorem giveT_no {T : TypeId} {k : IntKind} {o : Option (List Int × Nat)} {w w' : World} {g : Nat} (h : o = none) (hg : g = w'.heap.size) (hb : Below w.heap.size w w') :
    GivesT T k o w (.returned (.tuple #[.slice (some ⟨g, 0, none⟩) 0 0, .int .i64 0, .bool false])) (w'.alloc (.cells #[] T)) := by
  subst h; subst hg
  exact ⟨_, 0, [], Lib.hid rfl, rfl, Own.lit w' w.heap.size T k hb.size, hb.alloc hb.size _⟩
theorem giveT_yes {T : TypeId} {k : IntKind} {o : Option (List Int × Nat)} {w w' : World} {A : Option Addr} {c a n : Nat} {l L : List Int} {x : Int} (h : o = some (l, a)) (hx : x = a) (hl : L = l) (hn : n = L.length) (ho : Own w' w.heap.size T k (.slice A L.length c) L) (hb : Below w.heap.size w w') :
    GivesT T k o w (.returned (.tuple #[.slice A n c, .int .i64 x, .bool true])) w' := by
  subst h; subst hx; subst hn
  exact ⟨A, c, L, Lib.hid hl, rfl, ho, hb⟩
theorem rb_cases {l : List Int} (hl : B8 l) (off most : Int) :
    readV l off = none ∨ ∃ n a : Nat, readV l off = some (n, a) ∧ a ≤ l.length ∧ n ≤ 1000000000000 ∧ (most < n ∨ (¬ most < n ∧ l.length < a + n) ∨ (¬ most < n ∧ a + n ≤ l.length)) := by
  match h : readV l off with
  | none => exact .inl rfl
  | some (n, a) =>
    obtain ⟨k, _, _, h1, h2, _⟩ := readV_inv hl h
    exact .inr ⟨n, a, rfl, h1, h2, by omega⟩
theorem rb_len (l : List Int) (off most : Int) : (rbL (rbV l off most)).length ≤ l.length := by
  unfold rbV
  split
  · simp [rbL]
  · split
    · simp [rbL]
    · simp [rbL]; omega
set_option maxRecDepth 100000 in
theorem readB_any (A : Option Addr) (c : Nat) (l : List Int) (off most : Int) (w : World) (hs : Sees w w.heap.size .u8 A l) (h8 : B8 l) (hc : l.length ≤ c) (hl : l.length ≤ 4398046511104) :
    Calls Try.prog 21 #[.slice A l.length c, .int .i64 off, .int .i64 most] w (GivesT 5 .u8 (rbV l off most) w) := by
  have H8 : Hid (B8 l) := Lib.hid h8
  have HS := Lib.hid hs
  have hcs := rb_cases h8 off most
  clear hs h8
  rcases hcs with hv | ⟨n, a, hv, ha, hn, hcs⟩
  · have HV := Lib.hid hv; clear hv
    go_enter Try.func21, Try.ntmps21
    go_wp2_with fail
    refine (read_any A c l off _ HS.out H8.out hc hl).mono ?_
    rintro e w1 ⟨he, hb1⟩
    rw [HV.out] at he; unfold rvV at he; subst he
    go_wp2
    go_ret3
    exact giveT_no (rbV_none HV.out) rfl hb1
  · have HV := Lib.hid hv; clear hv
    rcases hcs with hm | ⟨hm, hlt⟩ | ⟨hm, hle⟩
    · go_enter Try.func21, Try.ntmps21
      go_wp2_with fail
      refine (read_any A c l off _ HS.out H8.out hc hl).mono ?_
      rintro e w1 ⟨he, hb1⟩
      rw [HV.out] at he; unfold rvV at he; subst he
      go_wp2
      go_ret3
      exact giveT_no (rbV_bad HV.out (.inl hm)) rfl hb1
    · go_enter Try.func21, Try.ntmps21
      go_wp2_with fail
      refine (read_any A c l off _ HS.out H8.out hc hl).mono ?_
      rintro e w1 ⟨he, hb1⟩
      rw [HV.out] at he; unfold rvV at he; subst he
      have hd : (l.length : Int) - a < n := by omega
      go_wp2
      go_ret3
      exact giveT_no (rbV_bad HV.out (.inr hlt)) rfl hb1
    · go_enter Try.func21, Try.ntmps21
      go_wp2_with fail
      refine (read_any A c l off _ HS.out H8.out hc hl).mono ?_
      rintro e w1 ⟨he, hb1⟩
      rw [HV.out] at he; unfold rvV at he; subst he
      go_wp2_with fail
      refine (take_any A c w.heap.size a n l _ (HS.out.below hb1) hc hle hl).mono ?_
      rintro e w2 ⟨A2, L2, HL2, hLn, rfl, hs2, rfl⟩
      have HN := Lib.hid hLn
      subst hLn
      have hs3 := hs2.mono hb1.size
      clear hs2
      have HS3 := Lib.hid hs3; clear hs3
      go_wp2_with fail
      refine (copyBytes_any A2 _ L2 _ HS3.out (by omega)).mono ?_
      rintro e w3 ⟨A3, c3, L3, HL3, rfl, ho3, hb3⟩
      obtain rfl : L2 = L3 := HL3.out.symm; clear HL3
      go_wp2
      go_ret3
      exact giveT_yes (rbV_good HV.out (by omega)) (by omega) HL2.out rfl (ho3.mono hb1.size) (hb1.trans (hb3.mono hb1.size))
set_option maxRecDepth 100000 in
theorem sreadB_any (A : Option Addr) (c : Nat) (l : List Int) (off most : Int) (w : World) (hs : Sees w w.heap.size .u8 A l) (h8 : B8 l) (hc : l.length ≤ c) (hl : l.length ≤ 4398046511104) (ho : -9223372036854775808 ≤ off ∧ off ≤ 9223372036854775807) :
    Calls Try.prog 32 #[.slice A l.length c, .int .i64 off, .int .i64 most] w (GivesT 5 .u8 (rbV l off most) w) := by
  have H8 : Hid (B8 l) := Lib.hid h8
  have HS := Lib.hid hs
  have hcs := rb_cases h8 off most
  clear hs h8
  rcases hcs with hv | ⟨n, a, hv, ha, hn, hcs⟩
  · have HV := Lib.hid hv; clear hv
    go_enter Try.func32, Try.ntmps32
    go_wp2_with fail
    refine (sread_any A c _ l off _ HS.out H8.out hl ho.1 ho.2).mono ?_
    rintro e w1 ⟨he, rfl⟩
    rw [HV.out] at he; unfold rvV at he; subst he
    go_wp2
    go_ret3
    exact giveT_no (rbV_none HV.out) rfl (Below.refl _ _)
  · have HV := Lib.hid hv; clear hv
    rcases hcs with hm | ⟨hm, hlt⟩ | ⟨hm, hle⟩
    · go_enter Try.func32, Try.ntmps32
      go_wp2_with fail
      refine (sread_any A c _ l off _ HS.out H8.out hl ho.1 ho.2).mono ?_
      rintro e w1 ⟨he, rfl⟩
      rw [HV.out] at he; unfold rvV at he; subst he
      go_wp2
      go_ret3
      exact giveT_no (rbV_bad HV.out (.inl hm)) rfl (Below.refl _ _)
    · go_enter Try.func32, Try.ntmps32
      go_wp2_with fail
      refine (sread_any A c _ l off _ HS.out H8.out hl ho.1 ho.2).mono ?_
      rintro e w1 ⟨he, rfl⟩
      rw [HV.out] at he; unfold rvV at he; subst he
      have hd : (l.length : Int) - a < n := by omega
      go_wp2
      go_ret3
      exact giveT_no (rbV_bad HV.out (.inr hlt)) rfl (Below.refl _ _)
    · by_cases hn0 : n = 0
      · subst hn0
        go_enter Try.func32, Try.ntmps32
        go_wp2_with fail
        refine (sread_any A c _ l off _ HS.out H8.out hl ho.1 ho.2).mono ?_
        rintro e w1 ⟨he, rfl⟩
        rw [HV.out] at he; unfold rvV at he; subst he
        go_wp2_with (at_builtin; refine app8 _ rfl _ _ rfl w.heap.size _ [] rfl (Own.lit w w.heap.size 5 .u8 (Nat.le_refl _)) w.heap.size _ 0 _ [] rfl rfl Sees.nil (by simp) (by simp) ?_; intro A3 c3 L3 w3 hL3 h1 h2 ho3 hb3)
        all_goals
          go_ret3
          exact giveT_yes (rbV_good HV.out (by omega)) (by omega) (by rw [hL3.out]; simp) rfl ho3 (((Below.refl _ _).alloc (Nat.le_refl _) _).trans hb3)
      · have hca : ¬ c = a := by omega
        obtain ⟨L2, hL2⟩ : ∃ L2, L2 = (l.drop a).take n := ⟨_, rfl⟩
        have hs2 : Sees w w.heap.size .u8 (A.map (·.add a)) L2 := by rw [hL2]; exact HS.out.cut a n _ (fun _ => rfl)
        have hn2 : n = L2.length := by rw [hL2]; simp; omega
        have HS2 := Lib.hid hs2; have HL2 := Lib.hid hL2
        clear hs2 hL2
        subst hn2
        go_enter Try.func32, Try.ntmps32
        go_wp2_with fail
        refine (sread_any A c _ l off _ HS.out H8.out hl ho.1 ho.2).mono ?_
        rintro e w1 ⟨he, rfl⟩
        rw [HV.out] at he; unfold rvV at he; subst he
        go_wp2_with (at_builtin; refine app8 _ rfl _ _ rfl w.heap.size _ [] rfl (Own.lit w w.heap.size 5 .u8 (Nat.le_refl _)) w.heap.size _ _ _ L2 rfl (by omega) (HS2.out.alloc (Nat.le_refl _) _) (by simp; omega) (by simp) ?_; intro A3 c3 L3 w3 hL3 h1 h2 ho3 hb3)
        all_goals
          go_ret3
          exact giveT_yes (rbV_good HV.out (by omega)) (by omega) (by rw [hL3.out, ← HL2.out]; simp) (by omega) ho3 (((Below.refl _ _).alloc (Nat.le_refl _) _).trans hb3)
end Go.Proofs.Ytnjmohpdmboopaa
