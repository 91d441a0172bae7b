/- The encoders of chapter 2, of package impl and of the model: what they append, in new memory. -/
import Derived.Test.YtalghkfkeaogfaaHelp
import Derived.Test.YtalghkfkeaogfaaVar
import Derived.Test.YtalghkfkeaogfaaInt
namespace Go.Proofs.Ytalghkfkeaogfaa
open Go.RowKit
set_option linter.unusedVariables false

/-- A call gives a slice, owned from block B on, that shows l. -/
def GivesAt (B : Nat) (T : TypeId) (k : IntKind) (l : List Int) (w : World) (e : Ending) (w' : World) : Prop :=
  ∃ A c L, Hid (L = l) ∧ e = .returned (.slice A L.length c) ∧ Own w' B T k (.slice A L.length c) L ∧ Below B w w'
theorem giveAt {B : Nat} {T : TypeId} {k : IntKind} {l L : List Int} {w w' : World} {A : Option Addr} {c : Nat} (e : L = l) (ho : Own w' B T k (.slice A L.length c) L) (hb : Below B w w') :
    GivesAt B T k l w (.returned (.slice A L.length c)) w' := ⟨A, c, L, Lib.hid e, rfl, ho, hb⟩
theorem give {T : TypeId} {k : IntKind} {l L : List Int} {w w' : World} {A : Option Addr} {c : Nat} (e : L = l) (ho : Own w' w.heap.size T k (.slice A L.length c) L) (hb : Below w.heap.size w w') :
    Gives T k l w (.returned (.slice A L.length c)) w' := ⟨A, c, L, Lib.hid e, rfl, ho, hb⟩
theorem copyBytes_any (A : Option Addr) (c : Nat) (l : List Int) (w : World) (hs : Sees w w.heap.size .u8 A l) (hl : l.length ≤ 8796093022208) :
    Calls Try.prog 48 #[.slice A l.length c] w (Gives 5 .u8 l w) := by
  have HS := Lib.hid hs; clear hs
  go_enter Try.func48, Try.ntmps48
  go_wp2_with (at_builtin; refine app8 _ rfl _ _ rfl w.heap.size _ [] rfl (Own.lit w w.heap.size 5 .u8 (Nat.le_refl _)) w.heap.size A l.length c l rfl rfl (HS.out.alloc (Nat.le_refl _) _) (by simp; omega) (by simp) ?_; intro A' c' L w1 hL h1 h2 hown hb)
  go_ret
  exact give hL.out hown (((Below.refl _ _).alloc (Nat.le_refl _) _).trans hb)
end Go.Proofs.Ytalghkfkeaogfaa
