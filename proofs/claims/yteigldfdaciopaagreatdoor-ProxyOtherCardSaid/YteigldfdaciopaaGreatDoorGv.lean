/-
  The reference's scalars and points of bytes; the walks of the two laws about them.
-/
import Derived.Test.YteigldfdaciopaaGreatDoorPkH
namespace Go.Proofs.YteigldfdaciopaaGreatDoor
open Go.RowKit
set_option linter.unusedVariables false
set_option linter.unusedSimpArgs false

theorem hScalar (s : ByteArray) (a : Option Addr) (cap : Nat) (l : List UInt8) (w : World) (hl : RdB w.heap.size w a l) (hcap : l.length ≤ cap) (hc2 : cap ≤ maxLen) (hnil : a = none → cap = 0) (hs : s.size ≤ 600) (hn : l.length ≤ 70368744177000) :
    Calls Tryz.prog 63 #[.string s, .slice a l.length cap] w fun e w' => e = .returned (.int .i64 (scalS (tagS s.data.toList l) : Nat)) ∧ Below w.heap.size w w' := by
  have HT := Lib.hid (refTagged s a cap l w hl hcap hc2 hnil hs hn)
  have hx := tagS_len32 s.data.toList l
  have hb := scalS_bd (tagS s.data.toList l)
  have HR : Hid (∀ w, Calls Tryz.prog 86 #[.agg (bvA (tagS s.data.toList l)), .int .i64 2305843009213688668] w fun e w' => e = .returned (.int .i64 (restD 2305843009213688668 (tagS s.data.toList l) : Nat)) ∧ Below w.heap.size w w') := Lib.hid fun w => rest_any 2305843009213688668 (.inr rfl) _ hx w
  have he := scalS_eq (tagS s.data.toList l)
  generalize tagS s.data.toList l = x at *
  generalize restD 2305843009213688668 x = r at *
  generalize scalS x = y at *
  have c1 := wrapI (1 + (r : Int)) (by omega) (by omega)
  have HE : Hid (1 + (r : Int) = (y : Int)) := Lib.hid (by omega)
  clear he hl hnil
  go_enter Tryz.func63, Tryz.ntmps63
  go_wp2_with (first
    | (go_at_call 66; refine HT.out.mono ?_; rintro e w1 ⟨rfl, hb1⟩)
    | (go_at_call 86; refine (HR.out _).mono ?_; rintro e w2 ⟨rfl, hb2⟩))
  go_ret
  exact ⟨by rw [← HE.out]; rfl, belowNext hb1 hb2⟩

end Go.Proofs.YteigldfdaciopaaGreatDoor
