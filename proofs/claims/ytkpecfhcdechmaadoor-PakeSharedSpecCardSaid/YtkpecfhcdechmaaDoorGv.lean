/-
  The reference's scalars and points of bytes; the walks of the two laws about them.
-/
import Derived.Test.YtkpecfhcdechmaaDoorPkH
namespace Go.Proofs.YtkpecfhcdechmaaDoor
open Go.RowKit
set_option linter.unusedVariables false
set_option linter.unusedSimpArgs false

theorem hScalar (s : ByteArray) (a : Option Addr) (cap : Nat) (l : List UInt8) (w : World) (hl : RdB w.heap.size w a l) (hcap : l.length ≤ cap) (hc2 : cap ≤ maxLen) (hnil : a = none → cap = 0) (hs : s.size ≤ 600) (hn : l.length ≤ 70368744177000) :
    Calls Tryd.prog 48 #[.string s, .slice a l.length cap] w fun e w' => e = .returned (.int .i64 (scalS (tagS s.data.toList l) : Nat)) ∧ Below w.heap.size w w' := by
  have HT := Lib.hid (refTagged s a cap l w hl hcap hc2 hnil hs hn)
  have hx := tagS_len32 s.data.toList l
  have hb := scalS_bd (tagS s.data.toList l)
  have HR : Hid (∀ w, Calls Tryd.prog 70 #[.agg (bvA (tagS s.data.toList l)), .int .i64 2305843009213688668] w fun e w' => e = .returned (.int .i64 (restD 2305843009213688668 (tagS s.data.toList l) : Nat)) ∧ Below w.heap.size w w') := Lib.hid fun w => rest_any 2305843009213688668 (.inr rfl) _ hx w
  have he := scalS_eq (tagS s.data.toList l)
  generalize tagS s.data.toList l = x at *
  generalize restD 2305843009213688668 x = r at *
  generalize scalS x = y at *
  have c1 := wrapI (1 + (r : Int)) (by omega) (by omega)
  have HE : Hid (1 + (r : Int) = (y : Int)) := Lib.hid (by omega)
  clear he hl hnil
  go_enter Tryd.func48, Tryd.ntmps48
  go_wp2_with (first
    | (go_at_call 42; refine HT.out.mono ?_; rintro e w1 ⟨rfl, hb1⟩)
    | (go_at_call 70; refine (HR.out _).mono ?_; rintro e w2 ⟨rfl, hb2⟩))
  go_ret
  exact ⟨by rw [← HE.out]; rfl, belowNext hb1 hb2⟩

theorem hPoint (s : ByteArray) (a : Option Addr) (cap : Nat) (l : List UInt8) (w : World) (hl : RdB w.heap.size w a l) (hcap : l.length ≤ cap) (hc2 : cap ≤ maxLen) (hnil : a = none → cap = 0) (hs : s.size ≤ 600) (hn : l.length ≤ 70368744177000) :
    Calls Tryd.prog 50 #[.string s, .slice a l.length cap] w fun e w' => e = .returned (.int .i64 (ptS (tagS s.data.toList l) : Nat)) ∧ Below w.heap.size w w' := by
  have HT := Lib.hid (refTagged s a cap l w hl hcap hc2 hnil hs hn)
  have hx := tagS_len32 s.data.toList l
  have hb := ptX_bd (tagS s.data.toList l)
  have HR : Hid (∀ w, Calls Tryd.prog 70 #[.agg (bvA (tagS s.data.toList l)), .int .i64 4611686018427377336] w fun e w' => e = .returned (.int .i64 (restD 4611686018427377336 (tagS s.data.toList l) : Nat)) ∧ Below w.heap.size w w') := Lib.hid fun w => rest_any 4611686018427377336 (.inl rfl) _ hx w
  have he := ptX_eq (tagS s.data.toList l)
  have HP := Lib.hid (fun w => grprodP (ptX (tagS s.data.toList l)) (ptX (tagS s.data.toList l)) (by omega) (by omega) w)
  rw [show ptX (tagS s.data.toList l) * ptX (tagS s.data.toList l) % 4611686018427377339 = ptS (tagS s.data.toList l) from rfl] at HP
  generalize tagS s.data.toList l = x at *
  generalize restD 4611686018427377336 x = r at *
  generalize ptX x = y at *
  generalize ptS x = z at *
  have c1 := wrapI (2 + (r : Int)) (by omega) (by omega)
  have HE : Hid (2 + (r : Int) = (y : Int)) := Lib.hid (by omega)
  clear he hl hnil
  go_enter Tryd.func50, Tryd.ntmps50
  go_wp2_with (first
    | (go_at_call 42; refine HT.out.mono ?_; rintro e w1 ⟨rfl, hb1⟩)
    | (go_at_call 70; refine (HR.out _).mono ?_; rintro e w2 ⟨rfl, hb2⟩)
    | (go_at_call 63; rw [HE.out]; refine (HP.out _).mono ?_; rintro e w3 ⟨rfl, hw⟩; rw [hw]; clear hw w3))
  go_ret
  exact ⟨rfl, belowNext hb1 hb2⟩

end Go.Proofs.YtkpecfhcdechmaaDoor
