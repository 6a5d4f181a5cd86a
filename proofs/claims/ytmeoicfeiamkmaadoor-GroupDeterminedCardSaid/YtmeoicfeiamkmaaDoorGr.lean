/-
  The reference's functions of the group; the chapter's examples.
-/
import Derived.Test.YtmeoicfeiamkmaaDoorGe
namespace Go.Proofs.YtmeoicfeiamkmaaDoor
open Go.RowKit
set_option linter.unusedVariables false
set_option linter.unusedSimpArgs false

theorem grprodP (p q : Nat) (hp : p < 4611686018427377339) (hq : q < 4611686018427377339) (w : World) :
    Calls Tryd.prog 20 #[.int .i64 p, .int .i64 q, .int .i64 4611686018427377339] w fun e w' => e = .returned (.int .i64 ((p * q % 4611686018427377339 : Nat) : Int)) ∧ w' = w :=
  grprod_any 4611686018427377339 p q (by decide) hp (by omega) w
end Go.Proofs.YtmeoicfeiamkmaaDoor
