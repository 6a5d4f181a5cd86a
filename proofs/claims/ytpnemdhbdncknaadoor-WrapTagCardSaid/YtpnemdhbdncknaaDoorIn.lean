/-
  The chapter's examples (sane of chartroomlaw09).
-/
import Derived.Test.YtpnemdhbdncknaaDoorIk
namespace Go.Proofs.YtpnemdhbdncknaaDoor
open Go.RowKit
set_option linter.unusedVariables false
set_option linter.unusedSimpArgs false

def exK0 : List UInt8 := List.replicate 32 0
def exK1 : List UInt8 := 1 :: List.replicate 31 0
theorem not_el0 : ¬ IsEl 0 := fun h => absurd h.1 (by decide)
theorem el16N : IsEl ((16 : Nat) : Int) := pow4_is 2
/-- Behind the examples' first steps: what has been, and the tables. -/
structure SnW (w W : World) : Prop where
  below : Below w.heap.size w W
  tab : Tab W
theorem SnW.call {w W W' : World} (h : SnW w W) (hb : Below W.heap.size W W') : SnW w W' := ⟨h.below.trans (hb.mono h.below.size), h.tab.below hb h.tab.lt⟩
theorem SnW.alloc {w W : World} (h : SnW w W) (o : Obj) : SnW w (W.alloc o) := h.call ((Below.refl _ _).alloc (Nat.le_refl _) _)

set_option maxRecDepth 100000 in
set_option maxHeartbeats 4000000 in
theorem sane9_any (w : World) (hT : Tab w) : Calls Tryd.prog 8 #[] w fun e w' => e = .returned (.bool true) ∧ Below w.heap.size w w' := by
  have HS0 : Hid (SnW w w) := Lib.hid ⟨Below.refl _ _, hT⟩
  have K1 : Hid (∀ W, Tab W → Calls Tryd.prog 12 #[.int .i64 0, .agg (bvA exK0), .slice none 0 0, .slice none 0 0] W (AnsW 0 [] 50 W)) := Lib.hid fun W h => by
    have k := Wrap_any 0 exK0 rfl [] [] none 0 0 none 0 0 W h (RdV.nil W) (RdV.nil W) (by decide)
    obtain ⟨e1, e2, e3⟩ := wr_key (p := 0) (by rw [chkR_bad not_el0]; decide) exK0 [] []
    rw [e1, e2, e3] at k
    exact k
  have K2 : Hid (∀ W, Tab W → Calls Tryd.prog 13 #[.int .i64 0, .slice none 0 0, wrV 0 (.slice none 0 0)] W (AnsO [] 50 W)) := Lib.hid fun W h => by
    have k := Unwrap_any 0 [] [] 0 none 0 0 none 0 0 W h (RdV.nil W) (RdV.nil W) (by decide)
    obtain ⟨e1, e2⟩ := un_key (x := 0) (by decide) [] 0 []
    rw [e1, e2] at k
    exact k
  have hp1 : (pubW 1).2 = 0 := by show (pubW ((1 : Nat) : Int)).2 = 0; rw [pubW_ok (x := 1) (by decide) (by decide)]
  have K3 : Hid (∀ W, Tab W → Calls Tryd.prog 13 #[.int .i64 1, .slice none 0 0, wrV 0 (.slice none 0 0)] W (AnsO [] 90 W)) := Lib.hid fun W h => by
    have k := Unwrap_any 1 [] [] 0 none 0 0 none 0 0 W h (RdV.nil W) (RdV.nil W) (by decide)
    obtain ⟨e1, e2⟩ := un_wrap (x := 1) (u := 0) (c := []) hp1 (by rw [wcE_bad (.inr (.inl (by decide)))]; decide) []
    rw [e1, e2] at k
    exact k
  obtain ⟨u, hu⟩ : ∃ u, wUn exK1 = u := ⟨_, rfl⟩
  obtain ⟨X, hX⟩ : ∃ X, wrB 4 exK1 [9] [1, 2] = X := ⟨_, rfl⟩
  have hun := unwraps (x := 1) (by decide) (by decide) exK1 [9] (b := [1, 2]) (by decide)
  rw [show ((pubS 1 : Nat) : Int) = 4 from rfl, hu, hX] at hun
  obtain ⟨n1, n2, n3, n4, n5, n6⟩ := hun
  have HXL : Hid (X.length = 18) := Lib.hid n3
  have K4 : Hid (∀ a c b d W, Tab W → RdV W (.slice a 1 c) [9] → RdV W (.slice b 2 d) [1, 2] → Calls Tryd.prog 12 #[.int .i64 4, .agg (bvA exK1), .slice a 1 c, .slice b 2 d] W (AnsW (u : Nat) X 0 W)) := Lib.hid fun a c b d W h h1 h2 => by
    have k := Wrap_any 4 exK1 rfl [9] [1, 2] a 1 c b 2 d W h h1 h2 (by decide)
    rw [n1, n2, hX] at k
    exact k
  obtain ⟨m1, m2, m3⟩ := wr_ok (p := 16) (chkR_ok el16N) exK1 [] (b := []) (by decide)
  rw [hu] at m2
  obtain ⟨Y, hY⟩ : ∃ Y, wrB 16 exK1 [] [] = Y := ⟨_, rfl⟩
  have K5 : Hid (∀ W, Tab W → Calls Tryd.prog 12 #[.int .i64 16, .agg (bvA exK1), .slice none 0 0, .slice none 0 0] W (AnsW (u : Nat) Y 0 W)) := Lib.hid fun W h => by
    have k := Wrap_any 16 exK1 rfl [] [] none 0 0 none 0 0 W h (RdV.nil W) (RdV.nil W) (by decide)
    rw [m1, m2, hY] at k
    exact k
  have K6 : Hid (∀ a c b d W, Tab W → RdV W (.slice a 1 c) [9] → RdV W (.slice b 18 d) X → Calls Tryd.prog 13 #[.int .i64 1, .slice a 1 c, wrV (u : Nat) (.slice b 18 d)] W (AnsO [1, 2] 0 W)) := Lib.hid fun a c b d W h h1 h2 => by
    have k := Unwrap_any ((1 : Nat) : Int) [9] X (u : Nat) a 1 c b 18 d W h h1 h2 (by decide)
    rw [n5, n6] at k
    exact k
  have C1 : Hid (∀ a c W, Calls Tryd.prog 14 #[wrV 4 (.slice a 15 c)] W fun e W' => e = .returned (.int .i64 90) ∧ Below W.heap.size W W') := Lib.hid fun a c W => by
    have k := wCheck_any 4 a 15 c W
    rw [wcE_bad (.inr (.inl (by decide)))] at k
    exact k
  have C2 : Hid (∀ W, Calls Tryd.prog 14 #[wrV 0 (.slice none 0 0)] W fun e W' => e = .returned (.int .i64 90) ∧ Below W.heap.size W W') := Lib.hid fun W => by
    have k := wCheck_any 0 none 0 0 W
    rw [wcE_bad (.inr (.inl (by decide)))] at k
    exact k
  have C3 : Hid (∀ a c W, Calls Tryd.prog 14 #[wrV (u : Nat) (.slice a 18 c)] W fun e W' => e = .returned (.int .i64 0) ∧ Below W.heap.size W W') := Lib.hid fun a c W => by
    have k := wCheck_any (u : Nat) a 18 c W
    rw [show wcE (u : Nat) 18 = 0 from n4] at k
    exact k
  clear hT hp1 hu hX n1 n2 n3 n4 n5 n6 m1 m2 m3 hY
  unfold wrV at K2 K3 K6 C1 C2 C3
  go_enter Tryd.func8, Tryd.ntmps8
  go_wp2_with fail
  change Calls _ _ #[_, .agg (bvA exK0), _, _] _ _
  refine (K1.out _ HS0.out.tab).mono ?_
  rintro e w1 hA
  obtain ⟨a1, c1, rfl, -, hb⟩ := hA.open
  have HS1 := Lib.hid ((HS0.out.call hb).alloc (.cells #[.int .i64 0, .slice a1 0 c1] 32))
  clear hb hA HS0 K1
  go_wp2_with fail
  refine (K2.out _ HS1.out.tab).mono ?_
  rintro e w2 hA
  obtain ⟨a2, c2, rfl, -, hb⟩ := hA.open
  have HS2 := Lib.hid (HS1.out.call hb)
  clear hb hA HS1 K2
  go_wp2_with fail
  refine (K3.out _ HS2.out.tab).mono ?_
  rintro e w3 hA
  obtain ⟨a3, c3, rfl, -, hb⟩ := hA.open
  have HS3 := Lib.hid ((HS2.out.call hb).alloc (.cells #[.int .u8 9] 5))
  have HR3 : Hid (RdV (w3.alloc (.cells #[.int .u8 9] 5)) (.slice (some ⟨w3.heap.size, 0, none⟩) 1 1) [9]) := Lib.hid (RdV.one w3 9)
  have HS4 := Lib.hid (HS3.out.alloc (.cells #[.int .u8 1, .int .u8 2] 5))
  have HR4 := Lib.hid (HR3.out.call ((Below.refl _ _).alloc (Nat.le_refl _) (.cells #[.int .u8 1, .int .u8 2] 5)))
  have HR5 : Hid (RdV ((w3.alloc (.cells #[.int .u8 9] 5)).alloc (.cells #[.int .u8 1, .int .u8 2] 5)) (.slice (some ⟨w3.heap.size + 1, 0, none⟩) 2 2) [1, 2]) := Lib.hid (by
    have h := (BB.new (w3.alloc (.cells #[.int .u8 9] 5)) 5 [1, 2]).rdv 2 rfl (by unfold maxLen; omega)
    rw [alloc_size] at h
    exact h)
  clear hb hA HS2 HS3 HR3 K3
  go_wp2_with fail
  change Calls _ _ #[_, .agg (bvA exK1), _, _] _ _
  refine (K4.out _ _ _ _ _ HS4.out.tab HR4.out HR5.out).mono ?_
  rintro e w4 hA
  obtain ⟨a4, c4, rfl, ho, hb⟩ := hA.open
  rw [HXL.out] at ho ⊢
  have HS5 := Lib.hid ((HS4.out.call hb).alloc (.cells #[.int .i64 (u : Nat), .slice a4 18 c4] 32))
  have HC5 := Lib.hid (CB.new w4 32 #[.int .i64 (u : Nat), .slice a4 18 c4])
  have HX5 := Lib.hid (ho.rdv.call ((Below.refl w4.heap.size w4).alloc (Nat.le_refl _) (.cells #[.int .i64 (u : Nat), .slice a4 18 c4] 32)))
  clear hb hA ho HS4 HR4 HR5 K4
  go_wp2_with fail
  change Calls _ _ #[_, .agg (bvA exK1), _, _] _ _
  refine (K5.out _ HS5.out.tab).mono ?_
  rintro e w5 hA
  obtain ⟨a5, c5, rfl, -, hb⟩ := hA.open
  have HC6 := Lib.hid (((HC5.out.call hb).alloc (.cells #[.int .i64 (u : Nat), .slice a5 Y.length c5] 32)).alloc (.cells #[.int .u8 9] 5))
  have HD6 := Lib.hid ((CB.new w5 32 #[.int .i64 (u : Nat), .slice a5 Y.length c5]).alloc (.cells #[.int .u8 9] 5))
  have HS6 := Lib.hid (((HS5.out.call hb).alloc (.cells #[.int .i64 (u : Nat), .slice a5 Y.length c5] 32)).alloc (.cells #[.int .u8 9] 5))
  have HX6 := Lib.hid (((HX5.out.call hb).call ((Below.refl _ _).alloc (Nat.le_refl _) (.cells #[.int .i64 (u : Nat), .slice a5 Y.length c5] 32))).call ((Below.refl _ _).alloc (Nat.le_refl _) (.cells #[.int .u8 9] 5)))
  have HR6 : Hid (RdV ((w5.alloc (.cells #[.int .i64 (u : Nat), .slice a5 Y.length c5] 32)).alloc (.cells #[.int .u8 9] 5)) (.slice (some ⟨w5.heap.size + 1, 0, none⟩) 1 1) [9]) := Lib.hid (by
    have h := RdV.one (w5.alloc (.cells #[.int .i64 (u : Nat), .slice a5 Y.length c5] 32)) 9
    rw [alloc_size] at h
    exact h)
  have c0 : ((w5.alloc (.cells #[.int .i64 (u : Nat), .slice a5 Y.length c5] 32)).alloc (.cells #[.int .u8 9] 5)).cell? ⟨w4.heap.size, 0, none⟩ = some (.int .i64 (u : Nat)) := HC6.out.cell 0
  have c1 : ((w5.alloc (.cells #[.int .i64 (u : Nat), .slice a5 Y.length c5] 32)).alloc (.cells #[.int .u8 9] 5)).cell? ⟨w4.heap.size, 1, none⟩ = some (.slice a4 18 c4) := HC6.out.cell 1
  clear hb hA HS5 HC5 HX5 K5
  go_wp2_with fail
  clear c0 c1
  refine (K6.out _ _ _ _ _ HS6.out.tab HR6.out HX6.out).mono ?_
  rintro e w6 hA
  obtain ⟨a6, c6, rfl, ho, hb⟩ := hA.open
  have HS7 := Lib.hid (HS6.out.call hb)
  have HC7 := Lib.hid (HC6.out.call hb)
  have HD7 := Lib.hid (HD6.out.call hb)
  have hst : (convert 24 9 (.slice a6 2 c6)).run Tryd.prog w6 = .ok (.string ⟨#[1, 2]⟩) w6 := ho.rdv.str
  clear hb hA ho HS6 HC6 HD6 HX6 HR6 K6
  have c0 : w6.cell? ⟨w4.heap.size, 0, none⟩ = some (.int .i64 (u : Nat)) := HC7.out.cell 0
  have c1 : w6.cell? ⟨w4.heap.size, 1, none⟩ = some (.slice a4 18 c4) := HC7.out.cell 1
  have d0 : w6.cell? ⟨w5.heap.size, 0, none⟩ = some (.int .i64 (u : Nat)) := HD7.out.cell 0
  have hmk := run_makeZ 15 (by decide) w6
  replace hmk : (Instr.makeSlice 24 (.int .i64 15) (.int .i64 15)).run Tryd.prog w6 = .ok (.slice (some ⟨w6.heap.size, 0, none⟩) 15 15) (w6.alloc (.cells (madeCells #[.int .u8 0] 15) 5)) := hmk
  have HC8 := Lib.hid (HC7.out.alloc (.cells (madeCells #[.int .u8 0] 15) 5))
  have HS8 := Lib.hid (HS7.out.alloc (.cells (madeCells #[.int .u8 0] 15) 5))
  clear HC7 HS7 HD7
  generalize w6.alloc (.cells (madeCells #[.int .u8 0] 15) 5) = w7 at *
  go_wp2_with fail
  clear hmk hst c0 c1 d0
  refine (C1.out _ _ _).mono ?_
  rintro e w8 ⟨rfl, hb⟩
  have HC9 := Lib.hid (HC8.out.call hb)
  have HS9 := Lib.hid (HS8.out.call hb)
  clear hb HC8 HS8 C1
  go_wp2_with fail
  refine (C2.out _).mono ?_
  rintro e w9 ⟨rfl, hb⟩
  have HC10 := Lib.hid (HC9.out.call hb)
  have HS10 := Lib.hid (HS9.out.call hb)
  clear hb HC9 HS9 C2
  have c0 : w9.cell? ⟨w4.heap.size, 0, none⟩ = some (.int .i64 (u : Nat)) := HC10.out.cell 0
  have c1 : w9.cell? ⟨w4.heap.size, 1, none⟩ = some (.slice a4 18 c4) := HC10.out.cell 1
  go_wp2_with fail
  clear c0 c1
  refine (C3.out _ _ _).mono ?_
  rintro e w10 ⟨rfl, hb⟩
  go_wp2_with fail
  go_ret
  exact ⟨rfl, (HS10.out.call hb).below⟩
end Go.Proofs.YtpnemdhbdncknaaDoor
