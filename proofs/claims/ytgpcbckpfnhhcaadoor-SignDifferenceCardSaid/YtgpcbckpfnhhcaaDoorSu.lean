/-
  The statements about signatures: a signature that came in by value; the walks.
-/
import Derived.Test.YtgpcbckpfnhhcaaDoorSx
import Derived.Lib.SmallJoins
namespace Go.Proofs.YtgpcbckpfnhhcaaDoor
open Go.RowKit
set_option linter.unusedVariables false
set_option linter.unusedSimpArgs false

/-- A number that came in. -/
def I64n (n : Int) : Prop := -9223372036854775808 ≤ n ∧ n < 9223372036854775808
theorem I64n.of {n : Int} (h : (Lit.int .i64 n).wf = true) : I64n n := by
  have := bounds_i64 h
  unfold I64n; omega
theorem dif_eq (a b : Nat) : dif a b = difQ a b := rfl
/-- append(own, xs...) behind a guard that holds. -/
theorem wpList_appBG {ops : Array Oper} {rest : List Oper} {o : Oper} {a : Act} {w : World} {Q : Exit → Act → World → Prop} (hw : Region.wanted o (yielded ops a.tmps) = true) (s x : Operand)
    (ho : o.op = .call { callee := .builtin .append, args := #[s, x], argTypes := #[22, 22] })
    (B : Nat) (v : Value) (l l' : List UInt8) (ad : Option Addr) (cap : Nat) (hs : a.eval s = v) (hown : OwnB B w v l) (hx : a.eval x = .slice ad l'.length cap) (hr : RdB w.heap.size w ad l') (hnil : ad = none → cap = 0)
    (hlen : l.length + l'.length ≤ 140737488355328) (hB : B ≤ w.heap.size)
    (h : ∀ v' w', OwnB B w' v' (l ++ l') → Grew w v w' v' → wpList Tryd.prog ops Q rest (a.put o.dst v') w') : wpList Tryd.prog ops Q (o :: rest) a w :=
  wpList_step fun K hK => by rw [if_pos hw]; exact wp_appB s x ho B v l l' ad cap hs hown hx hr hnil hlen hB fun v' w' h2 h3 => hK _ _ (h v' w' h2 h3)
theorem sg_und : Tryd.prog.underlying 30 = some (.struct (Tryd.prog.fieldsOf 30)) := by kernel_rfl
theorem sg_stood : Tryd.prog.stoodInHeld 30 = false := by kernel_rfl

set_option maxRecDepth 100000 in
set_option maxHeartbeats 4000000 in
theorem verifySpec_walk (pub r s : Int) (a : Option Addr) (cap : Nat) (l : List UInt8) (w : World) (hT : Tab w) (hl : RdB w.heap.size w a l) (hcap : l.length ≤ cap) (hc2 : cap ≤ maxLen) (hnil : a = none → cap = 0) :
    Calls Tryd.prog 4 #[.int .i64 pub, .slice a l.length cap, sigV r s] w fun e w' => e = .returned (.bool true) ∧ Below w.heap.size w w' := by
  have ks : ∀ W, Below w.heap.size w W → Calls Tryd.prog 10 #[] W fun e w' => e = .returned (.bool true) ∧ Below W.heap.size W w' := fun W h => ssane_any W (hT.below h hT.lt)
  have hm := hl.1
  unfold maxLen at hm
  have HB := Below.refl w.heap.size w
  by_cases h2 : 300 < l.length
  · unfold sigV
    replace HB := HB.alloc (Nat.le_refl _) (.cells #[.int .i64 r, .int .i64 s] 30)
    have f3 : decide (300 < l.length) = true := decide_eq_true h2
    have f4 : decide (300 < (l.length : Int)) = true := decide_eq_true (by omega)
    clear hl hnil hc2 hT
    generalize l.length = n at *
    go_enter Tryd.func4, Tryd.ntmps4
    go_wp2_with (go_at_call 10; with_reducible refine (ks _ HB).mono ?_; rintro e w1 ⟨rfl, hb⟩; replace HB := HB.trans (hb.mono HB.size); clear hb)
    go_ret
    exact ⟨rfl, HB⟩
  have f3 : decide (300 < l.length) = false := decide_eq_false h2
  have f4 : decide (300 < (l.length : Int)) = false := decide_eq_false (by omega)
  have kv : ∀ W, Below w.heap.size w W → Calls Tryd.prog 16 #[.int .i64 pub, .slice a l.length cap, .agg #[.int .i64 r, .int .i64 s]] W fun e w' => e = .returned (.bool (verD pub l r s)) ∧ Below W.heap.size W w' := fun W h => verify_any pub r s a cap l W (hT.below h hT.lt) ((hl.below h).mono h.size) hcap hc2 hnil (by omega)
  have kr : ∀ W, Below w.heap.size w W → Calls Tryd.prog 17 #[.int .i64 pub, .slice a l.length cap, .agg #[.int .i64 r, .int .i64 s]] W fun e w' => e = .returned (.bool (verD pub l r s)) ∧ Below W.heap.size W w' := fun W h => rVerify pub r s a cap l W ((hl.below h).mono h.size) hcap hc2 hnil (by omega)
  clear hl hnil hc2 hT
  generalize verD pub l r s = bb at *
  generalize l.length = n at *
  unfold sigV
  replace HB := HB.alloc (Nat.le_refl _) (.cells #[.int .i64 r, .int .i64 s] 30)
  have HG := SG.new w r s
  go_enter Tryd.func4, Tryd.ntmps4
  go_wp2_with (go_at_call 10; with_reducible refine (ks _ HB).mono ?_; rintro e w1 ⟨rfl, hb⟩; replace HB := HB.trans (hb.mono HB.size); replace HG := HG.call hb; clear hb)
  have hS1 := And.intro HG.cell0 HG.cell1
  have hz1 := HG.lt
  have HB1 := Lib.hid HB
  have KEEP : Hid (∀ W W' : World, (W.cell? ⟨w.heap.size, 0, none⟩ = some (.int .i64 r) ∧ W.cell? ⟨w.heap.size, 1, none⟩ = some (.int .i64 s)) → w.heap.size < W.heap.size → Below W.heap.size W W' →
      (W'.cell? ⟨w.heap.size, 0, none⟩ = some (.int .i64 r) ∧ W'.cell? ⟨w.heap.size, 1, none⟩ = some (.int .i64 s)) ∧ w.heap.size < W'.heap.size) := fun W W' h hz hb =>
    ⟨⟨(hb.cell (p := ⟨w.heap.size, 0, none⟩) hz).trans h.1, (hb.cell (p := ⟨w.heap.size, 1, none⟩) hz).trans h.2⟩, Nat.lt_of_lt_of_le hz hb.size⟩
  clear HG HB ks
  go_region_held3 (fun w' => w'.cell? ⟨w.heap.size, 0, none⟩ = some (.int .i64 r) ∧ w'.cell? ⟨w.heap.size, 1, none⟩ = some (.int .i64 s))
    (first
      | exact hS3
      | exact hS2
      | exact hS1)
    (first
      | (go_at_call 16
         with_reducible refine (kv _ ?_).mono ?_
         · exact HB1.out.drew
         rintro e w3 ⟨rfl, hb⟩
         have hk2 := KEEP.out w1.drew _ hS1 hz1 hb
         have hS2 := hk2.1
         have hz2 := hk2.2
         clear hk2
         have HB2 := Lib.hid (HB1.out.drew.trans (hb.mono HB1.out.size))
         clear hb)
      | (go_at_call 17
         with_reducible refine (kr _ ?_).mono ?_
         · exact HB2.out
         rintro e w4 ⟨rfl, hb⟩
         have hk3 := KEEP.out w3 _ hS2 hz2 hb
         have hS3 := hk3.1
         have hz3 := hk3.2
         clear hk3
         have HB3 := Lib.hid (HB2.out.trans (hb.mono HB2.out.size))
         clear hb))
  go_wp2_with fail
  go_ret
  exact ⟨by simp, HB3.out⟩

set_option maxRecDepth 100000 in
set_option maxHeartbeats 4000000 in
theorem verifies_walk (n0 : Int) (hi : I64n n0) (a : Option Addr) (cap : Nat) (l : List UInt8) (w : World) (hT : Tab w) (hl : RdB w.heap.size w a l) (hcap : l.length ≤ cap) (hc2 : cap ≤ maxLen) (hnil : a = none → cap = 0) :
    Calls Tryd.prog 5 #[.int .i64 n0, .slice a l.length cap] w fun e w' => e = .returned (.bool true) ∧ Below w.heap.size w w' := by
  have ks : ∀ W, Below w.heap.size w W → Calls Tryd.prog 10 #[] W fun e w' => e = .returned (.bool true) ∧ Below W.heap.size W w' := fun W h => ssane_any W (hT.below h hT.lt)
  have hm := hl.1
  unfold maxLen at hm
  have HB := Below.refl w.heap.size w
  by_cases h2 : 300 < l.length
  · clear hi
    have f3 : decide (300 < l.length) = true := decide_eq_true h2
    have f4 : decide (300 < (l.length : Int)) = true := decide_eq_true (by omega)
    clear hl hnil hc2 hT
    generalize l.length = n at *
    go_enter Tryd.func5, Tryd.ntmps5
    go_wp2_with (go_at_call 10; with_reducible refine (ks _ HB).mono ?_; rintro e w1 ⟨rfl, hb⟩; replace HB := HB.trans (hb.mono HB.size); clear hb)
    go_ret
    exact ⟨rfl, HB⟩
  have f3 : decide (300 < l.length) = false := decide_eq_false h2
  have f4 : decide (300 < (l.length : Int)) = false := decide_eq_false (by omega)
  have k0 := fun w => rKey n0 hi.1 hi.2 w
  have hx := keyN_bd n0
  generalize keyN n0 = x at *
  have k1 := fun w => public_ok x hx.1 hx.2 w
  have k2 : ∀ W, Below w.heap.size w W → Calls Tryd.prog 14 #[.int .i64 x, .slice a l.length cap] W fun e w' => e = .returned (.tuple #[.agg #[.int .i64 (rS x l : Nat), .int .i64 (sS x l : Nat)], .int .i64 0]) ∧ Below W.heap.size W w' := fun W h => sign_ok x hx.1 hx.2 a cap l W (hT.below h hT.lt) ((hl.below h).mono h.size) hcap hc2 hnil (by omega)
  have kv : ∀ W, Below w.heap.size w W → Calls Tryd.prog 16 #[.int .i64 (pubS x : Nat), .slice a l.length cap, .agg #[.int .i64 (rS x l : Nat), .int .i64 (sS x l : Nat)]] W fun e w' => e = .returned (.bool (verD (pubS x : Nat) l (rS x l : Nat) (sS x l : Nat))) ∧ Below W.heap.size W w' := fun W h => verify_any (pubS x : Nat) (rS x l : Nat) (sS x l : Nat) a cap l W (hT.below h hT.lt) ((hl.below h).mono h.size) hcap hc2 hnil (by omega)
  have hsl := sS_lt x l
  have k4 := fun w => gCheck_ok (pubS x : Nat) (pubS_el x) w
  have k5 := fun w => gCheck_ok (rS x l : Nat) (rS_el x l) w
  have k6 := fun w => fCheck (sS x l : Nat) w
  rw [if_pos (scal_nat hsl)] at k6
  rw [ver_sign] at kv
  clear hl hnil hc2 hT hi hsl hx
  generalize pubS x = p at *
  generalize rS x l = r at *
  generalize sS x l = s at *
  generalize l.length = n at *
  go_enter Tryd.func5, Tryd.ntmps5
  go_wp2_with (first
    | (go_at_call 10; with_reducible refine (ks _ HB).mono ?_; rintro e w1 ⟨rfl, hb⟩; replace HB := HB.trans (hb.mono HB.size); clear hb)
    | (go_at_call 11; with_reducible refine (k0 _).mono ?_; rintro e w2 ⟨rfl, hw⟩; rw [hw]; clear hw w2)
    | (go_at_call 12; with_reducible refine (k1 _).mono ?_; rintro e w3 ⟨rfl, hb⟩; replace HB := HB.trans (hb.mono HB.size); clear hb)
    | (go_at_call 14; with_reducible refine (k2 _ HB).mono ?_; rintro e w4 ⟨rfl, hb⟩; replace HB := HB.trans (hb.mono HB.size); replace HB := HB.alloc HB.size (.cells #[.int .i64 (r : Int), .int .i64 (s : Int)] 30); have HG := SG.new w4 r s; clear hb)
    | (go_at_call 18; with_reducible refine (k4 _).mono ?_; rintro e w5 ⟨rfl, hb⟩; replace HB := HB.trans (hb.mono HB.size); replace HG := HG.call hb; have c0 := HG.cell0; clear hb k4)
    | (go_at_call 18; with_reducible refine (k5 _).mono ?_; rintro e w6 ⟨rfl, hb⟩; replace HB := HB.trans (hb.mono HB.size); replace HG := HG.call hb; have c1 := HG.cell1; clear hb k5)
    | (go_at_call 19; with_reducible refine (k6 _).mono ?_; rintro e w7 ⟨rfl, hb⟩; replace HB := HB.trans (hb.mono HB.size); replace HG := HG.call hb; have d0 := HG.cell0; have d1 := HG.cell1; clear hb k6)
    | (go_at_call 16; with_reducible refine (kv _ HB).mono ?_; rintro e w8 ⟨rfl, hb⟩; replace HB := HB.trans (hb.mono HB.size); clear hb))
  go_ret
  exact ⟨rfl, HB⟩

set_option maxRecDepth 100000 in
set_option maxHeartbeats 4000000 in
theorem nonce_walk (n0 : Int) (hi : I64n n0) (a : Option Addr) (cap : Nat) (l : List UInt8) (w : World) (hT : Tab w) (hl : RdB w.heap.size w a l) (hcap : l.length ≤ cap) (hc2 : cap ≤ maxLen) (hnil : a = none → cap = 0) :
    Calls Tryd.prog 9 #[.int .i64 n0, .slice a l.length cap] w fun e w' => e = .returned (.bool true) ∧ Below w.heap.size w w' := by
  have ks : ∀ W, Below w.heap.size w W → Calls Tryd.prog 10 #[] W fun e w' => e = .returned (.bool true) ∧ Below W.heap.size W w' := fun W h => ssane_any W (hT.below h hT.lt)
  have hm := hl.1
  unfold maxLen at hm
  have HB := Below.refl w.heap.size w
  by_cases h2 : 300 < l.length
  · clear hi
    have f3 : decide (300 < l.length) = true := decide_eq_true h2
    have f4 : decide (300 < (l.length : Int)) = true := decide_eq_true (by omega)
    clear hl hnil hc2 hT
    generalize l.length = n at *
    go_enter Tryd.func9, Tryd.ntmps9
    go_wp2_with (go_at_call 10; with_reducible refine (ks _ HB).mono ?_; rintro e w1 ⟨rfl, hb⟩; replace HB := HB.trans (hb.mono HB.size); clear hb)
    go_ret
    exact ⟨rfl, HB⟩
  have f3 : decide (300 < l.length) = false := decide_eq_false h2
  have f4 : decide (300 < (l.length : Int)) = false := decide_eq_false (by omega)
  have k0 := fun w => rKey n0 hi.1 hi.2 w
  have hx := keyN_bd n0
  generalize keyN n0 = x at *
  have k1 := fun w => public_ok x hx.1 hx.2 w
  have k2 : ∀ W, Below w.heap.size w W → Calls Tryd.prog 14 #[.int .i64 x, .slice a l.length cap] W fun e w' => e = .returned (.tuple #[.agg #[.int .i64 (rS x l : Nat), .int .i64 (sS x l : Nat)], .int .i64 0]) ∧ Below W.heap.size W w' := fun W h => sign_ok x hx.1 hx.2 a cap l W (hT.below h hT.lt) ((hl.below h).mono h.size) hcap hc2 hnil (by omega)
  have hml : hS x l * x % 2305843009213688669 < 2305843009213688669 := Nat.mod_lt _ (by decide)
  have hnb := nonS_bd x l
  have k3 : ∀ W, Below w.heap.size w W → Calls Tryd.prog 22 #[.int .i64 (pubS x : Nat), .int .i64 (rS x l : Nat), .slice a l.length cap] W fun e w' => e = .returned (.int .i64 (hS x l : Nat)) ∧ Below W.heap.size W w' := fun W h => lchal (pubS x : Nat) (rS x l : Nat) a cap l W (hT.below h hT.lt) ((hl.below h).mono h.size) hcap hc2 hnil (by omega)
  have k4 := fun w => fMul (hS x l) x (chalS_bd _ _ l).2 hx.2 w
  have k5 := fun w => fSub (sS x l) (hS x l * x % 2305843009213688669) (sS_lt x l) hml w
  have hdn : dif (sS x l) (hS x l * x % 2305843009213688669) = nonS x l := sig_nonce (nonS x l) (hS x l) x hnb.2
  rw [hdn] at k5
  have k6 := fun w => gBase_any (nonS x l : Nat) w
  rw [base_pub _ hnb.2, show pubS (nonS x l) = rS x l from rfl] at k6
  have k7 := fun w => number_any x w
  have kR : ∀ W, Below w.heap.size w W → RdB W.heap.size W a l := fun W h => (hl.below h).mono h.size
  have HTB : Hid (∀ W, Below w.heap.size w W → Tab W) := Lib.hid fun W h => hT.below h hT.lt
  have HL2 : Hid ((be8 x).length + l.length ≤ 140737488355328) := by show _ ≤ _; rw [be8_len]; omega
  obtain ⟨X, hX⟩ : ∃ X, X = be8 x ++ l := ⟨_, rfl⟩
  have HX := Lib.hid hX
  have HLX : Hid (X.length ≤ 70368744177000) := Lib.hid (by rw [hX, List.length_append, be8_len]; omega)
  have HK : Hid (scalS (tagS (ByteArray.mk #[110, 111, 110, 99, 101]).data.toList X) = nonS x l) := Lib.hid (by rw [hX]; unfold nonS tagNonce; simp only [List.toList_toArray])
  have HNIL := Lib.hid hnil
  have HKR := Lib.hid kR
  clear hl hnil hT hi hml hnb hx hdn hX kR
  generalize pubS x = p at *
  generalize hS x l * x % 2305843009213688669 = m at *
  generalize hS x l = h at *
  generalize rS x l = r at *
  generalize sS x l = s at *
  generalize nonS x l = y at *
  obtain ⟨n, hq⟩ : ∃ q, l.length = q := ⟨_, rfl⟩
  have HQ := Lib.hid hq
  rw [hq] at k2 k3 f3 f4 h2 hcap hm ⊢
  clear hq
  go_enter Tryd.func9, Tryd.ntmps9
  go_wp2_with (first
    | (go_at_call 10; with_reducible refine (ks _ HB).mono ?_; rintro e w1 ⟨rfl, hb⟩; replace HB := HB.trans (hb.mono HB.size); clear hb)
    | (go_at_call 11; with_reducible refine (k0 _).mono ?_; rintro e w2 ⟨rfl, hw⟩; rw [hw]; clear hw w2)
    | (go_at_call 12; with_reducible refine (k1 _).mono ?_; rintro e w3 ⟨rfl, hb⟩; replace HB := HB.trans (hb.mono HB.size); clear hb)
    | (go_at_call 14; with_reducible refine (k2 _ HB).mono ?_; rintro e w4 ⟨rfl, hb⟩; replace HB := HB.trans (hb.mono HB.size); replace HB := HB.alloc HB.size (.cells #[.int .i64 (r : Int), .int .i64 (s : Int)] 30); have HG := SG.new w4 r s; clear hb)
    | (go_at_call 22; with_reducible refine (k3 _ HB).mono ?_; rintro e w5 ⟨rfl, hb⟩; replace HB := HB.trans (hb.mono HB.size); replace HG := HG.call hb; clear hb)
    | (go_at_call 27; with_reducible refine (k4 _).mono ?_; rintro e w6 ⟨rfl, hb⟩; replace HB := HB.trans (hb.mono HB.size); replace HG := HG.call hb; have c1 := HG.cell1; clear hb)
    | (go_at_call 25; with_reducible refine (k5 _).mono ?_; rintro e w7 ⟨rfl, hb⟩; replace HB := HB.trans (hb.mono HB.size); replace HG := HG.call hb; clear hb)
    | (go_at_call 20; with_reducible refine (k6 _).mono ?_; rintro e w8 ⟨rfl, hb⟩; replace HB := HB.trans (hb.mono HB.size); replace HG := HG.call hb; have d0 := HG.cell0; clear hb)
    | (go_at_call 29; with_reducible refine (k7 _).mono ?_; rintro e w9 ⟨v9, rfl, ho, hb⟩; have HB9 := Lib.hid (HB.trans (hb.mono HB.size)); obtain ⟨a9, cap9, rfl, _, _⟩ := ho.form; have HO9 := Lib.hid (ho.mono HB.size); have HR9 := Lib.hid (HKR.out _ HB9.out); clear hb ho HG)
    | ((with_reducible show wpList _ _ _ (({ dst := some 83, op := _, type := _, pos := _, after := _, guard := _ } : Oper) :: _) _ _); go_must (refine wpList_appBG (by rfl) (.tmp 81) (.tmp 82) rfl w.heap.size _ (be8 x) l a cap rfl HO9.out (by rw [HQ.out]; rfl) HR9.out HNIL.out HL2.out HB9.out.size ?_)))
  intro v10 w10 ho hg
  rw [← HX.out] at ho
  obtain ⟨a10, cap10, rfl, _, _⟩ := ho.form
  have HO10 := Lib.hid ho
  have HB10 := Lib.hid (HB9.out.trans (hg.below (fun k hk => HO9.out.base k hk) HB9.out.size))
  clear ho hg HO9 HB9 HR9 HL2
  have cS := gScalar (ByteArray.mk #[110, 111, 110, 99, 101]) a10 cap10 X w10 (HTB.out _ HB10.out) HO10.out.rdOf HO10.out.caps.1 HO10.out.caps.2 (by decide) (by have := HLX.out; omega)
  rw [HK.out] at cS
  have HCS := Lib.hid cS
  clear cS
  generalize X.length = ml at *
  go_wp2_with (go_at_call 28; refine HCS.out.mono ?_; rintro e w11 ⟨rfl, hb⟩)
  go_ret
  exact ⟨by simp, HB10.out.trans (hb.mono HB10.out.size)⟩

set_option maxRecDepth 100000 in
set_option maxHeartbeats 4000000 in
theorem equation_core (pub r s : Int) (a : Option Addr) (n cap : Nat) (w : World) (x1 e1 h x2 e2 x3 e3 : Int) (bb : Bool)
    (hbb : bb = ((((e1 == 0) && (e2 == 0)) && (e3 == 0)) && (x1 == x3))) (f4 : decide (300 < (n : Int)) = false)
    (ks : ∀ W, Below w.heap.size w W → Calls Tryd.prog 10 #[] W fun e w' => e = .returned (.bool true) ∧ Below W.heap.size W w')
    (k1 : ∀ W, Calls Tryd.prog 20 #[.int .i64 s] W fun e w' => e = .returned (.tuple #[.int .i64 x1, .int .i64 e1]) ∧ Below W.heap.size W w')
    (k2 : ∀ W, Below w.heap.size w W → Calls Tryd.prog 22 #[.int .i64 pub, .int .i64 r, .slice a n cap] W fun e w' => e = .returned (.int .i64 h) ∧ Below W.heap.size W w')
    (k3 : ∀ W, Calls Tryd.prog 21 #[.int .i64 pub, .int .i64 h] W fun e w' => e = .returned (.tuple #[.int .i64 x2, .int .i64 e2]) ∧ Below W.heap.size W w')
    (k4 : ∀ W, Calls Tryd.prog 23 #[.int .i64 r, .int .i64 x2] W fun e w' => e = .returned (.tuple #[.int .i64 x3, .int .i64 e3]) ∧ Below W.heap.size W w')
    (kv : ∀ W, Below w.heap.size w W → Calls Tryd.prog 16 #[.int .i64 pub, .slice a n cap, .agg #[.int .i64 r, .int .i64 s]] W fun e w' => e = .returned (.bool bb) ∧ Below W.heap.size W w') :
    Calls Tryd.prog 6 #[.int .i64 pub, .slice a n cap, sigV r s] w fun e w' => e = .returned (.bool true) ∧ Below w.heap.size w w' := by
  unfold sigV
  have HB := Below.refl w.heap.size w
  replace HB := HB.alloc (Nat.le_refl _) (.cells #[.int .i64 r, .int .i64 s] 30)
  have HG := SG.new w r s
  obtain ⟨b1, hb1⟩ : ∃ b, (e1 == 0) = b := ⟨_, rfl⟩
  obtain ⟨b2, hb2⟩ : ∃ b, (e2 == 0) = b := ⟨_, rfl⟩
  obtain ⟨b3, hb3⟩ : ∃ b, (e3 == 0) = b := ⟨_, rfl⟩
  obtain ⟨b4, hb4⟩ : ∃ b, (x1 == x3) = b := ⟨_, rfl⟩
  rw [hb1, hb2, hb3, hb4] at hbb
  subst hbb
  cases b1 <;> cases b2 <;> cases b3 <;> cases b4
  all_goals (
    go_enter Tryd.func6, Tryd.ntmps6
    go_wp2_with (first
      | (go_at_call 10; with_reducible refine (ks _ HB).mono ?_; rintro e w1 ⟨rfl, hb⟩; replace HB := HB.trans (hb.mono HB.size); replace HG := HG.call hb; have c0 := HG.cell0; have c1 := HG.cell1; clear hb)
      | (go_at_call 20; with_reducible refine (k1 _).mono ?_; rintro e w2 ⟨rfl, hb⟩; replace HB := HB.trans (hb.mono HB.size); replace HG := HG.call hb; have c2 := HG.cell0; have c3 := HG.cell1; clear hb)
      | (go_at_call 22; with_reducible refine (k2 _ HB).mono ?_; rintro e w3 ⟨rfl, hb⟩; replace HB := HB.trans (hb.mono HB.size); replace HG := HG.call hb; clear hb)
      | (go_at_call 21; with_reducible refine (k3 _).mono ?_; rintro e w4 ⟨rfl, hb⟩; replace HB := HB.trans (hb.mono HB.size); replace HG := HG.call hb; have c4 := HG.cell0; have c5 := HG.cell1; clear hb)
      | (go_at_call 23; with_reducible refine (k4 _).mono ?_; rintro e w5 ⟨rfl, hb⟩; replace HB := HB.trans (hb.mono HB.size); replace HG := HG.call hb; have c6 := HG.cell0; have c7 := HG.cell1; clear hb)
      | (go_at_call 16; with_reducible refine (kv _ HB).mono ?_; rintro e w6 ⟨rfl, hb⟩; replace HB := HB.trans (hb.mono HB.size); clear hb))
    go_ret
    exact ⟨rfl, HB⟩)

theorem eq_law (pub : Int) (l : List UInt8) (r s : Int) : verD pub l r s = (((((expR 4 s).2 == 0) && ((expR pub (chalS pub r l : Nat)).2 == 0)) && ((mulR r (expR pub (chalS pub r l : Nat)).1).2 == 0)) && ((expR 4 s).1 == (mulR r (expR pub (chalS pub r l : Nat)).1).1)) := by
  have hch := chalS_bd pub r l
  rw [verD_eq]
  by_cases hs : 0 ≤ s ∧ s < 2305843009213688669
  · obtain ⟨t, rfl⟩ : ∃ t : Nat, s = (t : Int) := ⟨s.toNat, by omega⟩
    have ht : t < 2305843009213688669 := by omega
    rw [base_pub t ht, scal_iff.2 hs]
    by_cases hp : IsEl pub
    · obtain ⟨p, rfl, -⟩ := hp.nat
      have hpw := isEl_of (modP_lt (p ^ chalS p r l)) (El.pow (by have := hp.2.2; rwa [Int.toNat_natCast] at this) (chalS p r l))
      rw [elB_iff.2 hp, expR_ok hp hch.2]
      by_cases hr : IsEl r
      · obtain ⟨q, rfl, -⟩ := hr.nat
        rw [elB_iff.2 hr, mulR_ok hr hpw, Int.toNat_natCast, Int.toNat_natCast, Int.toNat_natCast]
        unfold balB
        generalize q * (p ^ chalS p q l % 4611686018427377339) % 4611686018427377339 = y
        generalize pubS t = z
        rw [Bool.eq_iff_iff]
        simp
        omega
      · rw [elB_false hr, mulR_bad1 hr]; simp
    · rw [elB_false hp, expR_bad hp]; simp
  · rw [expR_arg el4 hs, show scal s = false from by rw [Bool.eq_false_iff]; exact fun h => hs (scal_iff.1 h)]; simp

set_option maxRecDepth 100000 in
set_option maxHeartbeats 4000000 in
theorem equation_walk (pub r s : Int) (a : Option Addr) (cap : Nat) (l : List UInt8) (w : World) (hT : Tab w) (hl : RdB w.heap.size w a l) (hcap : l.length ≤ cap) (hc2 : cap ≤ maxLen) (hnil : a = none → cap = 0) :
    Calls Tryd.prog 6 #[.int .i64 pub, .slice a l.length cap, sigV r s] w fun e w' => e = .returned (.bool true) ∧ Below w.heap.size w w' := by
  have ks : ∀ W, Below w.heap.size w W → Calls Tryd.prog 10 #[] W fun e w' => e = .returned (.bool true) ∧ Below W.heap.size W w' := fun W h => ssane_any W (hT.below h hT.lt)
  have hm := hl.1
  unfold maxLen at hm
  have HB := Below.refl w.heap.size w
  by_cases h2 : 300 < l.length
  · unfold sigV
    replace HB := HB.alloc (Nat.le_refl _) (.cells #[.int .i64 r, .int .i64 s] 30)
    have f3 : decide (300 < l.length) = true := decide_eq_true h2
    have f4 : decide (300 < (l.length : Int)) = true := decide_eq_true (by omega)
    clear hl hnil hc2 hT
    generalize l.length = n at *
    go_enter Tryd.func6, Tryd.ntmps6
    go_wp2_with (go_at_call 10; with_reducible refine (ks _ HB).mono ?_; rintro e w1 ⟨rfl, hb⟩; replace HB := HB.trans (hb.mono HB.size); clear hb)
    go_ret
    exact ⟨rfl, HB⟩
  have f3 : decide (300 < l.length) = false := decide_eq_false h2
  have f4 : decide (300 < (l.length : Int)) = false := decide_eq_false (by omega)
  have k2 : ∀ W, Below w.heap.size w W → Calls Tryd.prog 22 #[.int .i64 pub, .int .i64 r, .slice a l.length cap] W fun e w' => e = .returned (.int .i64 (chalS pub r l : Nat)) ∧ Below W.heap.size W w' := fun W h => lchal pub r a cap l W (hT.below h hT.lt) ((hl.below h).mono h.size) hcap hc2 hnil (by omega)
  have kv : ∀ W, Below w.heap.size w W → Calls Tryd.prog 16 #[.int .i64 pub, .slice a l.length cap, .agg #[.int .i64 r, .int .i64 s]] W fun e w' => e = .returned (.bool (verD pub l r s)) ∧ Below W.heap.size W w' := fun W h => verify_any pub r s a cap l W (hT.below h hT.lt) ((hl.below h).mono h.size) hcap hc2 hnil (by omega)
  exact equation_core pub r s a l.length cap w _ _ _ _ _ _ _ _ (eq_law pub l r s) f4 ks (fun W => gBase_any s W) k2 (fun W => gExp_any pub _ W) (fun W => gMul_any r _ W) kv

end Go.Proofs.YtgpcbckpfnhhcaaDoor
