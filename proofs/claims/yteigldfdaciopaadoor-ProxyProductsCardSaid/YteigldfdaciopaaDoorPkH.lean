/-
  The reference's functions of the group; the chapter's examples.
  The chapter's examples of the group.
  The remainder of a digest's number, byte after byte: the program's fold by a closure, and the reference's.
  The reference's remainder of a digest's number, its scalars and points.
-/
import Derived.Test.YteigldfdaciopaaDoorPkG
import Derived.Test.YteigldfdaciopaaDoorPkV
import Derived.Test.YteigldfdaciopaaDoorPkB
import Derived.Test.YteigldfdaciopaaDoorPkR
set_option linter.unusedVariables false
set_option linter.unusedSimpArgs false
namespace Go.Proofs.YteigldfdaciopaaDoor
open Go.RowKit
set_option linter.unusedVariables false
set_option linter.unusedSimpArgs false

end Go.Proofs.YteigldfdaciopaaDoor

namespace Go.Proofs.YteigldfdaciopaaDoor
open Go.RowKit
set_option linter.unusedVariables false
set_option linter.unusedSimpArgs false

theorem el1 : IsEl 1 := isEl_of (n := 1) (by decide) El.one
theorem el4 : IsEl 4 := isEl_of (n := 4) (by decide) (El.sq (a := 2) (by decide))
theorem el16 : IsEl 16 := isEl_of (n := 16) (by decide) (El.sq (a := 4) (by decide))
theorem no2 : ¬ IsEl 2 := fun h => by
  have h1 : El 2 := h.2.2
  unfold El at h1
  rw [← powB_eq 4611686018427377339 64 2 oQ (by decide)] at h1
  revert h1
  decide +kernel
theorem noM : ¬ IsEl 4611686018427377338 := fun h => (El.half (a := 1) (by decide) (by decide)).1 h.2.2 El.one
def badL : List Int := [0, 4611686018427377339, 4611686018427377338, 2, -4, 4611686018427387904]
theorem badL_no : ∀ k, k < 6 → ¬ IsEl (badL.getD k 0)
  | 0, _ => fun h => absurd h.1 (by decide)
  | 1, _ => fun h => absurd h.2.1 (by decide)
  | 2, _ => noM
  | 3, _ => no2
  | 4, _ => fun h => absurd h.1 (by decide)
  | 5, _ => fun h => absurd h.2.1 (by decide)
theorem inv4 : 4 ^ (oQ - 1) % 4611686018427377339 = 1152921504606844335 := by
  rw [← powB_eq 4611686018427377339 64 4 (oQ - 1) (by decide)]
  decide +kernel
theorem x0 (w : World) : Calls Tryd.prog 44 #[.int .i64 4, .int .i64 4] w fun e w' => e = .returned (.tuple #[.int .i64 16, .int .i64 0]) ∧ Below w.heap.size w w' := gMul_ok 4 4 el4 el4 w
theorem x1 (w : World) : Calls Tryd.prog 9 #[.int .i64 3] w fun e w' => e = .returned (.tuple #[.int .i64 64, .int .i64 0]) ∧ Below w.heap.size w w' := by
  have h := gBase_any 3 w
  have e : expR 4 3 = (64, 0) := expR_ok (a := 4) (k := 3) el4 (by decide)
  rw [e] at h; exact h
theorem x2 (w : World) : Calls Tryd.prog 17 #[.int .i64 4, .int .i64 (-1)] w fun e w' => e = .returned (.tuple #[.int .i64 0, .int .i64 1]) ∧ Below w.heap.size w w' := gExp_arg 4 (-1) el4 (by decide) w
theorem x3 (w : World) : Calls Tryd.prog 17 #[.int .i64 4, .int .i64 2305843009213688669] w fun e w' => e = .returned (.tuple #[.int .i64 0, .int .i64 1]) ∧ Below w.heap.size w w' := gExp_arg 4 2305843009213688669 el4 (by decide) w
theorem x4 (w : World) : Calls Tryd.prog 49 #[.int .i64 1] w fun e w' => e = .returned (.tuple #[.int .i64 1, .int .i64 0]) ∧ Below w.heap.size w w' := by
  have h := gInv_ok 1 el1 w
  rw [Nat.one_pow] at h; exact h
theorem x5 (w : World) : Calls Tryd.prog 49 #[.int .i64 4] w fun e w' => e = .returned (.tuple #[.int .i64 1152921504606844335, .int .i64 0]) ∧ Below w.heap.size w w' := by
  have h := gInv_ok 4 el4 w
  rw [inv4] at h; exact h
theorem x6 (w : World) : Calls Tryd.prog 17 #[.int .i64 16, .int .i64 0] w fun e w' => e = .returned (.tuple #[.int .i64 1, .int .i64 0]) ∧ Below w.heap.size w w' := gExp_ok 16 0 el16 (by decide) w
theorem x7 (w : World) : Calls Tryd.prog 21 #[.int .i64 1] w fun e w' => e = .returned (.int .i64 0) ∧ Below w.heap.size w w' := gCheck_ok 1 el1 w
theorem x8 (w : World) : Calls Tryd.prog 21 #[.int .i64 4] w fun e w' => e = .returned (.int .i64 0) ∧ Below w.heap.size w w' := gCheck_ok 4 el4 w
theorem x9 (w : World) : Calls Tryd.prog 21 #[.int .i64 16] w fun e w' => e = .returned (.int .i64 0) ∧ Below w.heap.size w w' := gCheck_ok 16 el16 w

end Go.Proofs.YteigldfdaciopaaDoor

namespace Go.Proofs.YteigldfdaciopaaDoor
open Go.RowKit
set_option linter.unusedVariables false
set_option linter.unusedSimpArgs false

/-- The two numbers that a digest is divided by. -/
def okM (m : Nat) : Prop := m = 4611686018427377336 ∨ m = 2305843009213688668
theorem okM.lt {m : Nat} (h : okM m) : 1000 < m ∧ m < 4611686018427387904 := by rcases h with rfl | rfl <;> decide

theorem rem64M_any (m : Nat) (hm : okM m) (hi lo : Nat) (hhi : hi < m) (hlo : lo < 18446744073709551616) (w : World) :
    Calls Tryd.prog 67 #[.int .u64 hi, .int .u64 lo, .int .u64 m] w fun e w' => e = .returned (.int .u64 (((hi * 18446744073709551616 + lo) % m : Nat) : Int)) ∧ ∃ k, w' = w.drewN k := by
  have HD : Hid (∀ w, Calls Tryd.prog 53 #[.int .u64 hi, .int .u64 lo, .int .u64 m] w fun e w' => (∃ q : Int, e = .returned (.tuple #[.int .u64 q, .int .u64 (((hi * 18446744073709551616 + lo) % m : Nat) : Int)])) ∧ ∃ k, w' = w.drewN k) := Lib.hid fun w => by
    rcases hm with rfl | rfl
    · by_cases h0 : hi = 0
      · subst h0
        rw [Nat.zero_mul, Nat.zero_add]
        exact R.div64_zero lo hlo w
      · refine (R.div64_pos hi lo (by omega) hhi hlo w).mono ?_
        rintro e w' ⟨h, rfl⟩
        exact ⟨h, 0, rfl⟩
    · by_cases h0 : hi = 0
      · subst h0
        rw [Nat.zero_mul, Nat.zero_add]
        exact T.div64_zero lo hlo w
      · refine (T.div64_pos hi lo (by omega) hhi hlo w).mono ?_
        rintro e w' ⟨h, rfl⟩
        exact ⟨h, 0, rfl⟩
  have hl := hm.lt
  have c2 : (hi : Int).tmod m = (hi : Int) := by rw [Int.tmod_eq_emod_of_nonneg (by omega)]; exact Int.emod_eq_of_lt (by omega) (by omega)
  have c1 : IntKind.u64.wrap ((hi : Int).tmod m) = (hi : Int) := by rw [c2, wrapU _ (by omega) (by omega)]
  have c3 : ((m : Int) == 0) = false := by simp; omega
  generalize (hi * 18446744073709551616 + lo) % m = r at *
  go_enter Tryd.func67, Tryd.ntmps67
  go_wp2_with (go_at_call 53; refine (HD.out _).mono ?_; rintro e w' ⟨⟨q, rfl⟩, k, hw⟩; rw [hw]; clear hw w')
  go_ret
  exact ⟨rfl, _, rfl⟩

theorem orLow (c b : Nat) (hc : c < 72057594037927936) (hb : b < 256) : bits .or .u64 ((c : Int) * 256) (b : Int) = ((c * 256 + b : Nat) : Int) := by
  have e1 : (c : Int) * 256 = ((c * 256 : Nat) : Int) := by omega
  rw [e1, bits_or_u64_nat _ _ (by omega) (by omega)]
  congr 1
  have := Nat.two_pow_add_eq_or_of_lt (i := 8) (b := b) (by omega) c
  rw [Nat.mul_comm c 256]; exact this.symm

theorem fold_num (c b : Nat) : c / 72057594037927936 * 18446744073709551616 + (c * 256 % 18446744073709551616 + b) = 256 * c + b := by omega

set_option maxHeartbeats 400000 in
theorem fold_any (m : Nat) (hm : okM m) (c : Nat) (b : UInt8) (hc : c < m) (Ba Bm : Nat) (w : World) (ha : Boxed w Ba 68 (.int .u64 c)) (hmb : Boxed w Bm 68 (.int .u64 m)) :
    Calls Tryd.prog 72 #[.int .u8 (b.toNat : Int), .pointer (some ⟨Ba, 0, none⟩), .pointer (some ⟨Bm, 0, none⟩)] w fun e w' => e = .returned (.tuple #[]) ∧ ∃ k, w' = (w.drewN k).setCell ⟨Ba, 0, none⟩ (.int .u64 (((256 * c + b.toNat) % m : Nat) : Int)) := by
  have hl := hm.lt
  have hb : b.toNat < 256 := b.toNat_lt
  have hh : c / 72057594037927936 < m := by omega
  have hlo : c * 256 % 18446744073709551616 + b.toNat < 18446744073709551616 := by omega
  have HD := Lib.hid (fun w => rem64M_any m hm _ _ hh hlo w)
  rw [fold_num] at HD
  have k1 := ha.cell
  have k2 := hmb.cell
  have k3 := ha.frozen
  have c1 := wrapU (b.toNat : Int) (by omega) (by omega)
  have HE1 : Hid ((c : Int) / 72057594037927936 = ((c / 72057594037927936 : Nat) : Int)) := Lib.hid (by omega)
  have HE2 : Hid (bits .or .u64 (IntKind.u64.wrap ((c : Int) * 256)) (b.toNat : Int) = ((c * 256 % 18446744073709551616 + b.toNat : Nat) : Int)) := Lib.hid (by
    have o1 := orLow (c * 256 % 18446744073709551616 / 256) b.toNat (by omega) hb
    have e1 : ((c * 256 % 18446744073709551616 / 256 : Nat) : Int) * 256 = IntKind.u64.wrap ((c : Int) * 256) := by rw [IntKind.wrap_u64]; omega
    have e2 : c * 256 % 18446744073709551616 / 256 * 256 = c * 256 % 18446744073709551616 := by omega
    rw [e1, e2] at o1
    exact o1)
  generalize (256 * c + b.toNat) % m = r at *
  generalize b.toNat = b at *
  go_enter Tryd.func72, Tryd.ntmps72
  go_wp2_with (go_at_call 67; rw [HE1.out, HE2.out]; refine (HD.out _).mono ?_; rintro e w' ⟨rfl, k, hw⟩; rw [hw]; clear hw w')
  go_end0
  exact ⟨rfl, _, rfl⟩

theorem byte_size (w : World) : (sizeOf 5).run Tryd.prog w = .ok 1 w := by kernel_rfl
theorem asInt_k (k : Nat) (w : World) : (asIntOf (.int .i64 (k : Int))).run Tryd.prog w = .ok (.i64, (k : Int)) w := rfl
/-- A digest's byte. -/
theorem idx_dig {xs : List Value} {k : Nat} {v : Value} (hk : k < 32) (hv : xs[k]? = some v) (w : World) :
    (Instr.index 87 (.agg xs.toArray) (.int .i64 (k : Int))).run Tryd.prog w = .ok v w := by
  have hp := run_part_plain (P := Tryd.prog) (e := 5) (by kernel_rfl) (xs := xs.toArray) (off := k) (v := v) (by simpa using hv) (w := w)
  have hu := run_underlying digest_und w
  have h1 : (0 : Int) ≤ (k : Int) ∧ (k : Int) < ((32 : Nat) : Int) := ⟨by omega, by omega⟩
  unfold Instr.index
  simp only [Sem.run_bind, asInt_k, Result.andThen, hu]
  rw [if_pos h1]
  simp only [Sem.run_bind, byte_size, Result.andThen, Nat.mul_one, Int.toNat_natCast]
  exact hp

theorem restD_take {m : Nat} {x : List UInt8} {k : Nat} (hk : k < x.length) : restD m (x.take (k + 1)) = (256 * restD m (x.take k) + (x.getD k 0).toNat) % m := by
  rw [List.take_add_one, List.getElem?_eq_getElem hk]
  simp only [restD, Option.toList_some, List.foldl_append, List.foldl_cons, List.foldl_nil]
  congr 3
  simp [hk]
theorem restD_lt {m : Nat} (hm : 0 < m) (x : List UInt8) : restD m x < m := by rw [restD_eq]; exact Nat.mod_lt _ hm

set_option maxRecDepth 100000 in
set_option maxHeartbeats 2000000 in
theorem remainder_any (m : Nat) (hm : okM m) (x : List UInt8) (hx : x.length = 32) (w : World) :
    Calls Tryd.prog 60 #[.agg (bvA x), .int .u64 m] w fun e w' => e = .returned (.int .i64 (restD m x : Nat)) ∧ Below w.heap.size w w' := by
  have hl := hm.lt
  have HI : Hid ((Tryd.prog.info? 87).map (·.size) = some (x.map bv).length) := by show _ = _; rw [List.length_map, hx]; exact sha_size
  obtain ⟨W3, hW3⟩ : ∃ W3, W3 = ((w.alloc (Obj.cells (bvA x) 87)).alloc (Obj.cells #[Value.int IntKind.u64 m] 68)).alloc (Obj.cells #[Value.int IntKind.u64 0] 68) := ⟨_, rfl⟩
  have hB : Below w.heap.size w W3 := hW3 ▸ (((Below.refl _ _).alloc (Nat.le_refl _) _).alloc (by simp) _).alloc (by simp; omega) _
  have hm1 : Boxed W3 (w.heap.size + 1) 68 (.int .u64 m) := by
    rw [hW3]
    have h := (Boxed.new (w.alloc (Obj.cells (bvA x) 87)) 68 (.int .u64 m)).alloc (Obj.cells #[Value.int IntKind.u64 0] 68)
    rwa [World.size_alloc] at h
  have hr1 : Boxed W3 (w.heap.size + 1 + 1) 68 (.int .u64 0) := by
    rw [hW3]
    have h := Boxed.new ((w.alloc (Obj.cells (bvA x) 87)).alloc (Obj.cells #[Value.int IntKind.u64 m] 68)) 68 (.int .u64 0)
    rwa [World.size_alloc, World.size_alloc] at h
  have HR : Hid (W3.rangeAt w.heap.size 0 (x.map bv)) := Lib.hid (by
    have h : W3.heap[w.heap.size]? = some (.cells (bvA x) 87 (0, 0)) := by
      rw [hW3]
      exact (((Below.refl _ (w.alloc (Obj.cells (bvA x) 87))).alloc (Nat.le_refl _) _).alloc (by simp) _).block _ (by simp) |>.trans (World.alloc_heap_new w _)
    intro i v hv
    rw [Nat.zero_add, cell_of_row _ _ _ _ _ _ h]
    simpa [bvA] using hv)
  have HW3 := Lib.hid hW3
  have hsz : w.heap.size + 1 + 1 + 1 = W3.heap.size := by rw [hW3]; simp
  clear hW3
  go_enter Tryd.func60, Tryd.ntmps60
  go_wp2_with (rw [← HW3.out]; refine wpList_load_mid rfl 87 (.tmp 2) rfl w.heap.size 0 rfl (x.map bv) _ HR.out digest_und rfl HI.out ?_)
  clear HR HI HW3
  have hmp : 0 < m := by omega
  go_loopw [11] (fun i wr => ∃ k : Nat, i = .int .i64 k ∧ k ≤ 32 ∧ Boxed wr (w.heap.size + 1) 68 (.int .u64 m) ∧ Boxed wr (w.heap.size + 1 + 1) 68 (.int .u64 (restD m (x.take k) : Nat)) ∧ Below w.heap.size w wr) (fun i _ => 32 - (intOf i).toNat)
  case atStart => exact ⟨0, rfl, by omega, hm1, hr1, hB⟩
  case round =>
    obtain ⟨k, rfl, hk, hbm, hbr, hb⟩ := hrel
    clear hm1 hr1 hB hsz
    have hlt1 := restD_lt hmp (x.take k)
    by_cases hlt : k < 32
    · have f1 : decide ((k : Int) < 32) = true := decide_eq_true (by omega)
      have HS := Lib.hid (restD_take (m := m) (x := x) (k := k) (by omega))
      have hkx : k < x.length := by omega
      have hg : (x.map bv).toArray[k]? = some (.int .u8 ((x.getD k 0).toNat : Int)) := by simp [hkx, bv]
      have hg2 : (x.map bv)[k]? = some (.int .u8 ((x.getD k 0).toNat : Int)) := by simp [hkx, bv]
      have HF := Lib.hid (fun w' => fold_any m hm (restD m (x.take k)) (x.getD k 0) hlt1 (w.heap.size + 1 + 1) (w.heap.size + 1) w')
      rw [← HS.out] at HF
      clear HS
      generalize x.getD k 0 = c at *
      generalize restD m (x.take k) = r at *
      obtain ⟨r2, hr2⟩ : ∃ r2, restD m (x.take (k + 1)) = r2 := ⟨_, rfl⟩
      rw [hr2] at HF
      have HR2 := Lib.hid hr2
      clear hr2
      have HIX := Lib.hid (fun W => idx_dig hlt hg2 W)
      clear hg hg2
      generalize x.map bv = xs at *
      have hix := fun W => HIX.out W
      clear HIX
      go_wp2_with (go_at_call 72; refine (HF.out _ hbr hbm).mono ?_; rintro e w9 ⟨rfl, n, hw⟩; rw [hw]; clear hw w9)
      go_roundw
      case rel => exact ⟨k + 1, by go_num, hlt, box_other (box_drew hbm _) _ (by omega), by rw [HR2.out]; exact (box_drew hbr _).set _, (below_drewN hb _).setCell (p := ⟨w.heap.size + 1 + 1, 0, none⟩) (by simp; omega) _⟩
      case measure => simp [intOf]; omega
    · obtain rfl : k = 32 := by omega
      have e : x.take 32 = x := by rw [← hx]; exact List.take_length
      rw [e] at hbr hlt1
      have k1 := hbr.cell
      have c1 := wrapI ((restD m x : Nat) : Int) (by omega) (by omega)
      clear e
      obtain ⟨r, hr⟩ : ∃ r, restD m x = r := ⟨_, rfl⟩
      rw [hr] at k1 c1 hlt1
      have HR2 := Lib.hid hr
      clear hr hbr
      go_wp2_with fail
      go_ret
      exact ⟨by rw [HR2.out]; first | rfl | simp [c1], hb⟩

theorem scalS_eq (x : List UInt8) : 1 + restD 2305843009213688668 x = scalS x := by rw [restD_eq]; rfl
theorem ptX_eq (x : List UInt8) : 2 + restD 4611686018427377336 x = ptX x := by rw [restD_eq]; rfl
theorem tagS_len32 (a b : List UInt8) : (tagS a b).length = 32 := tagS_len a b

theorem gScalar (s : ByteArray) (a : Option Addr) (cap : Nat) (l : List UInt8) (w : World) (hT : Tab w) (hl : RdB w.heap.size w a l) (hcap : l.length ≤ cap) (hc2 : cap ≤ maxLen) (hs : s.size ≤ 1152921504606846000) (hn : l.length ≤ 1152921504606840000) :
    Calls Tryd.prog 41 #[.string s, .slice a l.length cap] w fun e w' => e = .returned (.int .i64 (scalS (tagS s.data.toList l) : Nat)) ∧ Below w.heap.size w w' := by
  have HT := Lib.hid (Tagged_any s a cap l w hT hl hcap hc2 hs hn)
  have hx := tagS_len32 s.data.toList l
  have hb := scalS_bd (tagS s.data.toList l)
  have HR : Hid (∀ w, Calls Tryd.prog 60 #[.agg (bvA (tagS s.data.toList l)), .int .u64 2305843009213688668] w fun e w' => e = .returned (.int .i64 (restD 2305843009213688668 (tagS s.data.toList l) : Nat)) ∧ Below w.heap.size w w') := Lib.hid fun w => remainder_any 2305843009213688668 (.inr rfl) _ hx w
  have he := scalS_eq (tagS s.data.toList l)
  generalize tagS s.data.toList l = x at *
  generalize restD 2305843009213688668 x = r at *
  generalize scalS x = y at *
  have c1 := wrapI (1 + (r : Int)) (by omega) (by omega)
  have HE : Hid (1 + (r : Int) = (y : Int)) := Lib.hid (by omega)
  clear he hT hl
  go_enter Tryd.func41, Tryd.ntmps41
  go_wp2_with (first
    | (go_at_call 61; refine HT.out.mono ?_; rintro e w1 ⟨rfl, hb1⟩)
    | (go_at_call 60; refine (HR.out _).mono ?_; rintro e w2 ⟨rfl, hb2⟩))
  go_ret
  exact ⟨by rw [← HE.out]; rfl, belowNext hb1 hb2⟩

end Go.Proofs.YteigldfdaciopaaDoor

namespace Go.Proofs.YteigldfdaciopaaDoor
open Go.RowKit
set_option linter.unusedVariables false
set_option linter.unusedSimpArgs false

theorem rest_step (m n b : Nat) : (256 * n % m + b) % m = (256 * n + b) % m := by rw [Nat.add_mod, Nat.mod_mod, ← Nat.add_mod]

end Go.Proofs.YteigldfdaciopaaDoor
