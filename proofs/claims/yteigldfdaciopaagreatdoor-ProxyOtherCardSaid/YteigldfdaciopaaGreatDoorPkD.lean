/-
  Package derive, plain: a label and numbers as a list of values, its encoding, what a key expands to.
  Package derive: what is collected in a buffer embedded in a structure (bytes.Buffer's Write and Bytes at a field), and the key of it.
  Package derive: key, the array of what was collected.
  Package derive: encoding, the bytes for a label and numbers; the same list built elsewhere.
  Package derive: Expand and Mix.
  A range over a function that makes blocks of its own and writes them between the rounds, where no round leaves the loop.
  Package derive: the keys of a chain, one after the other.
  Package derive: Step.
  Package derive: Scalar. The reference: First, Purpose, Expand, Mix, Step, Scalar.
-/
import Derived.Test.YteigldfdaciopaaGreatDoorPkL
import Derived.Test.YteigldfdaciopaaGreatDoorPkK
import Derived.Test.YteigldfdaciopaaGreatDoorPkE
import Derived.Test.YteigldfdaciopaaGreatDoorPkB
import Derived.Test.YteigldfdaciopaaGreatDoorShelf
import Derived.Lib.BufferAt
import Derived.RegionTactic
import Derived.Deep.Draws
import Derived.Test.YteigldfdaciopaaGreatDoorKb
import Derived.Test.YteigldfdaciopaaGreatDoorPkG
import Derived.Laws.ResultCell
import Derived.Test.YteigldfdaciopaaGreatDoorPkH
import Derived.Test.YteigldfdaciopaaGreatDoorGv
import Derived.Test.YteigldfdaciopaaGreatDoorPkR
set_option linter.unusedVariables false
set_option linter.unusedSimpArgs false
namespace Go.Proofs.YteigldfdaciopaaGreatDoor
open Go.RowKit
set_option linter.unusedVariables false
set_option linter.unusedSimpArgs false

/-- Numbers as values. -/
def kidsN : List Int → VL
  | [] => .nil
  | n :: r => .cons 1 n ByteArray.empty .nil (kidsN r)
/-- A label and numbers as values. -/
def kidsS (s : ByteArray) (ns : List Int) : VL := .cons 2 0 s .nil (kidsN ns)
/-- The encoding of a label and numbers. -/
def purpS (s : ByteArray) (ns : List Int) : List UInt8 := venc 3 0 ByteArray.empty (kidsS s ns)

theorem kidsN_len : ∀ ns : List Int, (kidsN ns).len = ns.length
  | [] => rfl
  | n :: r => by simp only [kidsN, VL.len, kidsN_len r, List.length_cons]
theorem kidsS_len (s : ByteArray) (ns : List Int) : (kidsS s ns).len = ns.length + 1 := by simp only [kidsS, VL.len, kidsN_len]
theorem kidsN_app : ∀ (ns : List Int) (n : Int), (kidsN ns).app (.cons 1 n ByteArray.empty .nil .nil) = kidsN (ns ++ [n])
  | [], n => rfl
  | m :: r, n => by simp only [kidsN, VL.app, kidsN_app r n, List.cons_append]
theorem kidsS_app (s : ByteArray) (ns : List Int) (n : Int) : (kidsS s ns).app (.cons 1 n ByteArray.empty .nil .nil) = kidsS s (ns ++ [n]) := by
  simp only [kidsS, VL.app, kidsN_app]
theorem kidsS_take (s : ByteArray) (ns : List Int) (k : Nat) (h : k < ns.length) : (kidsS s (ns.take k)).app (.cons 1 ns[k] ByteArray.empty .nil .nil) = kidsS s (ns.take (k + 1)) := by
  rw [kidsS_app, List.take_succ_eq_append_getElem h]
theorem kidsN_sz : ∀ ns : List Int, (kidsN ns).sz = 2 * ns.length + 1
  | [] => rfl
  | n :: r => by simp only [kidsN, VL.sz, kidsN_sz r, List.length_cons]; omega
theorem kidsS_sz (s : ByteArray) (ns : List Int) : (kidsS s ns).sz = 2 * ns.length + 3 := by simp only [kidsS, VL.sz, kidsN_sz]; omega
theorem ba_none : ByteArray.empty.toList.isEmpty = true := by decide +kernel
theorem kidsN_wf : ∀ ns : List Int, (kidsN ns).wf = true
  | [] => rfl
  | n :: r => by
    show (vwf 1 n ByteArray.empty .nil && (kidsN r).wf) = true
    rw [kidsN_wf r]; simp [vwf, VL.isNil, ba_none]
theorem kidsS_wf (s : ByteArray) (ns : List Int) : (kidsS s ns).wf = true := by
  show (vwf 2 0 s .nil && (kidsN ns).wf) = true
  rw [kidsN_wf]; rfl
theorem kidsN_depth : ∀ ns : List Int, (kidsN ns).depth = 0
  | [] => rfl
  | n :: r => by simp [kidsN, VL.depth, kidsN_depth r]
theorem kidsS_depth (s : ByteArray) (ns : List Int) : (kidsS s ns).depth = 0 := by simp [kidsS, VL.depth, kidsN_depth]
theorem kidsS_chk (s : ByteArray) (ns : List Int) : vchk 3 0 ByteArray.empty (kidsS s ns) = 0 := by
  refine vchk_ok ?_ ?_
  · rw [vwf3, kidsS_wf, ba_none]; rfl
  · have : vdepth 3 (kidsS s ns) = 1 + (kidsS s ns).depth := by simp [vdepth]
    rw [this, kidsS_depth]; omega
theorem kidsN_size : ∀ ns : List Int, (kidsN ns).size ≤ 11 * ns.length
  | [] => Nat.zero_le _
  | n :: r => by
    have h1 := kidsN_size r
    have h2 := ndig_le (zig n)
    simp only [kidsN, VL.size, List.length_cons]
    simp only [if_pos]
    omega
theorem kidsS_vsize (s : ByteArray) (ns : List Int) : vsize 3 0 ByteArray.empty (kidsS s ns) ≤ 30 + s.size + 11 * ns.length := by
  have h1 := kidsN_size ns
  have h2 := ndig_le (kidsS s ns).len
  have h3 := ndig_le s.size
  have e : vsize 3 0 ByteArray.empty (kidsS s ns) = 1 + ndig (kidsS s ns).len + (kidsS s ns).size := by simp [vsize]
  have e2 : (kidsS s ns).size = 1 + ndig s.size + s.size + (kidsN ns).size := by simp [kidsS, VL.size]
  rw [e, e2]; omega
theorem purpS_len (s : ByteArray) (ns : List Int) : (purpS s ns).length ≤ 30 + s.size + 11 * ns.length := by
  unfold purpS; rw [venc_length]; exact kidsS_vsize s ns
theorem purpS_pos (s : ByteArray) (ns : List Int) : 0 < (purpS s ns).length := by
  unfold purpS; rw [venc_length]; simp [vsize]; omega

/-! ### It is decoded to the same list -/
theorem dval_num (d : Nat) (n : Int) (hn : I64 n) (r : List UInt8) : dval d (venc 1 n ByteArray.empty .nil ++ r) = some (⟨1, n, ByteArray.empty, .nil⟩, r) := by
  have h1 : venc 1 n ByteArray.empty .nil ++ r = 1 :: (numeral (zig n) ++ r) := rfl
  have h2 := dnum_numeral (zig n) r (zig_le hn)
  have h3 := zag_zig n
  have h4 : (1 : UInt8).toNat = 1 := rfl
  rw [h1]
  cases d <;> simp [dval, h2, h3, h4]
theorem dlist_nums (d : Nat) : ∀ (ns : List Int), (∀ n ∈ ns, I64 n) → ∀ r : List UInt8, dlist (dval d) ns.length ((kidsN ns).enc ++ r) = some (kidsN ns, r)
  | [], _, r => rfl
  | n :: q, h, r => by
    have h1 : (kidsN (n :: q)).enc ++ r = venc 1 n ByteArray.empty .nil ++ ((kidsN q).enc ++ r) := by
      show (venc 1 n ByteArray.empty .nil ++ (kidsN q).enc) ++ r = _
      rw [List.append_assoc]
    have h2 := dval_num d n (h n (List.mem_cons_self)) ((kidsN q).enc ++ r)
    have h3 := dlist_nums d q (fun m hm => h m (List.mem_cons_of_mem _ hm)) r
    rw [h1, List.length_cons]
    simp only [dlist, h2, h3, Option.map_some]
    rfl
theorem dval_text (d : Nat) (s : ByteArray) (hs : s.size ≤ 1000000) (r : List UInt8) : dval d (venc 2 0 s .nil ++ r) = some (⟨2, 0, s, .nil⟩, r) := by
  have h1 : venc 2 0 s .nil ++ r = 2 :: (numeral s.size ++ (s.data.toList ++ r)) := by
    show (2 :: (numeral s.size ++ s.data.toList)) ++ r = _
    rw [List.cons_append, List.append_assoc]
  have h2 := dnum_numeral s.size (s.data.toList ++ r) (by omega)
  have h4 : (2 : UInt8).toNat = 2 := rfl
  have e : s.data.toList.length = s.size := Array.length_toList
  have h5 : (s.data.toList ++ r).take s.size = s.data.toList := by rw [← e, List.take_left]
  have h6 : (s.data.toList ++ r).drop s.size = r := by rw [← e, List.drop_left]
  have h7 : s.size ≤ (s.data.toList ++ r).length := by rw [List.length_append, e]; omega
  have h8 : (⟨s.data.toList.toArray⟩ : ByteArray) = s := by simp
  rw [h1]
  cases d with
  | zero =>
    simp only [dval, h4, h2, Option.bind_some]
    rw [if_pos trivial, if_pos h7, h5, h6, h8]
    exact if_neg (by decide)
  | succ d =>
    simp only [dval, h4, h2, Option.bind_some]
    rw [if_pos trivial, if_pos h7, h5, h6, h8]
    exact if_neg (by decide)
theorem dec_purp (s : ByteArray) (hs : s.size ≤ 1000000) (ns : List Int) (hn : ∀ n ∈ ns, I64 n) (hl : ns.length ≤ 1000000) : dec (purpS s ns) = some ⟨3, 0, ByteArray.empty, kidsS s ns⟩ := by
  have e1 : purpS s ns = 3 :: (numeral (ns.length + 1) ++ (venc 2 0 s .nil ++ (kidsN ns).enc)) := by
    unfold purpS
    rw [venc3 (by decide) (by decide), kidsS_len]
    rw [show (kidsS s ns).enc = venc 2 0 s .nil ++ (kidsN ns).enc from rfl]
    simp
  have h4 : (3 : UInt8).toNat = 3 := rfl
  have h2 := dnum_numeral (ns.length + 1) (venc 2 0 s .nil ++ (kidsN ns).enc) (by omega)
  have h3 := dval_text 15 s hs (kidsN ns).enc
  have h5 := dlist_nums 15 ns hn []
  rw [List.append_nil] at h5
  have h6 : dval 16 (purpS s ns) = some (⟨3, 0, ByteArray.empty, kidsS s ns⟩, []) := by
    rw [e1]
    show (if (3 : UInt8).toNat = 1 then _ else if (3 : UInt8).toNat = 2 then _ else if (3 : UInt8).toNat = 3 then _ else none) = _
    rw [h4, if_neg (by decide), if_neg (by decide), if_pos rfl, h2]
    simp only [Option.bind_some, dlist, h3, h5, Option.map_some]
    rfl
  unfold dec
  rw [h6]

/-! ### What a key expands to -/
def tagDerive : List UInt8 := [100, 101, 114, 105, 118, 101]
def tagMix : List UInt8 := [109, 105, 120]
def tagSeed : List UInt8 := [115, 101, 101, 100]
def tagScalar : List UInt8 := [115, 99, 97, 108, 97, 114]
def lblStep : ByteArray := ⟨#[115, 116, 101, 112]⟩

/-- The cells of a slice of ints. -/
def RdM (B : Nat) (w : World) (a : Option Addr) (l : List Int) : Prop :=
  l.length ≤ maxLen ∧ (l = [] ∨ ∃ b o, a = some ⟨b, o, none⟩ ∧ b < B ∧ ∀ j (h : j < l.length), w.cell? ⟨b, o + j, none⟩ = some (.int .i64 l[j]))
theorem RdM.nil (B : Nat) (w : World) (a : Option Addr) : RdM B w a [] := ⟨Nat.zero_le _, .inl rfl⟩
theorem RdM.below {B : Nat} {w w' : World} {a : Option Addr} {l : List Int} (h : RdM B w a l) (hb : Below B w w') : RdM B w' a l := by
  refine ⟨h.1, h.2.imp_right ?_⟩
  rintro ⟨b, o, e, hB, hc⟩
  exact ⟨b, o, e, hB, fun j hj => (hb.cell (p := ⟨b, o + j, none⟩) hB).trans (hc j hj)⟩
theorem RdM.mono {B B' : Nat} {w : World} {a : Option Addr} {l : List Int} (h : RdM B w a l) (hB : B ≤ B') : RdM B' w a l := by
  refine ⟨h.1, h.2.imp_right ?_⟩
  rintro ⟨b, o, e, hb, hc⟩
  exact ⟨b, o, e, by omega, hc⟩
theorem RdM.at_ {B : Nat} {w : World} {a : Option Addr} {l : List Int} (h : RdM B w a l) (h0 : 0 < l.length) : ∃ b o, a = some ⟨b, o, none⟩ ∧ b < B ∧ ∀ j (h : j < l.length), w.cell? ⟨b, o + j, none⟩ = some (.int .i64 l[j]) := by
  rcases h.2 with e | e
  · rw [e] at h0; cases h0
  · exact e
end Go.Proofs.YteigldfdaciopaaGreatDoor

namespace Go.Proofs.YteigldfdaciopaaGreatDoor
open Go.RowKit
set_option linter.unusedVariables false
set_option linter.unusedSimpArgs false

/-- The other cells of a source: its tag. -/
def srcR (tag : ByteArray) : Nat → Option Value := fun i => if i = 0 then some (.string tag) else none
/-- Block b is a source with this tag, in which the bytes m were collected. -/
def Src (B : Nat) (w : World) (b : Nat) (tag : ByteArray) (m : List UInt8) : Prop := LibA.IsBuffer 77 (srcR tag) 5 B b 1 (m.map bv) w
theorem Src.lt {B : Nat} {w : World} {b : Nat} {tag : ByteArray} {m : List UInt8} (h : Src B w b tag m) : b < w.heap.size := LibA.IsBuffer.lt h
theorem Src.ge {B : Nat} {w : World} {b : Nat} {tag : ByteArray} {m : List UInt8} (h : Src B w b tag m) : B ≤ b := h.1
theorem Src.call {B : Nat} {w w' : World} {b : Nat} {tag : ByteArray} {m : List UInt8} (h : Src B w b tag m) (hb : Below w.heap.size w w') : Src B w' b tag m := LibA.IsBuffer.old h hb
theorem Src.tag {B : Nat} {w : World} {b : Nat} {tag : ByteArray} {m : List UInt8} (h : Src B w b tag m) : w.cell? ⟨b, 0, none⟩ = some (.string tag) := LibA.IsBuffer.rest h 0 (Or.inl (by omega))
theorem Src.new {B : Nat} {w : World} (tag : ByteArray) (hB : B ≤ w.heap.size) : Src B (w.alloc (.cells #[.string tag, .slice none 0 0, .int .i64 0, .int .i8 0] 77)) w.heap.size tag [] := by
  refine LibA.zero_isBuffer hB ⟨_, heap_alloc_new w _, rfl, rfl, rfl, fun i hi => ?_⟩
  rcases hi with hi | hi
  · obtain rfl : i = 0 := by omega
    rfl
  · rw [Array.getElem?_eq_none (by show 4 ≤ i; omega)]
    unfold srcR; rw [if_neg (by omega)]
theorem Src.new' {B : Nat} {w : World} (tag : ByteArray) (b : Nat) (hb : b = w.heap.size) (hB : B ≤ w.heap.size) : Src B (w.alloc (.cells #[.string tag, .slice none 0 0, .int .i64 0, .int .i8 0] 77)) b tag [] := hb ▸ Src.new tag hB
theorem bv_one (m : List UInt8) : ∀ v ∈ m.map bv, v.oneCell' = true := by
  intro v hv
  obtain ⟨c, _, rfl⟩ := List.mem_map.1 hv
  rfl

/-- Write: the bytes are collected behind the others. -/
theorem src_write {B : Nat} {b : Nat} {tag : ByteArray} {m : List UInt8} (a : Option Addr) (cap : Nat) (l : List UInt8) {w : World} (h : Src B w b tag m) (hB : B ≤ w.heap.size) (hl : RdX b w a l) (h0 : 0 < l.length) (hlim : m.length + l.length ≤ 140737488355328) :
    Calls Tryz.prog 79 #[.pointer (some ⟨b, 1, none⟩), .slice a l.length cap] w fun e w' => e = .returned (.tuple #[.int .i64 l.length, .nilIface]) ∧ Src B w' b tag (m ++ l) ∧ Below B w w' := by
  rcases hl.2 with e | ⟨g, o, rfl, hg, hgb, hc⟩
  · rw [e] at h0; cases h0
  · have hk := Tryz.Buffer_Write_at 77 (srcR tag) B b 1 (m.map bv) (l.map bv) ⟨g, o, none⟩ l.length cap w h hB (bv_one m) (by rw [List.length_map]) hgb (fun j v hj => by
      rw [List.getElem?_map, Option.map_eq_some_iff] at hj
      obtain ⟨c, hj, rfl⟩ := hj
      obtain ⟨hlt, rfl⟩ := List.getElem?_eq_some_iff.1 hj
      rw [addr_add]
      exact hc j hlt) (bv_one l) (by rw [List.length_map]; exact hlim)
    refine hk.mono ?_
    rintro e w' ⟨rfl, h1, h2, _⟩
    refine ⟨rfl, ?_, h2⟩
    unfold Src; rw [List.map_append]; exact h1

/-- Bytes, at a field: the whole slice. -/
theorem bufBytes_none (b q : Nat) (w : World) (c0 : w.cell? ⟨b, q, none⟩ = some (.slice none 0 0)) (c1 : w.cell? ⟨b, q + 1, none⟩ = some (.int .i64 0)) :
    Calls Tryz.prog 97 #[.pointer (some ⟨b, q, none⟩)] w fun e w' => e = .returned (.slice none 0 0) ∧ ∃ n, w' = w.drewN n := by
  go_enter Tryz.func97, Tryz.ntmps97
  go_wp2
  go_region
  all_goals (go_wp2; go_ret; exact ⟨rfl, 1, rfl⟩)
theorem bufBytes_some (b q g n cap : Nat) (w : World) (c0 : w.cell? ⟨b, q, none⟩ = some (.slice (some ⟨g, 0, none⟩) n cap)) (c1 : w.cell? ⟨b, q + 1, none⟩ = some (.int .i64 0)) (hnc : n ≤ cap) (hcm : cap ≤ maxLen) :
    Calls Tryz.prog 97 #[.pointer (some ⟨b, q, none⟩)] w fun e w' => e = .returned (.slice (some ⟨g, 0, none⟩) n cap) ∧ ∃ n, w' = w.drewN n := by
  unfold maxLen at hcm
  go_enter Tryz.func97, Tryz.ntmps97
  go_wp2
  go_region
  all_goals (go_wp2; go_ret; exact ⟨rfl, 1, rfl⟩)
/-- The bytes collected. -/
theorem src_bytes {B : Nat} {b : Nat} {tag : ByteArray} {m : List UInt8} {w : World} (h : Src B w b tag m) : ∃ a cap, OwnB B w (.slice a m.length cap) m ∧
    ∀ w', (∃ k, w' = w.drewN k) → Calls Tryz.prog 97 #[.pointer (some ⟨b, 1, none⟩)] w' fun e w'' => e = .returned (.slice a m.length cap) ∧ ∃ n, w'' = w'.drewN n := by
  obtain ⟨hB, v, lr, h3, hown, hne⟩ := h
  rw [List.length_map] at hown
  rcases hown.2 with ⟨rfl, h0⟩ | ⟨g, cap, cur, rfl, hBg, hg, hnc, hcm, hcs, htk⟩
  · rw [h0]
    refine ⟨none, 0, ?_, ?_⟩
    · unfold OwnB; rw [← h0] at *; exact hown
    · rintro w' ⟨k, rfl⟩
      exact bufBytes_none b 1 _ h3.c0 h3.c1
  · refine ⟨some ⟨g, 0, none⟩, cap, hown, ?_⟩
    rintro w' ⟨k, rfl⟩
    exact bufBytes_some b 1 g m.length cap _ h3.c0 h3.c1 hnc hcm
end Go.Proofs.YteigldfdaciopaaGreatDoor

namespace Go.Proofs.YteigldfdaciopaaGreatDoor
open Go.RowKit
set_option linter.unusedVariables false
set_option linter.unusedSimpArgs false

theorem below_dNk {B : Nat} {w w' : World} (h : Below B w w') (n : Nat) : Below B w (w'.drewN n) := h.trans ⟨rfl, rfl, rfl, Nat.le_refl _, fun _ _ => rfl⟩
set_option maxRecDepth 100000 in
set_option maxHeartbeats 1600000 in
theorem key_any {B : Nat} {b : Nat} {tag : ByteArray} {m : List UInt8} {w : World} (h : Src B w b tag m) (hT : Tab w) (hs : tag.size ≤ 600) (hm : m.length ≤ 1000000) :
    Calls Tryz.prog 81 #[.pointer (some ⟨b, 0, none⟩)] w fun e w' => e = .returned (.agg (bvA (tagS tag.data.toList m))) ∧ Below w.heap.size w w' := by
  have HT := Lib.hid hT
  have hlt := h.lt
  obtain ⟨w1, hw1⟩ : ∃ w1, w1 = w.alloc (.cells (bvA (List.replicate 32 0)) 23) := ⟨_, rfl⟩
  have hB1 : Below w.heap.size w w1 := hw1 ▸ (Below.refl _ _).alloc (Nat.le_refl _) _
  have hD1 : BB w1 w.heap.size 23 (List.replicate 32 0) := hw1 ▸ BB.new w _ _
  have h1 := h.call hB1
  have ct := h1.tag
  obtain ⟨a, cap, ho, hby⟩ := src_bytes h1
  have HO := Lib.hid ho
  have HBY := Lib.hid hby
  have HB1 := Lib.hid hB1
  have HD1 := Lib.hid hD1
  have HL := Lib.hid (tagS_len tag.data.toList m)
  clear ho hby hB1 hD1 h1 hT
  go_enter Tryz.func81, Tryz.ntmps81
  go_wp2_with fail
  change Code.wp _ _ _ _ (w.alloc (.cells (bvA (List.replicate 32 0)) 23))
  rw [← hw1]
  clear hw1
  refine wp_region_quiet_tail 8 (by kernel_rfl) (by kernel_rfl) ?_
  simp only [List.take_succ_cons, List.take_zero, List.drop_succ_cons, List.drop_zero]
  iterate 7 (go_big_quiet_step (fail))
  go_big_quiet_step ((go_at_call 97; exact Calls.quiet_of (HBY.out _ ⟨_, rfl⟩)))
  refine wpQuiet_nil ?_
  intro _ hw'
  obtain ⟨nq, hw''⟩ := hw'
  subst hw''
  have HB2 := Lib.hid (below_dNk HB1.out nq)
  have HD2 : Hid (BB (w1.drewN nq) w.heap.size 23 (List.replicate 32 0)) := Lib.hid HD1.out
  have HR2 : Hid (RdB (w1.drewN nq).heap.size (w1.drewN nq) a m) := Lib.hid HO.out.rd
  clear HB1 HD1 HBY ct hlt
  generalize w1.drewN nq = w2 at *
  go_wp2_with fail
  refine (Tagged_any tag a cap m w2 (HT.out.below HB2.out HT.out.lt) HR2.out HO.out.caps.1 HO.out.caps.2 (by omega) (by omega)).mono ?_
  rintro e w3 ⟨rfl, hb3⟩
  have HD3 := Lib.hid (HD2.out.below hb3 HD2.out.lt)
  have HB3 := Lib.hid (HB2.out.trans (hb3.mono HB2.out.size))
  generalize hX : tagS tag.data.toList m = X at *
  have HX := Lib.hid hX
  clear hX hb3 HD2 HB2 HR2 HO
  go_wp2_with (refine wpList_storeA rfl 23 (.tmp 2) (.tmp 11) rfl w.heap.size (bvA X) rfl rfl 23 _ HD3.out (key_sz _ HL.out) (key_old _ HL.out) (bvA_one _) ?_)
  intro w9 h9 hg9
  have hB9 := grown_below HB3.out hg9 (Nat.le_refl _) HB3.out.size
  go_wp2_with fail
  refine bodyPost_ret (v := .agg (bvA X)) ?_ rfl ⟨by rw [HX.out], hB9⟩
  exact results_cell_row rfl _ _ w.heap.size 23 _ (0, 0) _ rfl h9 key_und rfl (key_sz _ HL.out)
end Go.Proofs.YteigldfdaciopaaGreatDoor

namespace Go.Proofs.YteigldfdaciopaaGreatDoor
open Go.RowKit
set_option linter.unusedVariables false
set_option linter.unusedSimpArgs false

theorem empty_le2 : ByteArray.empty.size ≤ maxLen := Nat.zero_le _
/-- make([]api.Value, 0, n). -/
theorem run_makeV (n : Nat) (hn : n ≤ 1000000000) (W : World) : (Instr.makeSlice 98 (.int .i64 0) (.int .i64 (n : Int))).run Tryz.prog W = .ok (.slice (some ⟨W.heap.size, 0, none⟩) 0 n) (W.alloc (.cells (madeCells #[.int .i64 0, .int .i64 0, .string ByteArray.empty, .slice none 0 0] (n * 4)) 100)) := by
  obtain ⟨i0, hi, hz0, hz1, hz2⟩ := info_parts valInfo
  have := run_make (P := Tryz.prog) W 98 100 i0 _ Tryz.underlying98 hi hz0 .i64 .i64 0 (n : Int) (by omega) (by omega) (by rw [hz2]; omega) (by omega)
  rw [hz1, Int.toNat_natCast] at this
  exact this
/-- A list of plain values that the call owns. -/
def OV (B : Nat) (w : World) (v : Value) (f : VL) : Prop := OwnV (fun _ => False) B w v f
theorem OV.made {B : Nat} {w : World} (n : Nat) (hn : n ≤ 1000000000) (hB : B ≤ w.heap.size) : OV B (w.alloc (.cells (madeCells #[.int .i64 0, .int .i64 0, .string ByteArray.empty, .slice none 0 0] (n * 4)) 100)) (.slice (some ⟨w.heap.size, 0, none⟩) 0 n) .nil :=
  ⟨[], World.ownsRow_made w _ n hB (by unfold maxLen; omega) (by rw [size_madeCells]), rfl⟩
theorem OV.call {B : Nat} {w w' : World} {v : Value} {f : VL} (h : OV B w v f) (hb : Below w.heap.size w w') : OV B w' v f := by
  obtain ⟨cs, ho, hc⟩ := h
  exact ⟨cs, World.ownsRow.kept ho (upd_of (R := w.heap.size) hb) (.inr fun e => by have := (World.ownsRow.lt ho _ e).2; omega), hc.keep (fun _ h => h) (fun _ h => h.elim)⟩
theorem OV.rep {B : Nat} {w : World} {v : Value} {f : VL} (h : OV B w v f) : ∃ a cap, v = .slice a f.len cap ∧ RepS w.heap.size w a cap f := by
  obtain ⟨a, cap, e, hr⟩ := OwnV.rep (ok' := fun b => b < w.heap.size) h (fun _ h => h.elim) (fun b _ h => h)
  exact ⟨a, cap, e, hr.toS fun _ h => h⟩
theorem OV.base {B : Nat} {w : World} {v : Value} {f : VL} (h : OV B w v f) : ∀ k, v.ownBlock = some k → B ≤ k := fun k hk => (OwnV.row h k hk).1
/-- A literal of one text. -/
theorem OV.one {B : Nat} {w : World} (s : ByteArray) (hs : s.size ≤ maxLen) (hB : B ≤ w.heap.size) : OV B (w.alloc (.cells #[.int .i64 2, .int .i64 0, .string s, .slice none 0 0] 100)) (.slice (some ⟨w.heap.size, 0, none⟩) 1 1) (kidsS s []) := by
  refine ⟨[.int .i64 2, .int .i64 0, .string s, .slice none 0 0], ⟨by simp [kidsS, kidsN, VL.len], .inr ⟨w.heap.size, 1, _, rfl, hB, heap_alloc_new w _, by simp [kidsS, kidsN, VL.len], by unfold maxLen; omega, rfl, rfl⟩⟩, ?_⟩
  exact ⟨none, 0, [], rfl, ⟨by omega, by omega⟩, ⟨by omega, by omega⟩, hs, ⟨Nat.zero_le _, .inl ⟨fun _ => rfl, rfl⟩⟩, rfl⟩

/-- append(own, a plain value). -/
theorem wpList_appP {ops : Array Oper} {rest : List Oper} {o : Oper} {a : Act} {w : World} {Q : Exit → Act → World → Prop} (hgd : o.guard = none) (s x : Operand)
    (ho : o.op = .call { callee := .builtin .append, args := #[s, x], argTypes := #[98, 98] })
    (B : Nat) (v : Value) (f : VL) (k n : Int) (str : ByteArray) (w0 : World) (hs : a.eval s = v) (hown : OV B w0 v f) (g : Nat) (hx : a.eval x = .slice (some ⟨g, 0, none⟩) 1 1) (hg : g = w0.heap.size)
    (hw : w = w0.alloc (.cells #[.int .i64 k, .int .i64 n, .string str, .slice none 0 0] 100)) (hk : I64 k) (hn : I64 n) (hst : str.size ≤ maxLen)
    (hlen : f.len + 1 ≤ 2000000000000) (hB : B ≤ w0.heap.size)
    (h : ∀ v' w', OV B w' v' (f.app (.cons k n str .nil .nil)) → Below B w0 w' → wpList Tryz.prog ops Q rest (a.put o.dst v') w') : wpList Tryz.prog ops Q (o :: rest) a w := by
  subst hg
  have hb : Below w0.heap.size w0 w := hw ▸ (Below.refl _ _).alloc (Nat.le_refl _) _
  have h1 := hown.call hb
  refine wpList_appV hgd s x ho (fun _ => False) B v f k n str .nil none 0 w0.heap.size hs h1 hx (hw ▸ heap_alloc_new w0 _) hk hn hst ⟨Nat.zero_le _, .inl ⟨fun _ => rfl, rfl⟩⟩ hlen (Nat.le_trans hB hb.size) (fun b hb => hb.elim) fun v' w' h2 h3 => ?_
  exact h v' w' (OwnV.imp h2 fun _ h => h.1) ((hb.mono hB).trans (h3.below h1.base (Nat.le_trans hB hb.size)))

set_option maxRecDepth 100000 in
set_option maxHeartbeats 1600000 in
theorem encoding_any (s : ByteArray) (a : Option Addr) (cap : Nat) (ns : List Int) (w : World) (hs : s.size ≤ 100000) (hr : RdM w.heap.size w a ns) (hl : ns.length ≤ 1000) (hI : ∀ n ∈ ns, I64 n) :
    Calls Tryz.prog 80 #[.string s, .slice a ns.length cap] w fun e w' => ∃ v, e = .returned v ∧ OwnB w.heap.size w' v (purpS s ns) ∧ Below w.heap.size w w' := by
  have HR := Lib.hid hr
  have HI := Lib.hid hI
  have HS : Hid (s.size ≤ maxLen) := Lib.hid (by unfold maxLen; omega)
  have HLN := Lib.hid (kidsS_len s)
  have HTK := Lib.hid (kidsS_take s ns)
  have HT0 : Hid (kidsS s (ns.take 0) = kidsS s []) := Lib.hid rfl
  have HTN : Hid (kidsS s (ns.take ns.length) = kidsS s ns) := Lib.hid (by rw [List.take_length])
  have HEN := Lib.hid (fun (a : Option Addr) (cap : Nat) (W : World) (h : RepS W.heap.size W a cap (kidsS s ns)) => encode_ok W.heap.size 3 0 ByteArray.empty a cap (kidsS s ns) W (by rw [kidsS_sz]; omega) (by have := kidsS_vsize s ns; omega) ⟨by omega, by omega⟩ ⟨by omega, by omega⟩ empty_le2 h (Nat.le_refl _) (kidsS_chk s ns))
  have hmk := run_makeV (ns.length + 1) (by omega)
  have e1 : ((ns.length + 1 : Nat) : Int) = 1 + (ns.length : Int) := by omega
  rw [e1] at hmk
  clear e1 hr hI
  obtain ⟨q, hq⟩ : ∃ q, ns.length = q := ⟨_, rfl⟩
  rw [hq] at hmk hl HTN ⊢
  have HQ := Lib.hid hq
  clear hq
  have i1 : (q : Int) ≤ 1000 := by omega
  have HO0 := Lib.hid (OV.made (B := w.heap.size) (w := w) (q + 1) (by omega) (Nat.le_refl _))
  have HB0 : Hid (Below w.heap.size w (w.alloc (.cells (madeCells #[.int .i64 0, .int .i64 0, .string ByteArray.empty, .slice none 0 0] ((q + 1) * 4)) 100))) := Lib.hid ((Below.refl _ _).alloc (Nat.le_refl _) _)
  go_enter Tryz.func80, Tryz.ntmps80
  go_wp2_with ((with_reducible show wpList _ _ _ (({ dst := some 18, op := _, type := _, pos := _, after := _, guard := _ } : Oper) :: _) _ _); go_must (refine wpList_appP rfl (.tmp 14) (.tmp 17) rfl w.heap.size _ .nil 2 0 s _ rfl HO0.out _ rfl (by simp) rfl ⟨by omega, by omega⟩ ⟨by omega, by omega⟩ HS.out (by decide) HB0.out.size ?_))
  intro v1 w1 ho1 hb1
  have HO1 : Hid (OV w.heap.size w1 v1 (kidsS s (ns.take 0))) := Lib.hid (by rw [HT0.out]; exact ho1)
  have HB1 := Lib.hid (HB0.out.trans hb1)
  clear ho1 hb1 HO0 HB0 hmk
  go_wp2_with fail
  go_loopw [5, 21] (fun v i wr => ∃ k : Nat, k ≤ q ∧ i = .int .i64 k ∧ OV w.heap.size wr v (kidsS s (ns.take k)) ∧ Below w.heap.size w wr) (fun _ i _ => q - (intOf i).toNat)
  case atStart => exact ⟨0, by omega, rfl, HO1.out, HB1.out⟩
  case round =>
    clear HO1 HB1
    obtain ⟨k, hk, rfl, ho, hb⟩ := hrel
    have HO := Lib.hid ho
    have HB := Lib.hid hb
    clear ho hb
    by_cases hlt : k < q
    · have hkl : k < ns.length := by rw [HQ.out]; exact hlt
      obtain ⟨b, o, rfl, hbB, hc⟩ := HR.out.at_ (by omega)
      have ck := (HB.out.cell (p := ⟨b, o + k, none⟩) hbB).trans (hc k hkl)
      have HX := Lib.hid (HTK.out k hkl)
      have HIk := Lib.hid (HI.out _ (List.getElem_mem hkl))
      have HLk : Hid ((kidsS s (ns.take k)).len + 1 ≤ 2000000000000) := Lib.hid (by rw [kidsS_len, List.length_take]; omega)
      generalize ns[k] = nk at *
      clear hc
      go_wp2_with ((with_reducible show wpList _ _ _ (({ dst := some 29, op := _, type := _, pos := _, after := _, guard := _ } : Oper) :: _) _ _); go_must (refine wpList_appP rfl (.tmp 25) (.tmp 28) rfl w.heap.size _ (kidsS s (ns.take k)) 1 nk ByteArray.empty _ rfl HO.out _ rfl (by simp) rfl ⟨by omega, by omega⟩ HIk.out empty_le2 HLk.out HB.out.size ?_))
      intro v4 w4 ho4 hb4
      rw [HX.out] at ho4
      have HO4 := Lib.hid ho4
      have HB4 := Lib.hid (HB.out.trans hb4)
      clear ho4 hb4 HO HB ck
      go_wp2_with fail
      go_roundw
      case rel => exact ⟨k + 1, by omega, by go_num, HO4.out, HB4.out⟩
      case measure => simp [intOf]; omega
    · obtain rfl : k = q := by omega
      rw [HTN.out] at HO
      obtain ⟨a5, cap5, rfl, hrep⟩ := HO.out.rep
      have HRP := Lib.hid hrep
      clear hrep hlt
      go_wp2_with (go_at_call 96; refine (HEN.out a5 cap5 _ HRP.out).mono ?_; rintro e w6 ⟨v6, rfl, ho6, hb6⟩)
      have HO6 := Lib.hid (ho6.mono HB.out.size)
      have HB6 := Lib.hid (HB.out.trans (hb6.mono HB.out.size))
      clear ho6 hb6 HO HB HRP
      obtain ⟨a7, cap7, rfl, _, _⟩ := HO6.out.form
      go_wp2_with fail
      go_ret
      exact ⟨_, rfl, HO6.out, HB6.out⟩
end Go.Proofs.YteigldfdaciopaaGreatDoor

namespace Go.Proofs.YteigldfdaciopaaGreatDoor
open Go.RowKit
set_option linter.unusedVariables false
set_option linter.unusedSimpArgs false

/-- What a key expands to. -/
def expS (K : List UInt8) (s : ByteArray) (ns : List Int) : List UInt8 := tagS tagDerive (K ++ purpS s ns)
theorem expS_len (K : List UInt8) (s : ByteArray) (ns : List Int) : (expS K s ns).length = 32 := tagS_len _ _
/-- What a label and two keys are mixed to. -/
def mixS (s : ByteArray) (a b : List UInt8) : List UInt8 := tagS tagMix (sha s.data.toList ++ a ++ b)
theorem mixS_len (s : ByteArray) (a b : List UInt8) : (mixS s a b).length = 32 := tagS_len _ _

theorem BB.rdx {w : World} {R g : Nat} {T : TypeId} {l : List UInt8} (h : BB w g T l) (hne : g ≠ R) (hl : l.length ≤ maxLen) : RdX R w (some ⟨g, 0, none⟩) l :=
  ⟨hl, .inr ⟨g, 0, rfl, h.lt, hne, fun j hj => by rw [Nat.zero_add]; exact h.cell j hj⟩⟩
theorem OwnB.rdx {B R : Nat} {w : World} {a : Option Addr} {n cap : Nat} {l : List UInt8} (h : OwnB B w (.slice a n cap) l) (hR : R < B) : RdX R w a l := by
  obtain ⟨a', cap', e, hc, hr⟩ := h.form
  cases e
  refine ⟨hr.1, hr.2.imp_right ?_⟩
  rintro ⟨b, o, rfl, hb, hcell⟩
  rcases hc with ⟨e, _⟩ | ⟨g, e, hg, _⟩
  · cases e
  · cases e
    exact ⟨b, 0, rfl, hb, by omega, hcell⟩
theorem len32 {K : List UInt8} (h : K.length = 32) : K.length ≤ maxLen := by rw [h]; unfold maxLen; omega

/-- A key, a result and a source: the three blocks. -/
structure E3 (w : World) (tag : ByteArray) (K m : List UInt8) (w' : World) : Prop where
  below : Below w.heap.size w w'
  key : BB w' w.heap.size 23 K
  out : BB w' (w.heap.size + 1) 23 (List.replicate 32 0)
  src : Src (w.heap.size + 2) w' (w.heap.size + 2) tag m
  size : w.heap.size + 3 ≤ w'.heap.size
theorem E3.start (w : World) (tag : ByteArray) (K : List UInt8) : E3 w tag K [] (((w.alloc (.cells (bvA K) 23)).alloc (.cells (bvA (List.replicate 32 0)) 23)).alloc (.cells #[.string tag, .slice none 0 0, .int .i64 0, .int .i8 0] 77)) := by
  refine ⟨(((Below.refl _ _).alloc (Nat.le_refl _) _).alloc (by simp) _).alloc (by simp; omega) _, ((BB.new w _ _).alloc _).alloc _, BB.alloc ?_ _, Src.new' tag _ (by simp) (by simp), by simp⟩
  exact heap_alloc2_new w _ _
theorem E3.write {w w' w'' : World} {tag : ByteArray} {K m m' : List UInt8} (h : E3 w tag K m w') (hb : Below (w.heap.size + 2) w' w'') (hs : Src (w.heap.size + 2) w'' (w.heap.size + 2) tag m') : E3 w tag K m' w'' :=
  ⟨h.below.trans (hb.mono (by omega)), h.key.below hb (by omega), h.out.below hb (by omega), hs, Nat.le_trans h.size hb.size⟩
theorem E3.call {w w' w'' : World} {tag : ByteArray} {K m : List UInt8} (h : E3 w tag K m w') (hb : Below w'.heap.size w' w'') : E3 w tag K m w'' :=
  ⟨h.below.trans (hb.mono h.below.size), h.key.below hb h.key.lt, h.out.below hb h.out.lt, h.src.call hb, Nat.le_trans h.size hb.size⟩

set_option maxRecDepth 100000 in
set_option maxHeartbeats 1600000 in
theorem Expand_any (K : List UInt8) (hK : K.length = 32) (s : ByteArray) (a : Option Addr) (cap : Nat) (ns : List Int) (w : World) (hT : Tab w) (hs : s.size ≤ 100000) (hr : RdM w.heap.size w a ns) (hl : ns.length ≤ 1000) (hI : ∀ n ∈ ns, I64 n) :
    Calls Tryz.prog 53 #[.agg (bvA K), .string s, .slice a ns.length cap] w fun e w' => e = .returned (.agg (bvA (expS K s ns))) ∧ Below w.heap.size w w' := by
  have HT := Lib.hid hT
  have HK := Lib.hid hK
  have HR := Lib.hid hr
  have HP := Lib.hid (purpS_pos s ns)
  have HPL : Hid ((purpS s ns).length ≤ 200000) := Lib.hid (by have := purpS_len s ns; omega)
  have HEN := Lib.hid (fun W h => encoding_any s a cap ns W hs h hl hI)
  have HL := Lib.hid (expS_len K s ns)
  have HX0 : Hid (expS K s ns = tagS tagDerive (K ++ purpS s ns)) := Lib.hid rfl
  generalize expS K s ns = X at *
  obtain ⟨P, hP⟩ : ∃ P, purpS s ns = P := ⟨_, rfl⟩
  rw [hP] at HP HPL HX0
  have HPE := Lib.hid hP
  clear hT hK hr hI hP
  go_enter Tryz.func53, Tryz.ntmps53
  go_wp2_with fail
  have HE1 := Lib.hid (E3.start w ⟨#[100, 101, 114, 105, 118, 101]⟩ K)
  obtain ⟨w1, hw1⟩ : ∃ w1, w1 = ((w.alloc (.cells (bvA K) 23)).alloc (.cells (bvA (List.replicate 32 0)) 23)).alloc (.cells #[.string ⟨#[100, 101, 114, 105, 118, 101]⟩, .slice none 0 0, .int .i64 0, .int .i8 0] 77) := ⟨_, rfl⟩
  change Calls _ _ _ (((w.alloc (.cells (bvA K) 23)).alloc (.cells (bvA (List.replicate 32 0)) 23)).alloc (.cells #[.string ⟨#[100, 101, 114, 105, 118, 101]⟩, .slice none 0 0, .int .i64 0, .int .i8 0] 77)) _
  rw [← hw1] at HE1 ⊢
  clear hw1
  have hk := src_write (some ⟨w.heap.size, 0, none⟩) 32 K HE1.out.src (by have := HE1.out.size; omega) (HE1.out.key.rdx (by omega) (len32 HK.out)) (by rw [HK.out]; omega) (by rw [HK.out]; simp)
  rw [HK.out, List.nil_append] at hk
  refine hk.mono ?_
  rintro e w2 ⟨rfl, hs2, hb2⟩
  have HE2 := Lib.hid (HE1.out.write hb2 hs2)
  clear hk hs2 hb2 HE1
  go_wp2_with (go_at_call 80; refine (HEN.out w2 ((HR.out.below HE2.out.below).mono HE2.out.below.size)).mono ?_; rintro e w3 ⟨v3, rfl, ho3, hb3⟩)
  rw [HPE.out] at ho3
  have HE3 := Lib.hid (HE2.out.call hb3)
  have HO3 := Lib.hid ho3
  obtain ⟨a3, cap3, rfl, _, _⟩ := ho3.form
  have hk := src_write a3 cap3 P HE3.out.src (by have := HE3.out.size; omega) (HO3.out.rdx (by have := HE2.out.size; omega)) HP.out (by rw [HK.out]; have := HPL.out; omega)
  have HKW := Lib.hid hk
  clear hk hb3 ho3 HE2
  have HSUM : Hid ((K ++ P).length ≤ 1000000) := Lib.hid (by rw [List.length_append, HK.out]; have := HPL.out; omega)
  generalize P.length = pl at *
  go_wp2_with (go_at_call 79; refine HKW.out.mono ?_; rintro e w4 ⟨rfl, hs4, hb4⟩)
  have HE4 := Lib.hid (HE3.out.write hb4 hs4)
  clear hs4 hb4 HE3 HKW HO3
  have hky := key_any HE4.out.src (HT.out.below HE4.out.below HT.out.lt) (by decide) HSUM.out
  rw [show tagS (ByteArray.mk #[100, 101, 114, 105, 118, 101]).data.toList (K ++ P) = X from HX0.out.symm] at hky
  have HKY := Lib.hid hky
  clear hky
  go_wp2_with (go_at_call 81; refine HKY.out.mono ?_; rintro e w5 ⟨rfl, hb5⟩; refine Hid.out ?_)
  refine Lib.hid ?_
  have HD5 := Lib.hid (HE4.out.out.below hb5 HE4.out.out.lt)
  have HB5 := Lib.hid (HE4.out.below.trans (hb5.mono HE4.out.below.size))
  clear hb5 HE4 HKY
  go_wp2_with (refine wpList_storeA rfl 23 (.tmp 6) (.tmp 17) rfl (w.heap.size + 1) (bvA X) rfl rfl 23 _ HD5.out (key_sz _ HL.out) (key_old _ HL.out) (bvA_one _) ?_)
  intro w9 h9 hg9
  have hB9 := grown_below HB5.out hg9 (Nat.le_succ _) HB5.out.size
  go_wp2_with fail
  refine bodyPost_ret (v := .agg (bvA X)) ?_ rfl ⟨rfl, hB9⟩
  exact results_cell_row rfl _ _ (w.heap.size + 1) 23 _ (0, 0) _ rfl h9 key_und rfl (key_sz _ HL.out)

/-- Two keys and a result. -/
structure M3 (w : World) (A B : List UInt8) (w' : World) : Prop where
  below : Below w.heap.size w w'
  ka : BB w' w.heap.size 23 A
  kb : BB w' (w.heap.size + 1) 23 B
  out : BB w' (w.heap.size + 2) 23 (List.replicate 32 0)
theorem M3.start (w : World) (A B : List UInt8) : M3 w A B (((w.alloc (.cells (bvA A) 23)).alloc (.cells (bvA B) 23)).alloc (.cells (bvA (List.replicate 32 0)) 23)) := by
  refine ⟨(((Below.refl _ _).alloc (Nat.le_refl _) _).alloc (by simp) _).alloc (by simp; omega) _, ((BB.new w _ _).alloc _).alloc _, BB.alloc ?_ _, ?_⟩
  · exact heap_alloc2_new w _ _
  · have := BB.new ((w.alloc (.cells (bvA A) 23)).alloc (.cells (bvA B) 23)) 23 (List.replicate 32 0)
    simpa using this
theorem M3.call {w w' w'' : World} {A B : List UInt8} (h : M3 w A B w') {N : Nat} (hb : Below N w' w'') (hN : w.heap.size + 3 ≤ N) : M3 w A B w'' :=
  ⟨h.below.trans (hb.mono (by omega)), h.ka.below hb (by omega), h.kb.below hb (by omega), h.out.below hb (by omega)⟩
theorem M3.size {w w' : World} {A B : List UInt8} (h : M3 w A B w') : w.heap.size + 3 ≤ w'.heap.size := by have := h.out.lt; omega
/-- And a digest and a source. -/
structure M4 (w : World) (A B D : List UInt8) (g b : Nat) (tag : ByteArray) (m : List UInt8) (w' : World) : Prop where
  m3 : M3 w A B w'
  dig : BB w' g 69 D
  src : Src b w' b tag m
theorem M4.write {w w' w'' : World} {A B D m m' : List UInt8} {g b : Nat} {tag : ByteArray} (h : M4 w A B D g b tag m w') (hg : w.heap.size + 3 ≤ g ∧ g < b) (hb : Below b w' w'') (hs : Src b w'' b tag m') : M4 w A B D g b tag m' w'' :=
  ⟨h.m3.call hb (by omega), h.dig.below hb hg.2, hs⟩
theorem dig_sz (m : List UInt8) (h : m.length = 32) : (Tryz.prog.info? 69).map (·.size) = some (bvA m).size := by rw [bvA_size, h]; kernel_rfl

end Go.Proofs.YteigldfdaciopaaGreatDoor

namespace Go.Proofs.YteigldfdaciopaaGreatDoor
open Go.RowKit Go.Shelf
set_option linter.unusedVariables false
set_option linter.unusedSimpArgs false
attribute [local go_sem] Oper.semAt_some

theorem below_put {D k : Nat} {W : World} {o o' : Obj} (h : D ≤ k) (hk : W.heap[k]? = some o') : Below D W (W.putObj k o) :=
  ⟨rfl, rfl, rfl, by have := (grownBy_putObj' W k o).size; exact this, fun j hj => World.putObj_heap_other (by omega)⟩

/-- What a function that is ranged over does, where its own blocks lie from Z on: it yields the list ys; what the rounds keep lies below Z; a round leaves the blocks from Z on as they are. C: what the rounds keep and the function reads. -/
def SeqOwn {α : Type} (F : Fence) (n : Nat) (P : Program) (g : Nat) (lb : Array Value) (encs : α → Array Value) (Gd : α → Prop) (C : World → Prop) (ys : List α) : Prop :=
  ∀ (l Z : Nat) (J : List α → World → Prop),
    (∀ pre W W', J pre W → Below Z W W' → J pre W') →
    (∀ pre W, J pre W → C W) →
    (∀ pre x W, J pre W → Gd x → Z ≤ W.heap.size → YieldAt F (n - 1) P l (encs x) W fun e W' => e = .returned (.bool true) ∧ J (pre ++ [x]) W' ∧ (∀ k, Z ≤ k → k < W.heap.size → W'.heap[k]? = W.heap[k]?) ∧ W.heap.size ≤ W'.heap.size) →
    ∀ W, W.heap.size = Z → J [] W →
    CallsIn F n P g (#[.func (.yield l) #[] #[]] ++ lb) W fun e W' => (∃ v, e = .returned v) ∧ J ys W'

/-- The loop over such a function, whose body always goes on; the loop's variable is a new block for each round. -/
theorem range_own {F : Fence} {n : Nat} {P : Program} {α : Type} {g : Operand} {ps : Array Tmp} {assign body : Code} {Q : Exit → Act → World → Prop} {a : Act} {w : World}
    (hro : F.round = none) (h1 : 1 ≤ n) {gf : Nat} {lb : Array Value} (hg : a.eval g = .func (.func gf) #[] lb) (hF : F.fn gf) (eg : ∀ args w, (callFunc gf args).run P w = .ok (.enter gf args) w)
    {encs : α → Array Value} {Gd : α → Prop} {C : World → Prop} {ys : List α} (hs : SeqOwn F (n - 1) P gf lb encs Gd C ys) (hps : ∀ x, (encs x).size = ps.size)
    (I : List α → World → Prop) (hI : ∀ pre W W', I pre W → Below w.heap.size W W' → I pre W') (hIC : ∀ pre W, I pre W → C W) (h0 : I [] w)
    (R : α → Nat → Act → World → Prop) (hR : ∀ x g a' W W', R x g a' W → W'.heap[g]? = W.heap[g]? → R x g a' W')
    (hassign : ∀ (l : Nat) (x : α) (W : World) (K : Act → World → Prop), Gd x → (∀ a' W', Below W.heap.size W W' → W.heap.size < W'.heap.size → R x W.heap.size a' W' → K a' W') →
      assign.wpIn (F.inRound l) (n - 1 - 1) P (Exit.then K (fun _ _ _ => False)) { tmps := (ps.zip (encs x)).foldl (fun t (p, v) => t.setIfInBounds p v) a.tmps, defers := [] } W)
    (hbody : ∀ (l : Nat) (pre : List α) (x : α) (g : Nat) (a' : Act) (W : World), I pre W → Gd x → w.heap.size ≤ g → g < W.heap.size → R x g a' W →
      body.wpIn (F.inRound l) (n - 1 - 1) P (Exit.then (fun _ W' => (∀ k, w.heap.size ≤ k → k < W.heap.size → W'.heap[k]? = W.heap[k]?) ∧ W.heap.size ≤ W'.heap.size ∧ I (pre ++ [x]) W') (fun _ _ _ => False)) a' W)
    (hdone : ∀ (D : Nat) (W : World), w.heap.size ≤ D → I ys W → W.heap[D]? = some (.deferred (some [])) → Q .normal { a with defers := { target := .collected D, args := #[] } :: a.defers } W) :
    (Code.rangeFunc g ps assign body).wpIn F n P Q a w := by
  refine wpIn_rangeFunc fun fn hfn => ?_
  rw [hro]
  obtain ⟨R0, hR0⟩ : ∃ R : LoopState → Loop, ∀ s, R s = { state := s, pending := none, fn, tmps := a.tmps, params := ps, assign, body, defers := w.heap.size } := ⟨fun s => { state := s, pending := none, fn, tmps := a.tmps, params := ps, assign, body, defers := w.heap.size }, fun _ => rfl⟩
  obtain ⟨D, hD⟩ : ∃ D, w.heap.size = D := ⟨_, rfl⟩
  obtain ⟨W1, hW1⟩ : ∃ W1, (w.alloc (.deferred (some []))).alloc (.loop (R0 .ready)) = W1 := ⟨_, rfl⟩
  have hz1 : W1.heap.size = D + 2 := by rw [← hW1, World.size_alloc, World.size_alloc, hD]
  have hl : W1.heap[D + 1]? = some (.loop (R0 .ready)) := by
    rw [← hW1, ← hD]
    have h := World.alloc_heap_new (w.alloc (.deferred (some []))) (.loop (R0 .ready))
    rwa [World.size_alloc] at h
  have hd : W1.heap[D]? = some (.deferred (some [])) := by
    rw [← hW1, ← hD]
    exact (Below.heap_alloc _ _ _ (by simp)).trans (World.alloc_heap_new w _)
  have hi1 : I [] W1 := by rw [← hW1]; exact hI _ _ _ h0 (((Below.refl _ _).alloc (Nat.le_refl _) _).alloc (by simp) _)
  rw [hD] at hI hbody
  -- What the rounds keep.
  obtain ⟨J, hJ⟩ : ∃ J : List α → World → Prop, ∀ pre W, J pre W ↔ (I pre W ∧ W.heap[D + 1]? = some (.loop (R0 .ready)) ∧ W.heap[D]? = some (.deferred (some []))) := ⟨_, fun _ _ => Iff.rfl⟩
  refine ⟨D + 1, [{ target := .collected D, args := #[] }], W1, { target := .fn (.func gf) lb, args := #[.func (.yield (D + 1)) #[] #[]] }, W1, gf, #[.func (.yield (D + 1)) #[] #[]] ++ lb, W1, ?_, ?_, ?_, ?_, fun _ => h1, ?_⟩
  · rw [← hW1, hR0, ← hD]; exact run_enterLoop_outer _ _ _ _ _
  · simp only [resolve, hg]
    simp [go_sem]
  · intro f' hf
    simp [Target.leads] at hf
    subst hf
    exact hF
  · simp [invoke, go_sem, eg]
  · refine (hs (D + 1) (D + 2) J (fun pre W W' h hb => ?_) (fun pre W h => hIC _ _ ((hJ _ _).1 h).1) (fun pre x W h hx hz => ?_) W1 hz1 ((hJ _ _).2 ⟨hi1, hl, hd⟩)).mono ?_
    · obtain ⟨h2, h3, h4⟩ := (hJ _ _).1 h
      exact (hJ _ _).2 ⟨hI _ _ _ h2 (hb.mono (by omega)), (hb.block _ (by omega)).trans h3, (hb.block _ (by omega)).trans h4⟩
    · obtain ⟨h2, h3, h4⟩ := (hJ _ _).1 h
      have hy := run_yield (P := P) (args := encs x) h3 (by rw [hR0]; exact hps x)
      rw [hR0] at hy
      refine ⟨fn, _, assign, body, hy, roundIn_of_wpIn hfn (hassign _ x W _ hx fun a' Wa hba hza hra => ?_)⟩
      have h3a : Wa.heap[D + 1]? = some (.loop (R0 .ready)) := (hba.block _ (by omega)).trans h3
      have h4a : Wa.heap[D]? = some (.deferred (some [])) := (hba.block _ (by omega)).trans h4
      have h2a : I pre Wa := hI _ _ _ h2 (hba.mono (by omega))
      refine ⟨_, run_beginRound h3a (by rw [hR0]), ?_⟩
      obtain ⟨W2, hW2⟩ : ∃ W2, Wa.putObj (D + 1) (.loop (R0 .busy)) = W2 := ⟨_, rfl⟩
      have e2 : Wa.putObj (D + 1) (.loop { R0 .ready with state := .busy }) = W2 := by rw [← hW2, hR0, hR0]
      rw [e2]
      have hlta := (Array.getElem?_eq_some_iff.1 h3a).1
      have hb2 : Below (D + 1) Wa W2 := by rw [← hW2]; exact below_put (Nat.le_refl _) h3a
      have h5 : W2.heap[D + 1]? = some (.loop (R0 .busy)) := by rw [← hW2]; exact World.putObj_heap_same hlta
      have h6 : W2.heap[D]? = some (.deferred (some [])) := (hb2.block _ (by omega)).trans h4a
      have h7 : I pre W2 := hI _ _ _ h2a (hb2.mono (by omega))
      have hoth : ∀ k, k ≠ D + 1 → W2.heap[k]? = Wa.heap[k]? := fun k hk => by rw [← hW2]; exact World.putObj_heap_other hk
      refine wpIn_mono (hbody _ pre x W.heap.size a' W2 h7 hx (by omega) (Nat.lt_of_lt_of_le hza hb2.size) (hR _ _ _ _ _ hra (hoth _ (by omega)))) ?_
      rintro e a3 W3 hp
      cases e with
      | normal =>
        obtain ⟨hk, hz3, hi⟩ := hp
        have h8 := (hk (D + 1) (by omega) (by have := hb2.size; omega)).trans h5
        have h9 := (hk D (by omega) (by have := hb2.size; omega)).trans h6
        have hlt3 := (Array.getElem?_eq_some_iff.1 h8).1
        have hpb : ∀ o, Below (D + 1) W3 (W3.putObj (D + 1) o) := fun o => below_put (Nat.le_refl _) h8
        refine ⟨_, _, run_endRound none h8, rfl, (hJ _ _).2 ⟨hI _ _ _ hi ((hpb _).mono (by omega)), ?_, ((hpb _).block _ (by omega)).trans h9⟩, fun k hk1 hk2 => ?_, ?_⟩
        · rw [World.putObj_heap_same hlt3, hR0, hR0]; rfl
        · exact (World.putObj_heap_other (by omega)).trans ((hk k (by omega) (by have := hb2.size; omega)).trans ((hoth k (by omega)).trans (hba.block k hk2)))
        · exact Nat.le_trans (Nat.le_of_lt hza) (Nat.le_trans hb2.size (Nat.le_trans hz3 (hpb _).size))
      | ret => exact hp.elim
      | exit id => exact hp.elim
      | goto t => exact hp.elim
      | panic ch => exact hp.elim
      | outgrown => exact hp.elim
    · rintro e W2 ⟨⟨v, rfl⟩, hj⟩
      obtain ⟨h2, h3, h4⟩ := (hJ _ _).1 hj
      have h5 := run_endLoop (P := P) h3 (by rw [hR0]; simp)
      rw [show (R0 .ready).pending = none from by rw [hR0]] at h5
      have hpb : ∀ o, Below (D + 1) W2 (W2.putObj (D + 1) o) := fun o => below_put (Nat.le_refl _) h3
      exact ⟨none, _, h5, hdone D _ (by omega) (hI _ _ _ h2 ((hpb _).mono (by omega))) (((hpb _).block _ (by omega)).trans h4)⟩
end Go.Proofs.YteigldfdaciopaaGreatDoor

namespace Go.Proofs.YteigldfdaciopaaGreatDoor
open Go.RowKit Go.Shelf
set_option linter.unusedVariables false
set_option linter.unusedSimpArgs false
attribute [local go_sem] Oper.semAt_some

theorem wpListIn_load_row {F : Fence} {n : Nat} {P : Program} {ops : Array Oper} {rest : List Oper} {o : Oper} {a : Act} {w : World} {Q : Exit → Act → World → Prop} (hgd : o.guard = none) (ty : TypeId) (x : Operand) (ho : o.op = .load ty x)
    (g : Nat) (hx : a.eval x = .pointer (some ⟨g, 0, none⟩)) (t : TypeId) (cs : Array Value) (fr : Nat × Nat) (d : TypeDesc) (hg : w.heap[g]? = some (.cells cs t fr))
    (hu : P.underlying ty = some d) (hd : (match d with | .struct _ | .array _ _ => true | _ => false) = true) (hi : (P.info? ty).map (·.size) = some cs.size)
    (h : wpListIn F n P ops Q rest (a.put o.dst (.agg cs)) w) : wpListIn F n P ops Q (o :: rest) a w := by
  refine wpListIn_plain hgd fun K hK' => ?_
  unfold Oper.wpIn
  refine ⟨?_, ?_⟩
  · simp [Oper.about, ho]
  · rw [Oper.semAt_plain F _ _ (by rw [ho]; intro c hc'; cases hc')]
    unfold execOp
    simp only [ho, hx, Instr.loadAt, Instr.sureAddr, Sem.run_bind, Sem.run_pure, Result.andThen_ok, run_loadVar_row w g t ty cs fr d hg hu hd hi]
    exact hK' _ _ h
theorem wpListIn_storeA {F : Fence} {n : Nat} {P : Program} {w : World} {ops : Array Oper} {rest : List Oper} {o : Oper} {a : Act} {Q : Exit → Act → World → Prop} (hgd : o.guard = none) (ty : TypeId) (x y : Operand) (ho : o.op = .store ty x y)
    (g : Nat) (cells : Array Value) (hx : a.eval x = .pointer (some ⟨g, 0, none⟩)) (hy : a.eval y = .agg cells)
    (t : TypeId) (old : Array Value) (hg : w.heap[g]? = some (.cells old t (0, 0))) (hi : (P.info? ty).map (·.size) = some cells.size)
    (hold : old.size = cells.size) (h1 : cells.all (·.oneCell') = true)
    (h : ∀ w', w'.heap[g]? = some (.cells cells t (0, 0)) → w.grownBy w' (some g) → wpListIn F n P ops Q rest (a.put o.dst undef) w') : wpListIn F n P ops Q (o :: rest) a w := by
  refine wpListIn_plain hgd fun K hK' => ?_
  unfold Oper.wpIn
  refine ⟨?_, ?_⟩
  · simp [Oper.about, ho]
  · rw [Oper.semAt_plain F _ _ (by rw [ho]; intro c hc'; cases hc')]
    unfold execOp
    simp only [ho, hx, hy, Instr.storeAt, Instr.sureAddr, Sem.run_bind, Sem.run_pure, Result.andThen_ok, run_storeVar_row w g t ty old cells hg hi hold h1]
    exact hK' _ _ (h _ (setRow_heap w g _ _ t _ hg) ⟨rfl, rfl, rfl, by simp [World.setRow], fun k hk hn => setRow_other w g k _ (fun e => hn (by rw [e]))⟩)

/-- The key after some steps. -/
def stepS (K : List UInt8) : Nat → List UInt8
  | 0 => K
  | n + 1 => expS (stepS K n) lblStep []
theorem stepS_len {K : List UInt8} (h : K.length = 32) : ∀ n, (stepS K n).length = 32
  | 0 => h
  | n + 1 => expS_len _ _ _
theorem stepS_add (K : List UInt8) (m : Nat) : ∀ n, stepS (stepS K m) n = stepS K (m + n)
  | 0 => rfl
  | n + 1 => by
    show expS (stepS (stepS K m) n) lblStep [] = expS (stepS K (m + n)) lblStep []
    rw [stepS_add K m n]
/-- The keys behind it, one after the other. -/
def stepL (K : List UInt8) (n : Nat) : List (List UInt8) := (List.range n).map fun i => stepS K (i + 1)
theorem stepL_succ (K : List UInt8) (n : Nat) : stepL K (n + 1) = stepL K n ++ [stepS K (n + 1)] := by simp [stepL, List.range_succ]

/-- What the function reads: the boxes of the key and the number, and the tables. -/
structure AfC (Bk Bn n : Nat) (K : List UInt8) (W : World) : Prop where
  key : BB W Bk 23 K
  num : Boxed W Bn 3 (.int .i64 n)
  tab : Tab W

end Go.Proofs.YteigldfdaciopaaGreatDoor

namespace Go.Proofs.YteigldfdaciopaaGreatDoor
open Go.RowKit Go.Shelf
set_option linter.unusedVariables false
set_option linter.unusedSimpArgs false
attribute [local go_sem] Oper.semAt_some

theorem last_snoc (K x : List UInt8) (pre : List (List UInt8)) : (pre ++ [x]).getLastD K = x := by simp
theorem last_stepL (K : List UInt8) : ∀ n, (stepL K n).getLastD K = stepS K n
  | 0 => rfl
  | n + 1 => by rw [stepL_succ, last_snoc]
/-- What the rounds of Step keep: the result is the last key that came. -/
structure StpI (w : World) (b n : Nat) (K : List UInt8) (pre : List (List UInt8)) (W : World) : Prop where
  out : BB W (w.heap.size + 1) 23 (pre.getLastD K)
  af : AfC b (b + 1) n K W
  below : Below w.heap.size w W
  len : (pre.getLastD K).length = 32
theorem StpI.keep {w W W' : World} {b n D : Nat} {K : List UInt8} {pre : List (List UInt8)} (h : StpI w b n K pre W) (hb : Below D W W') (h1 : w.heap.size + 2 ≤ b) (h2 : b + 2 ≤ D) (hw : 5 ≤ w.heap.size) : StpI w b n K pre W' := by
  have ht := h.af.tab.lt
  have hz := h.below.size
  refine ⟨h.out.below hb (by omega), ⟨h.af.key.below hb (by omega), (hb.block _ (by omega)).trans h.af.num, ?_⟩, h.below.trans (hb.mono (by omega)), h.len⟩
  exact h.af.tab.of fun k hk => hb.block k (Nat.lt_of_lt_of_le hk (by omega))
def zeroKey : List UInt8 := List.replicate 32 0
end Go.Proofs.YteigldfdaciopaaGreatDoor

namespace Go.Proofs.YteigldfdaciopaaGreatDoor
open Go.RowKit
set_option linter.unusedVariables false
set_option linter.unusedSimpArgs false

/-- The private key of a key and a label. -/
def scS (K : List UInt8) (s : ByteArray) : Nat := scalS (tagS tagScalar (expS K s []))
theorem scS_bd (K : List UInt8) (s : ByteArray) : 1 ≤ scS K s ∧ scS K s < 2305843009213688669 := scalS_bd _
set_option maxRecDepth 100000 in
set_option maxHeartbeats 1600000 in
theorem DScalar_any (K : List UInt8) (hK : K.length = 32) (s : ByteArray) (w : World) (hT : Tab w) (hs : s.size ≤ 100000) :
    Calls Tryz.prog 25 #[.agg (bvA K), .string s] w fun e w' => e = .returned (.int .i64 (scS K s : Nat)) ∧ Below w.heap.size w w' := by
  have HT := Lib.hid hT
  have HK := Lib.hid hK
  have HEX := Lib.hid (fun W hW => Expand_any K hK s none 0 [] W hW hs (RdM.nil _ _ _) (by decide) (fun _ h => by cases h))
  obtain ⟨x, hx⟩ : ∃ x, scS K s = x := ⟨_, rfl⟩
  have HX : Hid (scalS (tagS tagScalar (expS K s [])) = x) := Lib.hid hx
  have HEL := Lib.hid (expS_len K s [])
  obtain ⟨E, hE⟩ : ∃ E, expS K s [] = E := ⟨_, rfl⟩
  rw [hE] at HEX HEL HX
  rw [hx]
  have hA1 : BB (w.alloc (.cells (bvA K) 23)) w.heap.size 23 K := BB.new w _ _
  have hB1 : Below w.heap.size w (w.alloc (.cells (bvA K) 23)) := (Below.refl _ _).alloc (Nat.le_refl _) _
  clear hT hK hE hx
  have HA1 := Lib.hid hA1
  have HB1 := Lib.hid hB1
  clear hA1 hB1
  go_enter Tryz.func25, Tryz.ntmps25
  go_wp2_with (first
    | (refine wpList_load_row rfl 23 (.tmp 2) rfl w.heap.size rfl _ (bvA K) (0, 0) _ HA1.out Tryz.underlying23 rfl (key_sz _ HK.out) ?_)
    | (go_at_call 53; refine (HEX.out _ (HT.out.below HB1.out HT.out.lt)).mono ?_; rintro e w2 ⟨rfl, hb2⟩; refine Hid.out ?_))
  refine Lib.hid ?_
  have HB2 := Lib.hid (HB1.out.trans (hb2.mono HB1.out.size))
  clear hb2 HA1 HB1
  go_wp2_with (refine wpList_storeA rfl 23 (.tmp 5) (.tmp 8) rfl w2.heap.size (bvA E) rfl rfl 23 _ (BB.new w2 _ (List.replicate 32 0)) (key_sz _ HEL.out) (key_old _ HEL.out) (bvA_one _) ?_)
  intro w3 h3 hg3
  have HA3 : Hid (BB w3 w2.heap.size 23 E) := Lib.hid h3
  have hb3 : Below w2.heap.size w2 w3 := grown_below ((Below.refl _ _).alloc (Nat.le_refl _) _) hg3 (Nat.le_refl _) (by simp)
  have HB3 := Lib.hid (HB2.out.trans (hb3.mono HB2.out.size))
  clear h3 hg3 hb3 HB2
  have hc := gScalar ⟨#[115, 99, 97, 108, 97, 114]⟩ (some ⟨w2.heap.size, 0, none⟩) 32 E w3 (HT.out.below HB3.out HT.out.lt) (HA3.out.rdBm HEL.out) (by rw [HEL.out]; omega) (by unfold maxLen; omega) (by decide) (by rw [HEL.out]; omega)
  rw [HEL.out, show scalS (tagS (ByteArray.mk #[115, 99, 97, 108, 97, 114]).data.toList E) = x from HX.out] at hc
  have HC := Lib.hid hc
  clear hc HA3
  generalize w2.heap.size = g at *
  go_wp2_with (go_at_call 54; refine HC.out.mono ?_; rintro e w4 ⟨rfl, hb4⟩)
  go_ret
  exact ⟨rfl, HB3.out.trans (hb4.mono HB3.out.size)⟩

/-! ### The reference -/
set_option maxRecDepth 100000 in
set_option maxHeartbeats 1600000 in
theorem purpose_any (s : ByteArray) (a : Option Addr) (cap : Nat) (ns : List Int) (w : World) (hs : s.size ≤ 100000) (hr : RdM w.heap.size w a ns) (hl : ns.length ≤ 1000) (hI : ∀ n ∈ ns, I64 n) :
    Calls Tryz.prog 85 #[.string s, .slice a ns.length cap] w fun e w' => ∃ v, e = .returned v ∧ OwnB w.heap.size w' v (purpS s ns) ∧ Below w.heap.size w w' := by
  have HR := Lib.hid hr
  have HI := Lib.hid hI
  have HS : Hid (s.size ≤ maxLen) := Lib.hid (by unfold maxLen; omega)
  have HTK := Lib.hid (kidsS_take s ns)
  have HTN : Hid (kidsS s (ns.take ns.length) = kidsS s ns) := Lib.hid (by rw [List.take_length])
  have HEN := Lib.hid (fun (a : Option Addr) (cap : Nat) (W : World) (h : RepS W.heap.size W a cap (kidsS s ns)) => refTop_ok W.heap.size 3 0 ByteArray.empty a cap (kidsS s ns) W (by rw [kidsS_sz]; omega) (by have := kidsS_vsize s ns; omega) ⟨by omega, by omega⟩ ⟨by omega, by omega⟩ empty_le2 h (Nat.le_refl _) (kidsS_chk s ns))
  clear hr hI
  obtain ⟨q, hq⟩ : ∃ q, ns.length = q := ⟨_, rfl⟩
  rw [hq] at hl HTN ⊢
  have HQ := Lib.hid hq
  clear hq
  have i1 : (q : Int) ≤ 1000 := by omega
  have HO1 : Hid (OV w.heap.size (w.alloc (.cells #[.int .i64 2, .int .i64 0, .string s, .slice none 0 0] 100)) (.slice (some ⟨w.heap.size, 0, none⟩) 1 1) (kidsS s (ns.take 0))) := Lib.hid (OV.one s HS.out (Nat.le_refl _))
  have HB1 : Hid (Below w.heap.size w (w.alloc (.cells #[.int .i64 2, .int .i64 0, .string s, .slice none 0 0] 100))) := Lib.hid ((Below.refl _ _).alloc (Nat.le_refl _) _)
  go_enter Tryz.func85, Tryz.ntmps85
  go_wp2_with fail
  go_loopw [5, 6] (fun v i wr => ∃ k : Nat, k ≤ q ∧ i = .int .i64 k ∧ OV w.heap.size wr v (kidsS s (ns.take k)) ∧ Below w.heap.size w wr) (fun _ i _ => q - (intOf i).toNat)
  case atStart => exact ⟨0, by omega, rfl, HO1.out, HB1.out⟩
  case round =>
    clear HO1 HB1
    obtain ⟨k, hk, rfl, ho, hb⟩ := hrel
    have HO := Lib.hid ho
    have HB := Lib.hid hb
    clear ho hb
    by_cases hlt : k < q
    · have hkl : k < ns.length := by rw [HQ.out]; exact hlt
      obtain ⟨b, o, rfl, hbB, hc⟩ := HR.out.at_ (by omega)
      have ck := (HB.out.cell (p := ⟨b, o + k, none⟩) hbB).trans (hc k hkl)
      have HX := Lib.hid (HTK.out k hkl)
      have HIk := Lib.hid (HI.out _ (List.getElem_mem hkl))
      have HLk : Hid ((kidsS s (ns.take k)).len + 1 ≤ 2000000000000) := Lib.hid (by rw [kidsS_len, List.length_take]; omega)
      generalize ns[k] = nk at *
      clear hc
      go_wp2_with ((with_reducible show wpList _ _ _ (({ dst := some 25, op := _, type := _, pos := _, after := _, guard := _ } : Oper) :: _) _ _); go_must (refine wpList_appP rfl (.tmp 18) (.tmp 24) rfl w.heap.size _ (kidsS s (ns.take k)) 1 nk ByteArray.empty _ rfl HO.out _ rfl (by simp) rfl ⟨by omega, by omega⟩ HIk.out empty_le2 HLk.out HB.out.size ?_))
      intro v4 w4 ho4 hb4
      rw [HX.out] at ho4
      have HO4 := Lib.hid ho4
      have HB4 := Lib.hid (HB.out.trans hb4)
      clear ho4 hb4 HO HB ck
      go_wp2_with fail
      go_roundw
      case rel => exact ⟨k + 1, by omega, by go_num, HO4.out, HB4.out⟩
      case measure => simp [intOf]; omega
    · obtain rfl : k = q := by omega
      rw [HTN.out] at HO
      obtain ⟨a5, cap5, rfl, hrep⟩ := HO.out.rep
      have HRP := Lib.hid hrep
      clear hrep hlt
      go_wp2_with (go_at_call 101; refine (HEN.out a5 cap5 _ HRP.out).mono ?_; rintro e w6 ⟨v6, rfl, ho6, hb6⟩)
      have HO6 := Lib.hid (ho6.mono HB.out.size)
      have HB6 := Lib.hid (HB.out.trans (hb6.mono HB.out.size))
      clear ho6 hb6 HO HB HRP
      obtain ⟨a7, cap7, rfl, _, _⟩ := HO6.out.form
      go_wp2_with fail
      go_ret
      exact ⟨_, rfl, HO6.out, HB6.out⟩
end Go.Proofs.YteigldfdaciopaaGreatDoor
