/-
  Package derive, plain: a label and numbers as a list of values, its encoding, what a key expands to.
-/
import Derived.Test.YtecojpkefobgpaaGreatDoorPkL
import Derived.Test.YtecojpkefobgpaaGreatDoorPkK
namespace Go.Proofs.YtecojpkefobgpaaGreatDoor
open Go.RowKit
set_option linter.unusedVariables false
set_option linter.unusedSimpArgs false

/-- Numbers as values. -/
def kidsN : List Int → VL
  | [] => .nil
  | n :: r => .cons 1 n ByteArray.empty .nil (kidsN r)
/-- A label and numbers as values. -/
def kidsS (s : ByteArray) (ns : List Int) : VL := .cons 2 0 s .nil (kidsN ns)
/-- The encoding of a label and numbers. -/
def purpS (s : ByteArray) (ns : List Int) : List UInt8 := venc 3 0 ByteArray.empty (kidsS s ns)

theorem kidsN_len : ∀ ns : List Int, (kidsN ns).len = ns.length
  | [] => rfl
  | n :: r => by simp only [kidsN, VL.len, kidsN_len r, List.length_cons]
theorem kidsS_len (s : ByteArray) (ns : List Int) : (kidsS s ns).len = ns.length + 1 := by simp only [kidsS, VL.len, kidsN_len]
theorem kidsN_app : ∀ (ns : List Int) (n : Int), (kidsN ns).app (.cons 1 n ByteArray.empty .nil .nil) = kidsN (ns ++ [n])
  | [], n => rfl
  | m :: r, n => by simp only [kidsN, VL.app, kidsN_app r n, List.cons_append]
theorem kidsS_app (s : ByteArray) (ns : List Int) (n : Int) : (kidsS s ns).app (.cons 1 n ByteArray.empty .nil .nil) = kidsS s (ns ++ [n]) := by
  simp only [kidsS, VL.app, kidsN_app]
theorem kidsS_take (s : ByteArray) (ns : List Int) (k : Nat) (h : k < ns.length) : (kidsS s (ns.take k)).app (.cons 1 ns[k] ByteArray.empty .nil .nil) = kidsS s (ns.take (k + 1)) := by
  rw [kidsS_app, List.take_succ_eq_append_getElem h]
theorem kidsN_sz : ∀ ns : List Int, (kidsN ns).sz = 2 * ns.length + 1
  | [] => rfl
  | n :: r => by simp only [kidsN, VL.sz, kidsN_sz r, List.length_cons]; omega
theorem kidsS_sz (s : ByteArray) (ns : List Int) : (kidsS s ns).sz = 2 * ns.length + 3 := by simp only [kidsS, VL.sz, kidsN_sz]; omega
theorem ba_none : ByteArray.empty.toList.isEmpty = true := by decide +kernel
theorem kidsN_wf : ∀ ns : List Int, (kidsN ns).wf = true
  | [] => rfl
  | n :: r => by
    show (vwf 1 n ByteArray.empty .nil && (kidsN r).wf) = true
    rw [kidsN_wf r]; simp [vwf, VL.isNil, ba_none]
theorem kidsS_wf (s : ByteArray) (ns : List Int) : (kidsS s ns).wf = true := by
  show (vwf 2 0 s .nil && (kidsN ns).wf) = true
  rw [kidsN_wf]; rfl
theorem kidsN_depth : ∀ ns : List Int, (kidsN ns).depth = 0
  | [] => rfl
  | n :: r => by simp [kidsN, VL.depth, kidsN_depth r]
theorem kidsS_depth (s : ByteArray) (ns : List Int) : (kidsS s ns).depth = 0 := by simp [kidsS, VL.depth, kidsN_depth]
theorem kidsS_chk (s : ByteArray) (ns : List Int) : vchk 3 0 ByteArray.empty (kidsS s ns) = 0 := by
  refine vchk_ok ?_ ?_
  · rw [vwf3, kidsS_wf, ba_none]; rfl
  · have : vdepth 3 (kidsS s ns) = 1 + (kidsS s ns).depth := by simp [vdepth]
    rw [this, kidsS_depth]; omega
theorem kidsN_size : ∀ ns : List Int, (kidsN ns).size ≤ 11 * ns.length
  | [] => Nat.zero_le _
  | n :: r => by
    have h1 := kidsN_size r
    have h2 := ndig_le (zig n)
    simp only [kidsN, VL.size, List.length_cons]
    simp only [if_pos]
    omega
theorem kidsS_vsize (s : ByteArray) (ns : List Int) : vsize 3 0 ByteArray.empty (kidsS s ns) ≤ 30 + s.size + 11 * ns.length := by
  have h1 := kidsN_size ns
  have h2 := ndig_le (kidsS s ns).len
  have h3 := ndig_le s.size
  have e : vsize 3 0 ByteArray.empty (kidsS s ns) = 1 + ndig (kidsS s ns).len + (kidsS s ns).size := by simp [vsize]
  have e2 : (kidsS s ns).size = 1 + ndig s.size + s.size + (kidsN ns).size := by simp [kidsS, VL.size]
  rw [e, e2]; omega
theorem purpS_len (s : ByteArray) (ns : List Int) : (purpS s ns).length ≤ 30 + s.size + 11 * ns.length := by
  unfold purpS; rw [venc_length]; exact kidsS_vsize s ns
theorem purpS_pos (s : ByteArray) (ns : List Int) : 0 < (purpS s ns).length := by
  unfold purpS; rw [venc_length]; simp [vsize]; omega

/-! ### It is decoded to the same list -/
theorem dval_num (d : Nat) (n : Int) (hn : I64 n) (r : List UInt8) : dval d (venc 1 n ByteArray.empty .nil ++ r) = some (⟨1, n, ByteArray.empty, .nil⟩, r) := by
  have h1 : venc 1 n ByteArray.empty .nil ++ r = 1 :: (numeral (zig n) ++ r) := rfl
  have h2 := dnum_numeral (zig n) r (zig_le hn)
  have h3 := zag_zig n
  have h4 : (1 : UInt8).toNat = 1 := rfl
  rw [h1]
  cases d <;> simp [dval, h2, h3, h4]
theorem dlist_nums (d : Nat) : ∀ (ns : List Int), (∀ n ∈ ns, I64 n) → ∀ r : List UInt8, dlist (dval d) ns.length ((kidsN ns).enc ++ r) = some (kidsN ns, r)
  | [], _, r => rfl
  | n :: q, h, r => by
    have h1 : (kidsN (n :: q)).enc ++ r = venc 1 n ByteArray.empty .nil ++ ((kidsN q).enc ++ r) := by
      show (venc 1 n ByteArray.empty .nil ++ (kidsN q).enc) ++ r = _
      rw [List.append_assoc]
    have h2 := dval_num d n (h n (List.mem_cons_self)) ((kidsN q).enc ++ r)
    have h3 := dlist_nums d q (fun m hm => h m (List.mem_cons_of_mem _ hm)) r
    rw [h1, List.length_cons]
    simp only [dlist, h2, h3, Option.map_some]
    rfl
theorem dval_text (d : Nat) (s : ByteArray) (hs : s.size ≤ 1000000) (r : List UInt8) : dval d (venc 2 0 s .nil ++ r) = some (⟨2, 0, s, .nil⟩, r) := by
  have h1 : venc 2 0 s .nil ++ r = 2 :: (numeral s.size ++ (s.data.toList ++ r)) := by
    show (2 :: (numeral s.size ++ s.data.toList)) ++ r = _
    rw [List.cons_append, List.append_assoc]
  have h2 := dnum_numeral s.size (s.data.toList ++ r) (by omega)
  have h4 : (2 : UInt8).toNat = 2 := rfl
  have e : s.data.toList.length = s.size := Array.length_toList
  have h5 : (s.data.toList ++ r).take s.size = s.data.toList := by rw [← e, List.take_left]
  have h6 : (s.data.toList ++ r).drop s.size = r := by rw [← e, List.drop_left]
  have h7 : s.size ≤ (s.data.toList ++ r).length := by rw [List.length_append, e]; omega
  have h8 : (⟨s.data.toList.toArray⟩ : ByteArray) = s := by simp
  rw [h1]
  cases d with
  | zero =>
    simp only [dval, h4, h2, Option.bind_some]
    rw [if_pos trivial, if_pos h7, h5, h6, h8]
    exact if_neg (by decide)
  | succ d =>
    simp only [dval, h4, h2, Option.bind_some]
    rw [if_pos trivial, if_pos h7, h5, h6, h8]
    exact if_neg (by decide)
theorem dec_purp (s : ByteArray) (hs : s.size ≤ 1000000) (ns : List Int) (hn : ∀ n ∈ ns, I64 n) (hl : ns.length ≤ 1000000) : dec (purpS s ns) = some ⟨3, 0, ByteArray.empty, kidsS s ns⟩ := by
  have e1 : purpS s ns = 3 :: (numeral (ns.length + 1) ++ (venc 2 0 s .nil ++ (kidsN ns).enc)) := by
    unfold purpS
    rw [venc3 (by decide) (by decide), kidsS_len]
    rw [show (kidsS s ns).enc = venc 2 0 s .nil ++ (kidsN ns).enc from rfl]
    simp
  have h4 : (3 : UInt8).toNat = 3 := rfl
  have h2 := dnum_numeral (ns.length + 1) (venc 2 0 s .nil ++ (kidsN ns).enc) (by omega)
  have h3 := dval_text 15 s hs (kidsN ns).enc
  have h5 := dlist_nums 15 ns hn []
  rw [List.append_nil] at h5
  have h6 : dval 16 (purpS s ns) = some (⟨3, 0, ByteArray.empty, kidsS s ns⟩, []) := by
    rw [e1]
    show (if (3 : UInt8).toNat = 1 then _ else if (3 : UInt8).toNat = 2 then _ else if (3 : UInt8).toNat = 3 then _ else none) = _
    rw [h4, if_neg (by decide), if_neg (by decide), if_pos rfl, h2]
    simp only [Option.bind_some, dlist, h3, h5, Option.map_some]
    rfl
  unfold dec
  rw [h6]

/-! ### What a key expands to -/
def tagDerive : List UInt8 := [100, 101, 114, 105, 118, 101]
def tagMix : List UInt8 := [109, 105, 120]
def tagSeed : List UInt8 := [115, 101, 101, 100]
def tagScalar : List UInt8 := [115, 99, 97, 108, 97, 114]
def lblStep : ByteArray := ⟨#[115, 116, 101, 112]⟩

/-- The cells of a slice of ints. -/
def RdM (B : Nat) (w : World) (a : Option Addr) (l : List Int) : Prop :=
  l.length ≤ maxLen ∧ (l = [] ∨ ∃ b o, a = some ⟨b, o, none⟩ ∧ b < B ∧ ∀ j (h : j < l.length), w.cell? ⟨b, o + j, none⟩ = some (.int .i64 l[j]))
theorem RdM.nil (B : Nat) (w : World) (a : Option Addr) : RdM B w a [] := ⟨Nat.zero_le _, .inl rfl⟩
theorem RdM.below {B : Nat} {w w' : World} {a : Option Addr} {l : List Int} (h : RdM B w a l) (hb : Below B w w') : RdM B w' a l := by
  refine ⟨h.1, h.2.imp_right ?_⟩
  rintro ⟨b, o, e, hB, hc⟩
  exact ⟨b, o, e, hB, fun j hj => (hb.cell (p := ⟨b, o + j, none⟩) hB).trans (hc j hj)⟩
theorem RdM.mono {B B' : Nat} {w : World} {a : Option Addr} {l : List Int} (h : RdM B w a l) (hB : B ≤ B') : RdM B' w a l := by
  refine ⟨h.1, h.2.imp_right ?_⟩
  rintro ⟨b, o, e, hb, hc⟩
  exact ⟨b, o, e, by omega, hc⟩
theorem RdM.at_ {B : Nat} {w : World} {a : Option Addr} {l : List Int} (h : RdM B w a l) (h0 : 0 < l.length) : ∃ b o, a = some ⟨b, o, none⟩ ∧ b < B ∧ ∀ j (h : j < l.length), w.cell? ⟨b, o + j, none⟩ = some (.int .i64 l[j]) := by
  rcases h.2 with e | e
  · rw [e] at h0; cases h0
  · exact e
end Go.Proofs.YtecojpkefobgpaaGreatDoor
