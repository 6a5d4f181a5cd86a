/-
  Package sign: the scalar of a tag, numbers and a message; challenges and nonces.
-/
import Derived.Test.YtgpcbckpfnhhcaaDoorSb
import Derived.Test.YtgpcbckpfnhhcaaDoorPkR
namespace Go.Proofs.YtgpcbckpfnhhcaaDoor
open Go.RowKit
set_option linter.unusedVariables false
set_option linter.unusedSimpArgs false

/-- Block g begins with the numbers ns. -/
def RdN (w : World) (g : Nat) (ns : List Int) : Prop := g < w.heap.size ∧ ∀ j (h : j < ns.length), w.cell? ⟨g, j, none⟩ = some (.int .i64 ns[j])
theorem RdN.below {B : Nat} {w w' : World} {g : Nat} {ns : List Int} (h : RdN w g ns) (hb : Below B w w') (hg : g < B) : RdN w' g ns :=
  ⟨Nat.lt_of_lt_of_le h.1 hb.size, fun j hj => (hb.cell (p := ⟨g, j, none⟩) hg).trans (h.2 j hj)⟩
/-- The bytes of numbers. -/
def catB (ns : List Int) : List UInt8 := (ns.map be8).flatten
theorem catB_len : ∀ ns : List Int, (catB ns).length = 8 * ns.length
  | [] => rfl
  | n :: ns => by
    have h := catB_len ns
    unfold catB at *
    rw [List.map_cons, List.flatten_cons, List.length_append, h, be8_len, List.length_cons]; omega
theorem catB_take (ns : List Int) (k : Nat) (h : k < ns.length) : catB (ns.take (k + 1)) = catB (ns.take k) ++ be8 ns[k] := by
  unfold catB
  rw [List.take_succ_eq_append_getElem h, List.map_append, List.flatten_append]
  simp

set_option maxRecDepth 100000 in
set_option maxHeartbeats 3200000 in
theorem sscalar_any (s : ByteArray) (a : Option Addr) (cap : Nat) (l : List UInt8) (g : Nat) (ns : List Int) (w : World) (hs : s.size ≤ 600) (hT : Tab w) (hl : RdB w.heap.size w a l) (hcap : l.length ≤ cap) (hc2 : cap ≤ maxLen) (hnil : a = none → cap = 0)
    (hn : l.length ≤ 70368744177000) (hns : ns.length ≤ 4) (hN : RdN w g ns) :
    Calls Tryd.prog 57 #[.string s, .slice a l.length cap, .slice (some ⟨g, 0, none⟩) ns.length ns.length] w fun e w' => e = .returned (.int .i64 (scalS (tagS s.data.toList (catB ns ++ l)) : Nat)) ∧ Below w.heap.size w w' := by
  have HT := Lib.hid hT
  have HL := Lib.hid hl
  have HNIL := Lib.hid hnil
  have HC2 := Lib.hid hc2
  have HN := Lib.hid hN
  clear hT hl hnil hN
  have HLL : Hid ((catB ns ++ l).length = 8 * ns.length + l.length) := Lib.hid (by rw [List.length_append, catB_len])
  unfold maxLen at hc2
  have c1 := wrapI (8 * (ns.length : Int)) (by omega) (by omega)
  have c2 := wrapI (8 * (ns.length : Int) + (l.length : Int)) (by omega) (by omega)
  have hmk := fun W => run_makeB (8 * ns.length + l.length) (by omega) W
  have e1 : ((8 * ns.length + l.length : Nat) : Int) = 8 * (ns.length : Int) + (l.length : Int) := by omega
  rw [e1] at hmk
  clear e1
  have HBY := Lib.hid bytesOf_any
  obtain ⟨sc, hsc⟩ : ∃ sc, scalS (tagS s.data.toList (catB ns ++ l)) = sc := ⟨_, rfl⟩
  rw [hsc]
  have HSC := Lib.hid hsc
  clear hsc
  obtain ⟨m, hm⟩ : ∃ m, ns.length = m := ⟨_, rfl⟩
  have HM := Lib.hid hm
  rw [hm] at c1 c2 hmk hns ⊢
  clear hm
  obtain ⟨q, hq⟩ : ∃ q, l.length = q := ⟨_, rfl⟩
  have HQ := Lib.hid hq
  rw [hq] at c2 hmk hn hcap ⊢
  clear hq
  go_enter Tryd.func57, Tryd.ntmps57
  go_wp2_with (go_at_call 63; refine (HBY.out 0 _).mono ?_; rintro e w1 ⟨rfl, hb1⟩)
  obtain ⟨W1, hW1⟩ : ∃ W1, W1 = w1.alloc (.cells (madeCells #[.int .u8 0] (8 * m + q)) 5) := ⟨_, rfl⟩
  have HB1 : Hid (Below w.heap.size w W1) := by show Below _ _ _; rw [hW1]; exact hb1.alloc hb1.size _
  have HO1 : Hid (OwnB w.heap.size W1 (.slice (some ⟨w1.heap.size, 0, none⟩) 0 (8 * m + q)) (catB (ns.take 0))) := by
    show OwnB _ _ _ _; rw [hW1]; exact OwnB.made (8 * m + q) (by omega) hb1.size
  rw [← hW1]
  clear hW1 hb1 hmk c1 c2
  go_loopw [7, 22] (fun v i wr => ∃ k : Nat, k ≤ m ∧ i = .int .i64 k ∧ OwnB w.heap.size wr v (catB (ns.take k)) ∧ Below w.heap.size w wr) (fun _ i _ => m - (intOf i).toNat)
  case atStart => exact ⟨0, by omega, rfl, HO1.out, HB1.out⟩
  case round =>
    clear HO1 HB1
    obtain ⟨k, hk, rfl, ho, hb⟩ := hrel
    have HO := Lib.hid ho
    have HB := Lib.hid hb
    clear ho hb
    by_cases hlt : k < m
    · have hkl : k < ns.length := by rw [HM.out]; exact hlt
      have HX := Lib.hid (catB_take ns k hkl)
      have ck := (HB.out.cell (p := ⟨g, k, none⟩) HN.out.1).trans (HN.out.2 k hkl)
      generalize ns[k] = nk at *
      have HLK : Hid ((catB (ns.take k)).length ≤ 32) := by show _ ≤ _; rw [catB_len, List.length_take]; omega
      go_wp2_with (go_at_call 63; refine (HBY.out nk _).mono ?_; rintro e w2 ⟨rfl, hb2⟩)
      have HB2 := Lib.hid (HB.out.trans (hb2.mono HB.out.size))
      have HO2 := Lib.hid (HO.out.below hb2)
      clear hb2 HO ck
      obtain ⟨w3, hw3⟩ : ∃ w3, w3 = w2.alloc (.cells (bvA (be8 nk)) 57) := ⟨_, rfl⟩
      have hB3 : Below w2.heap.size w2 w3 := hw3 ▸ (Below.refl _ _).alloc (Nat.le_refl _) _
      have h3 : BB w3 w2.heap.size 57 (be8 nk) := hw3 ▸ BB.new w2 _ _
      have hD3 : BB w3 w2.heap.size 57 (be8 nk) := h3
      have HR3 : Hid (RdB w3.heap.size w3 (some ⟨w2.heap.size, 0, none⟩) (be8 nk)) := Lib.hid (hD3.rdB (by rw [be8_len]; unfold maxLen; omega))
      have HO3 := Lib.hid (HO2.out.below hB3)
      have HB3 := Lib.hid (HB2.out.trans (hB3.mono HB2.out.size))
      have HS3 : Hid (w.heap.size ≤ w3.heap.size) := HB3.out.size
      have HLN : Hid ((catB (ns.take k)).length + (be8 nk).length ≤ 140737488355328) := by show _ ≤ _; have := HLK.out; rw [be8_len]; omega
      have HW3 := Lib.hid hw3
      clear h3 hw3 hB3 hD3 HO2 HB2
      have hst := run_storeCells_new (P := Tryd.prog) w2 57 #[.int .u8 0, .int .u8 0, .int .u8 0, .int .u8 0, .int .u8 0, .int .u8 0, .int .u8 0, .int .u8 0] (bvA (be8 nk)) (be8A_sz _) (by rw [be8A_size]; rfl) (bvA_one _)
      rw [← HW3.out] at hst
      go_wp2_with fail
      rw [hst]
      go_wp2_with ((with_reducible show wpList _ _ _ (({ dst := some 30, op := _, type := _, pos := _, after := _, guard := _ } : Oper) :: _) _ _); go_must (refine wpList_appB rfl (.tmp 28) (.tmp 29) rfl w.heap.size _ (catB (ns.take k)) (be8 nk) (some ⟨w2.heap.size, 0, none⟩) 8 rfl HO3.out (by rw [be8_len]; rfl) HR3.out (fun h => by cases h) HLN.out HS3.out ?_))
      intro v4 w4 ho4 hg4
      rw [← HX.out] at ho4
      have HO4 := Lib.hid ho4
      have HB4 := Lib.hid (HB3.out.trans (hg4.below (fun k hk => HO3.out.base k hk) HB3.out.size))
      clear ho4 hg4 HO3 HB3 HR3 HLN HS3 hst HW3
      go_wp2_with fail
      go_roundw
      case rel => exact ⟨k + 1, by omega, by go_num, HO4.out, HB4.out⟩
      case measure => simp [intOf]; omega
    · obtain rfl : k = m := by omega
      have e : ns.take k = ns := by rw [← HM.out]; exact List.take_length
      rw [e] at HO
      have HR : Hid (RdB wr.heap.size wr a l) := Lib.hid ((HL.out.below HB.out).mono HB.out.size)
      have HS : Hid (w.heap.size ≤ wr.heap.size) := HB.out.size
      have HLN : Hid ((catB ns).length + l.length ≤ 140737488355328) := by show _ ≤ _; rw [catB_len, HM.out, HQ.out]; omega
      clear e
      go_wp2_with ((with_reducible show wpList _ _ _ (({ dst := some 35, op := _, type := _, pos := _, after := _, guard := _ } : Oper) :: _) _ _); go_must (refine wpList_appB rfl (.tmp 33) (.tmp 34) rfl w.heap.size _ (catB ns) l a cap rfl HO.out (by rw [HQ.out]; rfl) HR.out HNIL.out HLN.out HS.out ?_))
      intro v6 w6 ho6 hg6
      have HB6 := Lib.hid (HB.out.trans (hg6.below (fun k hk => HO.out.base k hk) HB.out.size))
      obtain ⟨a6, cap6, rfl, _, _⟩ := ho6.form
      have HW6 := Lib.hid ho6
      clear ho6 hg6 HO HB HR HS HLN
      have cS := gScalar s a6 cap6 (catB ns ++ l) w6 (HT.out.below HB6.out HT.out.lt) HW6.out.rdOf HW6.out.caps.1 HW6.out.caps.2 (by omega) (by rw [HLL.out, HM.out, HQ.out]; omega)
      rw [HSC.out] at cS
      have HCS := Lib.hid cS
      clear cS
      generalize (catB ns ++ l).length = ml at *
      go_wp2_with (go_at_call 28; refine HCS.out.mono ?_; rintro e w7 ⟨rfl, hb7⟩)
      go_ret
      refine ⟨?_, HB6.out.trans (hb7.mono HB6.out.size)⟩
      rfl

/-- The tags. -/
def tagSign : List UInt8 := [115, 105, 103, 110]
def tagNonce : List UInt8 := [110, 111, 110, 99, 101]
/-- The challenge of a public key, an element and a message; the nonce of a private key and a message. -/
def chalS (pub r : Int) (l : List UInt8) : Nat := scalS (tagS tagSign (be8 r ++ be8 pub ++ l))
def nonS (x : Int) (l : List UInt8) : Nat := scalS (tagS tagNonce (be8 x ++ l))
theorem chalS_bd (pub r : Int) (l : List UInt8) : 1 ≤ chalS pub r l ∧ chalS pub r l < 2305843009213688669 := scalS_bd _
theorem nonS_bd (x : Int) (l : List UInt8) : 1 ≤ nonS x l ∧ nonS x l < 2305843009213688669 := scalS_bd _
theorem two_cells {w : World} {a b : Int} : RdN (w.alloc (.cells #[.int .i64 a, .int .i64 b] 3)) w.heap.size [a, b] := by
  refine ⟨by simp, fun j hj => ?_⟩
  rw [cell_of_row _ _ _ _ _ _ (heap_alloc_new w _)]
  match j, hj with
  | 0, _ => rfl
  | 1, _ => rfl
theorem one_cell {w : World} {a : Int} : RdN (w.alloc (.cells #[.int .i64 a] 3)) w.heap.size [a] := by
  refine ⟨by simp, fun j hj => ?_⟩
  rw [cell_of_row _ _ _ _ _ _ (heap_alloc_new w _)]
  match j, hj with
  | 0, _ => rfl

theorem challenge_any (pub r : Int) (a : Option Addr) (cap : Nat) (l : List UInt8) (w : World) (hT : Tab w) (hl : RdB w.heap.size w a l) (hcap : l.length ≤ cap) (hc2 : cap ≤ maxLen) (hnil : a = none → cap = 0) (hn : l.length ≤ 70368744177000) :
    Calls Tryd.prog 33 #[.int .i64 pub, .int .i64 r, .slice a l.length cap] w fun e w' => e = .returned (.int .i64 (chalS pub r l : Nat)) ∧ Below w.heap.size w w' := by
  have hB : Below w.heap.size w (w.alloc (.cells #[.int .i64 r, .int .i64 pub] 3)) := (Below.refl _ _).alloc (Nat.le_refl _) _
  have hk := sscalar_any (ByteArray.mk #[115, 105, 103, 110]) a cap l w.heap.size [r, pub] (w.alloc (.cells #[.int .i64 r, .int .i64 pub] 3)) (by decide) (hT.below hB hT.lt) ((hl.below hB).mono hB.size) hcap hc2 hnil hn (by simp) two_cells
  have e : scalS (tagS (ByteArray.mk #[115, 105, 103, 110]).data.toList (catB [r, pub] ++ l)) = chalS pub r l := by
    unfold chalS tagSign catB; simp
  rw [e] at hk
  have HK := Lib.hid hk
  have HB := Lib.hid hB
  clear hk hl hT hnil hB e
  generalize l.length = n at *
  generalize chalS pub r l = c at *
  go_enter Tryd.func33, Tryd.ntmps33
  go_wp2_with (go_at_call 57; refine HK.out.mono ?_; rintro e w1 ⟨rfl, hb1⟩)
  go_ret
  exact ⟨rfl, HB.out.trans (hb1.mono HB.out.size)⟩
theorem nonce_any (x : Int) (a : Option Addr) (cap : Nat) (l : List UInt8) (w : World) (hT : Tab w) (hl : RdB w.heap.size w a l) (hcap : l.length ≤ cap) (hc2 : cap ≤ maxLen) (hnil : a = none → cap = 0) (hn : l.length ≤ 70368744177000) :
    Calls Tryd.prog 32 #[.int .i64 x, .slice a l.length cap] w fun e w' => e = .returned (.int .i64 (nonS x l : Nat)) ∧ Below w.heap.size w w' := by
  have hB : Below w.heap.size w (w.alloc (.cells #[.int .i64 x] 3)) := (Below.refl _ _).alloc (Nat.le_refl _) _
  have hk := sscalar_any (ByteArray.mk #[110, 111, 110, 99, 101]) a cap l w.heap.size [x] (w.alloc (.cells #[.int .i64 x] 3)) (by decide) (hT.below hB hT.lt) ((hl.below hB).mono hB.size) hcap hc2 hnil hn (by simp) one_cell
  have e : scalS (tagS (ByteArray.mk #[110, 111, 110, 99, 101]).data.toList (catB [x] ++ l)) = nonS x l := by
    unfold nonS tagNonce catB; simp
  rw [e] at hk
  have HK := Lib.hid hk
  have HB := Lib.hid hB
  clear hk hl hT hnil hB e
  generalize l.length = n at *
  generalize nonS x l = c at *
  go_enter Tryd.func32, Tryd.ntmps32
  go_wp2_with (go_at_call 57; refine HK.out.mono ?_; rintro e w1 ⟨rfl, hb1⟩)
  go_ret
  exact ⟨rfl, HB.out.trans (hb1.mono HB.out.size)⟩
end Go.Proofs.YtgpcbckpfnhhcaaDoor
