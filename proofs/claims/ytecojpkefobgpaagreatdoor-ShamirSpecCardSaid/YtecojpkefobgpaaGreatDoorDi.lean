/-
  Package derive: Scalar. The reference: First, Purpose, Expand, Mix, Step, Scalar.
-/
import Derived.Test.YtecojpkefobgpaaGreatDoorDh
import Derived.Test.YtecojpkefobgpaaGreatDoorPkH
import Derived.Test.YtecojpkefobgpaaGreatDoorGv
import Derived.Test.YtecojpkefobgpaaGreatDoorPkR
namespace Go.Proofs.YtecojpkefobgpaaGreatDoor
open Go.RowKit
set_option linter.unusedVariables false
set_option linter.unusedSimpArgs false

/-- The private key of a key and a label. -/
def scS (K : List UInt8) (s : ByteArray) : Nat := scalS (tagS tagScalar (expS K s []))
theorem scS_bd (K : List UInt8) (s : ByteArray) : 1 ≤ scS K s ∧ scS K s < 2305843009213688669 := scalS_bd _
theorem BB.rdBm {w : World} {g : Nat} {T : TypeId} {l : List UInt8} (h : BB w g T l) (hl : l.length = 32) : RdB w.heap.size w (some ⟨g, 0, none⟩) l := h.rdB (len32 hl)

set_option maxRecDepth 100000 in
set_option maxHeartbeats 1600000 in
theorem DScalar_any (K : List UInt8) (hK : K.length = 32) (s : ByteArray) (w : World) (hT : Tab w) (hs : s.size ≤ 100000) :
    Calls Tryz.prog 31 #[.agg (bvA K), .string s] w fun e w' => e = .returned (.int .i64 (scS K s : Nat)) ∧ Below w.heap.size w w' := by
  have HT := Lib.hid hT
  have HK := Lib.hid hK
  have HEX := Lib.hid (fun W hW => Expand_any K hK s none 0 [] W hW hs (RdM.nil _ _ _) (by decide) (fun _ h => by cases h))
  obtain ⟨x, hx⟩ : ∃ x, scS K s = x := ⟨_, rfl⟩
  have HX : Hid (scalS (tagS tagScalar (expS K s [])) = x) := Lib.hid hx
  have HEL := Lib.hid (expS_len K s [])
  obtain ⟨E, hE⟩ : ∃ E, expS K s [] = E := ⟨_, rfl⟩
  rw [hE] at HEX HEL HX
  rw [hx]
  have hA1 : BB (w.alloc (.cells (bvA K) 24)) w.heap.size 24 K := BB.new w _ _
  have hB1 : Below w.heap.size w (w.alloc (.cells (bvA K) 24)) := (Below.refl _ _).alloc (Nat.le_refl _) _
  clear hT hK hE hx
  have HA1 := Lib.hid hA1
  have HB1 := Lib.hid hB1
  clear hA1 hB1
  go_enter Tryz.func31, Tryz.ntmps31
  go_wp2_with (first
    | (refine wpList_load_row rfl 24 (.tmp 2) rfl w.heap.size rfl _ (bvA K) (0, 0) _ HA1.out Tryz.underlying24 rfl (key_sz _ HK.out) ?_)
    | (go_at_call 32; refine (HEX.out _ (HT.out.below HB1.out HT.out.lt)).mono ?_; rintro e w2 ⟨rfl, hb2⟩; refine Hid.out ?_))
  refine Lib.hid ?_
  have HB2 := Lib.hid (HB1.out.trans (hb2.mono HB1.out.size))
  clear hb2 HA1 HB1
  go_wp2_with (refine wpList_storeA rfl 24 (.tmp 5) (.tmp 8) rfl w2.heap.size (bvA E) rfl rfl 24 _ (BB.new w2 _ (List.replicate 32 0)) (key_sz _ HEL.out) (key_old _ HEL.out) (bvA_one _) ?_)
  intro w3 h3 hg3
  have HA3 : Hid (BB w3 w2.heap.size 24 E) := Lib.hid h3
  have hb3 : Below w2.heap.size w2 w3 := grown_below ((Below.refl _ _).alloc (Nat.le_refl _) _) hg3 (Nat.le_refl _) (by simp)
  have HB3 := Lib.hid (HB2.out.trans (hb3.mono HB2.out.size))
  clear h3 hg3 hb3 HB2
  have hc := gScalar ⟨#[115, 99, 97, 108, 97, 114]⟩ (some ⟨w2.heap.size, 0, none⟩) 32 E w3 (HT.out.below HB3.out HT.out.lt) (HA3.out.rdBm HEL.out) (by rw [HEL.out]; omega) (by unfold maxLen; omega) (by decide) (by rw [HEL.out]; omega)
  rw [HEL.out, show scalS (tagS (ByteArray.mk #[115, 99, 97, 108, 97, 114]).data.toList E) = x from HX.out] at hc
  have HC := Lib.hid hc
  clear hc HA3
  generalize w2.heap.size = g at *
  go_wp2_with (go_at_call 46; refine HC.out.mono ?_; rintro e w4 ⟨rfl, hb4⟩)
  go_ret
  exact ⟨rfl, HB3.out.trans (hb4.mono HB3.out.size)⟩

/-! ### The reference -/
set_option maxRecDepth 100000 in
set_option maxHeartbeats 1600000 in
theorem purpose_any (s : ByteArray) (a : Option Addr) (cap : Nat) (ns : List Int) (w : World) (hs : s.size ≤ 100000) (hr : RdM w.heap.size w a ns) (hl : ns.length ≤ 1000) (hI : ∀ n ∈ ns, I64 n) :
    Calls Tryz.prog 53 #[.string s, .slice a ns.length cap] w fun e w' => ∃ v, e = .returned v ∧ OwnB w.heap.size w' v (purpS s ns) ∧ Below w.heap.size w w' := by
  have HR := Lib.hid hr
  have HI := Lib.hid hI
  have HS : Hid (s.size ≤ maxLen) := Lib.hid (by unfold maxLen; omega)
  have HTK := Lib.hid (kidsS_take s ns)
  have HTN : Hid (kidsS s (ns.take ns.length) = kidsS s ns) := Lib.hid (by rw [List.take_length])
  have HEN := Lib.hid (fun (a : Option Addr) (cap : Nat) (W : World) (h : RepS W.heap.size W a cap (kidsS s ns)) => refTop_ok W.heap.size 3 0 ByteArray.empty a cap (kidsS s ns) W (by rw [kidsS_sz]; omega) (by have := kidsS_vsize s ns; omega) ⟨by omega, by omega⟩ ⟨by omega, by omega⟩ empty_le2 h (Nat.le_refl _) (kidsS_chk s ns))
  clear hr hI
  obtain ⟨q, hq⟩ : ∃ q, ns.length = q := ⟨_, rfl⟩
  rw [hq] at hl HTN ⊢
  have HQ := Lib.hid hq
  clear hq
  have i1 : (q : Int) ≤ 1000 := by omega
  have HO1 : Hid (OV w.heap.size (w.alloc (.cells #[.int .i64 2, .int .i64 0, .string s, .slice none 0 0] 88)) (.slice (some ⟨w.heap.size, 0, none⟩) 1 1) (kidsS s (ns.take 0))) := Lib.hid (OV.one s HS.out (Nat.le_refl _))
  have HB1 : Hid (Below w.heap.size w (w.alloc (.cells #[.int .i64 2, .int .i64 0, .string s, .slice none 0 0] 88))) := Lib.hid ((Below.refl _ _).alloc (Nat.le_refl _) _)
  go_enter Tryz.func53, Tryz.ntmps53
  go_wp2_with fail
  go_loopw [5, 6] (fun v i wr => ∃ k : Nat, k ≤ q ∧ i = .int .i64 k ∧ OV w.heap.size wr v (kidsS s (ns.take k)) ∧ Below w.heap.size w wr) (fun _ i _ => q - (intOf i).toNat)
  case atStart => exact ⟨0, by omega, rfl, HO1.out, HB1.out⟩
  case round =>
    clear HO1 HB1
    obtain ⟨k, hk, rfl, ho, hb⟩ := hrel
    have HO := Lib.hid ho
    have HB := Lib.hid hb
    clear ho hb
    by_cases hlt : k < q
    · have hkl : k < ns.length := by rw [HQ.out]; exact hlt
      obtain ⟨b, o, rfl, hbB, hc⟩ := HR.out.at_ (by omega)
      have ck := (HB.out.cell (p := ⟨b, o + k, none⟩) hbB).trans (hc k hkl)
      have HX := Lib.hid (HTK.out k hkl)
      have HIk := Lib.hid (HI.out _ (List.getElem_mem hkl))
      have HLk : Hid ((kidsS s (ns.take k)).len + 1 ≤ 2000000000000) := Lib.hid (by rw [kidsS_len, List.length_take]; omega)
      generalize ns[k] = nk at *
      clear hc
      go_wp2_with ((with_reducible show wpList _ _ _ (({ dst := some 25, op := _, type := _, pos := _, after := _, guard := _ } : Oper) :: _) _ _); go_must (refine wpList_appP rfl (.tmp 18) (.tmp 24) rfl w.heap.size _ (kidsS s (ns.take k)) 1 nk ByteArray.empty _ rfl HO.out _ rfl (by simp) rfl ⟨by omega, by omega⟩ HIk.out empty_le2 HLk.out HB.out.size ?_))
      intro v4 w4 ho4 hb4
      rw [HX.out] at ho4
      have HO4 := Lib.hid ho4
      have HB4 := Lib.hid (HB.out.trans hb4)
      clear ho4 hb4 HO HB ck
      go_wp2_with fail
      go_roundw
      case rel => exact ⟨k + 1, by omega, by go_num, HO4.out, HB4.out⟩
      case measure => simp [intOf]; omega
    · obtain rfl : k = q := by omega
      rw [HTN.out] at HO
      obtain ⟨a5, cap5, rfl, hrep⟩ := HO.out.rep
      have HRP := Lib.hid hrep
      clear hrep hlt
      go_wp2_with (go_at_call 71; refine (HEN.out a5 cap5 _ HRP.out).mono ?_; rintro e w6 ⟨v6, rfl, ho6, hb6⟩)
      have HO6 := Lib.hid (ho6.mono HB.out.size)
      have HB6 := Lib.hid (HB.out.trans (hb6.mono HB.out.size))
      clear ho6 hb6 HO HB HRP
      obtain ⟨a7, cap7, rfl, _, _⟩ := HO6.out.form
      go_wp2_with fail
      go_ret
      exact ⟨_, rfl, HO6.out, HB6.out⟩
end Go.Proofs.YtecojpkefobgpaaGreatDoor
