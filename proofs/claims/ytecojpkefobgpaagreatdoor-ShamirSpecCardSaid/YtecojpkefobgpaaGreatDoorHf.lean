/-
  Package shamir: the basis polynomials, one after the other.
-/
import Derived.Test.YtecojpkefobgpaaGreatDoorHe
import Derived.Test.YtecojpkefobgpaaGreatDoorHd
namespace Go.Proofs.YtecojpkefobgpaaGreatDoor
open Go.RowKit Go.Shelf
set_option linter.unusedVariables false
set_option linter.unusedSimpArgs false
attribute [local go_sem] Oper.semAt_some

theorem bases_any (a : Option Addr) (n cap : Nat) (w : World) :
    Calls Tryz.prog 39 #[.slice a n cap] w fun e w' => e = .returned (.func (.func 54) #[] #[.pointer (some ⟨w.heap.size, 0, none⟩)]) ∧ w' = w.alloc (.cells #[.slice a n cap] 22) := by
  go_enter Tryz.func39, Tryz.ntmps39
  go_wp2_with fail
  go_ret
  exact ⟨rfl, rfl⟩

/-- What the iterator reads: the box of the shares, and the shares. -/
structure BsC (Bl B : Nat) (a : Option Addr) (cap : Nat) (l : List Sh) (W : World) : Prop where
  box : W.cell? ⟨Bl, 0, none⟩ = some (.slice a l.length cap)
  rd : RdS B W a l
  le : B ≤ W.heap.size
/-- What is yielded for a share: itself, and its basis polynomial. -/
def BsE (l : List Sh) (s : Sh) (vs : Array Value) (W : World) : Prop := ∃ a' cap', vs = #[shV s, basV a' (oth l s.1).length cap' s.1] ∧ RdS W.heap.size W a' (oth l s.1)

set_option maxRecDepth 100000 in
set_option maxHeartbeats 2000000 in
theorem bases1_rel (Bl B : Nat) (a : Option Addr) (cap : Nat) (l : List Sh) (h64 : l.length ≤ 64) :
    SeqRel Fence.wide 4 Tryz.prog 54 #[.pointer (some ⟨Bl, 0, none⟩)] (BsE l) (BsC Bl B a cap l) l := by
  intro l' Z J hJb hJC hY W hW h0
  have HZ := Lib.hid hW
  clear hW
  have hC0 := hJC _ _ h0
  have c0 := hC0.box
  obtain ⟨n, hn⟩ : ∃ n, l.length = n := ⟨_, rfl⟩
  have HN := Lib.hid hn
  rw [hn] at h64 c0
  have HJ0 : Hid (J (l.take 0) W) := Lib.hid h0
  have HJC := Lib.hid (fun pre W (h : J pre W) => hJC pre W h)
  have HZ0 : Hid (Z ≤ W.heap.size) := Lib.hid (Nat.le_of_eq HZ.out.symm)
  have HSEL := Lib.hid (fun own g w hl hg => selected_any a cap l own g w hl hg (by omega))
  have HTK : Hid (∀ k (h : k < l.length), l.take k ++ [l[k]] = l.take (k + 1)) := Lib.hid (fun k h => (List.take_succ_eq_append_getElem h).symm)
  have HTN : Hid (l.take n = l) := Lib.hid (by rw [← hn, List.take_length])
  clear h0 hC0 hJC hn
  refine callsIn_of_wp Tryz.func54 rfl trivial ?_ rfl
  simp only [Tryz.ntmps54, List.size_toArray, List.length_cons, List.length_nil, Nat.reduceAdd, Nat.reduceSub, Array.replicate_succ, Array.replicate_zero, List.push_toArray, List.append_toArray, List.nil_append, List.cons_append]
  gi_wp2
  gi_loopw [8] (fun p wr => ∃ j : Nat, j ≤ n ∧ p = .int .i64 j ∧ J (l.take j) wr ∧ Z ≤ wr.heap.size) (fun p _ => n - (intOf p).toNat)
  case atStart => exact ⟨0, Nat.zero_le _, rfl, HJ0.out, HZ0.out⟩
  case round =>
    clear HJ0 HZ0
    obtain ⟨k, hk, rfl, hJ, hz⟩ := hrel
    have HJ := Lib.hid hJ
    have HZk := Lib.hid hz
    have hC := HJC.out _ _ hJ
    have c1 := hC.box
    rw [HN.out] at c1
    clear hJ hz
    by_cases hlt : k < n
    · have hkl : k < l.length := by rw [HN.out]; exact hlt
      obtain ⟨b, o, rfl, hbB, hc⟩ := hC.rd.at_ (by omega)
      obtain ⟨d0, d1⟩ := hc k hkl
      have HTk := Lib.hid (HTK.out k hkl)
      have HYk := Lib.hid (fun vs W h => hY (l.take k) l[k] vs W h (by rw [List.length_take]; omega) (by rw [List.length_take, Nat.min_eq_left (by omega)]; exact List.getElem?_eq_getElem hkl))
      have HSk := Lib.hid (HSEL.out l[k])
      have HRD := Lib.hid (hC.rd.mono hC.le)
      generalize l[k] = s at *
      obtain ⟨s0, s1⟩ := s
      clear hc HTK hC HSEL
      have HB1 : Hid (Below wr.heap.size wr (wr.alloc (.cells #[.int .i64 s0, .int .i64 s1] 40))) := Lib.hid ((Below.refl _ _).alloc (Nat.le_refl _) _)
      have HSH : Hid (SH (wr.alloc (.cells #[.int .i64 s0, .int .i64 s1] 40)) wr.heap.size (s0, s1)) := Lib.hid (SH.new wr (s0, s1))
      have HK := Lib.hid (HSk.out wr.heap.size _ (HRD.out.call HB1.out) HSH.out)
      rw [HN.out] at HK
      have HJ1 := Lib.hid (hJb _ _ _ HJ.out (HB1.out.mono HZk.out))
      have c2 := (HJC.out _ _ HJ1.out).box
      rw [HN.out] at c2
      gi_wp2_with (refine ⟨trivial, ?_⟩; gi_at_call 55; refine (callsIn_wide.2 HK.out).mono ?_; rintro e w2 ⟨⟨v2, rfl, ho2⟩, hb2⟩; refine Hid.out ?_)
      refine Lib.hid ?_
      have hz1 := HB1.out.size
      have hz2 := hb2.size
      have HJ2 := Lib.hid (hJb _ _ _ HJ1.out (hb2.mono (Nat.le_trans HZk.out hz1)))
      obtain ⟨a2, cap2, rfl, _, _, _, hrd2⟩ := ho2.form
      have HSH2 := HSH.out.call hb2
      have e0 := HSH2.cell0
      have e1 := HSH2.cell1
      have HZ2 : Hid (Z ≤ w2.heap.size) := Lib.hid (Nat.le_trans HZk.out (Nat.le_trans hz1 hz2))
      obtain ⟨fn, tmps, assign, body, hy, hRR⟩ := HYk.out _ w2 HJ2.out ⟨a2, cap2, rfl, hrd2⟩ HZ2.out
      clear ho2 hb2 hrd2 HSH2 HK HSH HJ1 HJ HRD HSk HYk hz1 hz2 d0 d1 c1 c2 HB1
      simp only [shV, basV] at hy
      gi_wp2
      refine hRR.mono ?_
      rintro e w3 ⟨rfl, hJ3, hk3, hz3⟩
      have HJ3 : Hid (J (l.take (k + 1)) w3) := Lib.hid (by rw [← HTk.out]; exact hJ3)
      have HZ3 : Hid (Z ≤ w3.heap.size) := Lib.hid (Nat.le_trans HZ2.out hz3)
      clear hJ3 hk3 hz3 hRR hy HJ2 HZ2 e0 e1
      gi_wp2
      go_roundw
      case rel => exact ⟨k + 1, by omega, by go_num, HJ3.out, HZ3.out⟩
      case measure => simp [intOf]; omega
    · obtain rfl : k = n := by omega
      gi_wp2
      go_end0
      exact ⟨⟨_, rfl⟩, by rw [HTN.out] at HJ; exact HJ.out⟩
end Go.Proofs.YtecojpkefobgpaaGreatDoor
