/-
  Package pake: the bytes of numbers; the password of a code; the cover.
-/
import Derived.Test.YtkpecfhcdechmaaDoorJb
import Derived.Test.YtkpecfhcdechmaaDoorJa
import Derived.Test.YtkpecfhcdechmaaDoorPkH
namespace Go.Proofs.YtkpecfhcdechmaaDoor
open Go.RowKit
set_option linter.unusedVariables false
set_option linter.unusedSimpArgs false

set_option maxRecDepth 100000 in
set_option maxHeartbeats 3200000 in
theorem bytesP_any (g : Nat) (ns : List Int) (w : World) (hns : ns.length ≤ 4) (hN : RdN w g ns) :
    Calls Tryd.prog 39 #[.slice (some ⟨g, 0, none⟩) ns.length ns.length] w fun e w' => ∃ v, e = .returned v ∧ OwnB w.heap.size w' v (catB ns) ∧ Below w.heap.size w w' := by
  have HN := Lib.hid hN
  clear hN
  have c1 := wrapI (8 * (ns.length : Int)) (by omega) (by omega)
  have hmk := run_makeB (8 * ns.length) (by omega) w
  have e1 : ((8 * ns.length : Nat) : Int) = 8 * (ns.length : Int) := by omega
  rw [e1] at hmk
  clear e1
  obtain ⟨m, hm⟩ : ∃ m, ns.length = m := ⟨_, rfl⟩
  have HM := Lib.hid hm
  rw [hm] at c1 hmk hns ⊢
  clear hm
  obtain ⟨W1, hW1⟩ : ∃ W1, W1 = w.alloc (.cells (madeCells #[.int .u8 0] (8 * m)) 5) := ⟨_, rfl⟩
  have HB1 : Hid (Below w.heap.size w W1) := by show Below _ _ _; rw [hW1]; exact (Below.refl _ _).alloc (Nat.le_refl _) _
  have HO1 : Hid (OwnB w.heap.size W1 (.slice (some ⟨w.heap.size, 0, none⟩) 0 (8 * m)) (catB (ns.take 0))) := by
    show OwnB _ _ _ _; rw [hW1]; exact OwnB.made (8 * m) (by omega) (Nat.le_refl _)
  rw [← hW1] at hmk
  clear hW1
  go_enter Tryd.func39, Tryd.ntmps39
  go_wp2_with fail
  clear hmk c1
  go_loopw [3, 13] (fun v i wr => ∃ k : Nat, k ≤ m ∧ i = .int .i64 k ∧ OwnB w.heap.size wr v (catB (ns.take k)) ∧ Below w.heap.size w wr) (fun _ i _ => m - (intOf i).toNat)
  case atStart => exact ⟨0, by omega, rfl, HO1.out, HB1.out⟩
  case round =>
    clear HO1 HB1
    obtain ⟨k, hk, rfl, ho, hb⟩ := hrel
    have HO := Lib.hid ho
    have HB := Lib.hid hb
    clear ho hb
    by_cases hlt : k < m
    · have hkl : k < ns.length := by rw [HM.out]; exact hlt
      have HX := Lib.hid (catB_take ns k hkl)
      have ck := (HB.out.cell (p := ⟨g, k, none⟩) HN.out.1).trans (HN.out.2 k hkl)
      generalize ns[k] = nk at *
      have HLK : Hid ((catB (ns.take k)).length ≤ 32) := by show _ ≤ _; rw [catB_len, List.length_take]; omega
      obtain ⟨tk, htk⟩ : ∃ tk, tk = catB (ns.take k) := ⟨_, rfl⟩
      rw [← htk] at HX HO HLK
      clear htk
      have HO0 : Hid (OwnB w.heap.size wr _ (tk ++ (be8 nk).take 0)) := Lib.hid (by rw [List.take_zero, List.append_nil]; exact HO.out)
      go_wp2_with fail
      clear ck
      obtain ⟨wq, hwq⟩ : ∃ wq, wq = wr := ⟨_, rfl⟩
      rw [← hwq] at HO HB HO0 ⊢
      clear hwq
      go_loopw [3, 6] (fun v i wr => ∃ j : Nat, j ≤ 8 ∧ i = .int .i64 (56 - 8 * (j : Int)) ∧ OwnB w.heap.size wr v (tk ++ (be8 nk).take j) ∧ Below w.heap.size w wr) (fun _ i _ => (intOf i + 8).toNat)
      case atStart => exact ⟨0, by omega, rfl, HO0.out, HB.out⟩
      case round =>
        clear HB HO HO0
        obtain ⟨j, hj, rfl, ho, hb⟩ := hrel
        have HO := Lib.hid ho
        have HB := Lib.hid hb
        obtain ⟨av, cv, rfl, _, _⟩ := ho.form
        clear ho hb
        by_cases hlt2 : j < 8
        · have HX2 := Lib.hid (be8_take nk j hlt2)
          have HV := Lib.hid (bv_byN nk j)
          have HU := Lib.hid (byN_u nk j hlt2)
          have HL : Hid ((tk ++ (be8 nk).take j).length + 1 ≤ 140737488355328) := Lib.hid (by have := HLK.out; rw [List.length_append, List.length_take, be8_len]; omega)
          have HA : Hid (tk ++ (be8 nk).take j ++ [byN nk j] = tk ++ (be8 nk).take (j + 1)) := Lib.hid (by rw [HX2.out, List.append_assoc])
          have hi0 : (0 : Int) ≤ 56 - 8 * (j : Int) := by omega
          obtain ⟨tj, htj⟩ : ∃ tj, tj = tk ++ (be8 nk).take j := ⟨_, rfl⟩
          rw [← htj] at HL HO HA ⊢
          clear htj HX2
          go_wp2_with ((with_reducible show wpList _ _ _ (({ dst := some 27, op := _, type := _, pos := _, after := _, guard := _ } : Oper) :: _) _ _); go_must (refine wpList_app1 rfl (.tmp 21) (.tmp 26) rfl w.heap.size _ tj (byN nk j) wr.heap.size rfl (HO.out.alloc _) rfl ?hc HL.out ?hs ?_))
          case hc => rw [cell_of_row _ _ _ _ _ _ (heap_alloc_new wr _), HV.out]; rfl
          case hs => have := HB.out.size; simp; omega
          intro v3 w3 ho3 hg3
          have HB3 := Lib.hid ((HB.out.alloc HB.out.size _).trans (hg3.below (fun k hk => HO.out.base k hk) (HB.out.alloc HB.out.size _).size))
          rw [HA.out] at ho3
          have HO3 := Lib.hid ho3
          obtain ⟨a3, c3, rfl, _, _⟩ := ho3.form
          clear ho3 hg3
          go_wp2_with fail
          go_roundw
          case rel => first | exact ⟨j + 1, by omega, by go_num, HO3.out, HB3.out⟩ | (repeat apply Exists.intro; exact ⟨⟨j + 1, by omega, by go_num, HO3.out, HB3.out⟩, rfl⟩)
          case measure => simp [intOf]; omega
        · obtain rfl : j = 8 := by omega
          rw [show (be8 nk).take 8 = be8 nk from by rw [List.take_of_length_le (by rw [be8_len]; omega)]] at HO
          go_wp2_with fail
          go_roundw
          case rel => exact ⟨k + 1, by omega, by go_num, by rw [HX.out]; exact HO.out, HB.out⟩
          case measure => simp [intOf]; omega
    · obtain rfl : k = m := by omega
      have e : ns.take k = ns := by rw [← HM.out]; exact List.take_length
      rw [e] at HO
      go_wp2_with fail
      go_ret
      exact ⟨_, rfl, HO.out, HB.out⟩

theorem catB_one (c : Int) : catB [c] = be8 c := by simp [catB]
set_option maxRecDepth 100000 in
set_option maxHeartbeats 1600000 in
theorem password_any (c : Int) (w : World) (hT : Tab w) :
    Calls Tryd.prog 60 #[.int .i64 c] w fun e w' => e = .returned (.int .i64 (pwS c : Nat)) ∧ Below w.heap.size w w' := by
  have HT := Lib.hid hT
  have HK := Lib.hid (bytesP_any w.heap.size [c] (w.alloc (.cells #[.int .i64 c] 3)) (by simp) one_cell)
  obtain ⟨sc, hsc⟩ : ∃ sc, pwS c = sc := ⟨_, rfl⟩
  have HSC : Hid (scalS (tagS (ByteArray.mk #[99, 111, 100, 101]).data.toList (be8 c)) = sc) := Lib.hid hsc
  rw [hsc]
  clear hT hsc
  have hB1 : Below w.heap.size w (w.alloc (.cells #[.int .i64 c] 3)) := (Below.refl _ _).alloc (Nat.le_refl _) _
  have HB1 := Lib.hid hB1
  clear hB1
  go_enter Tryd.func60, Tryd.ntmps60
  go_wp2_with fail
  refine HK.out.mono ?_
  rintro e w2 ⟨v, rfl, ho, hb⟩
  rw [catB_one] at ho
  obtain ⟨a, cap, rfl, -, -⟩ := ho.form
  have HB2 := Lib.hid (HB1.out.trans (hb.mono HB1.out.size))
  have hc := gScalar ⟨#[99, 111, 100, 101]⟩ a cap (be8 c) w2 (HT.out.below HB2.out HT.out.lt) ho.rdOf ho.caps.1 ho.caps.2 (by decide) (by rw [be8_len]; omega)
  rw [HSC.out] at hc
  have HC := Lib.hid hc
  clear hc ho hb HK HB1
  generalize (be8 c).length = q at *
  go_wp2_with (go_at_call 77; refine HC.out.mono ?_; rintro e w3 ⟨rfl, hb⟩)
  go_ret
  exact ⟨rfl, HB2.out.trans (hb.mono HB2.out.size)⟩

set_option maxRecDepth 100000 in
set_option maxHeartbeats 1600000 in
theorem cover_str (s : ByteArray) (hs : s.size ≤ 600) (F : FuncId) (c : Int) (w : World) (hT : Tab w) :
    Calls Tryd.prog 34 #[.agg #[.string s, .func (.func F) #[] #[]], .int .i64 c] w fun e w' => e = .returned (.int .i64 ((ptS (tagS tagPake s.data.toList) ^ pwS c % 4611686018427377339 : Nat) : Int)) ∧ Below w.heap.size w w' := by
  have HT := Lib.hid hT
  have HK := Lib.hid (fun W h => password_any c W h)
  have hel : IsEl ((ptS (tagS tagPake s.data.toList) : Nat) : Int) := isEl_of (ptS_lt _) (ptS_el _)
  have KX := Lib.hid (fun W => gExp_ok (ptS (tagS tagPake s.data.toList)) (pwS c) hel (pwS_bd c).2 W)
  obtain ⟨x, hx⟩ : ∃ x, ptS (tagS tagPake s.data.toList) ^ pwS c % 4611686018427377339 = x := ⟨_, rfl⟩
  rw [hx] at KX ⊢
  clear hx
  obtain ⟨p, hp⟩ : ∃ p, ptS (tagS tagPake s.data.toList) = p := ⟨_, rfl⟩
  have HP : Hid (ptS (tagS (ByteArray.mk #[112, 97, 107, 101]).data.toList s.data.toList) = p) := Lib.hid hp
  rw [hp] at KX
  obtain ⟨k, hk⟩ : ∃ k, pwS c = k := ⟨_, rfl⟩
  rw [hk] at KX HK
  clear hT hel hp hk
  have hcv := fun W : World => Lib.run_convert_string_bytes (P := Tryd.prog) W 9 38 5 s Tryd.underlying9 Tryd.underlying38 Tryd.underlying5
  obtain ⟨w1, hw1⟩ : ∃ w1, w1 = w.alloc (.cells #[.string s, .func (.func F) #[] #[]] 59) := ⟨_, rfl⟩
  have hB1 : Below w.heap.size w w1 := hw1 ▸ (Below.refl _ _).alloc (Nat.le_refl _) _
  have hC1 : CB w1 w.heap.size 59 #[.string s, .func (.func F) #[] #[]] := hw1 ▸ CB.new w _ _
  have c0 : w1.cell? ⟨w.heap.size, 0, none⟩ = some (.string s) := hC1.cell 0
  have hB2 := hB1.trans ((below_bytesWorld w1 5 s).mono hB1.size)
  have hc := gPoint ⟨#[112, 97, 107, 101]⟩ (some ⟨w1.heap.size, 0, none⟩) (grownCap w1 s.size 0 5) s.data.toList (Lib.bytesWorld w1 5 s) (HT.out.below hB2 HT.out.lt) (rd_bytesWorld w1 5 s (by unfold maxLen; omega)) (grownCap_ge w1 s.size 0 _) (grownCap_le_maxLen w1 s.size 0 _ (by unfold maxLen; omega)) (by decide) (by show s.data.toList.length ≤ _; rw [Array.length_toList]; show s.size ≤ _; omega)
  rw [HP.out] at hc
  have HC := Lib.hid hc
  have HB2 := Lib.hid hB2
  have HS1 : Hid (w1.heap.size = w.heap.size + 1) := Lib.hid (by rw [hw1]; simp)
  clear hc hB2 hB1 hC1
  go_enter Tryd.func34, Tryd.ntmps34
  go_wp2_with fail
  rw [← hw1]
  clear hw1
  change Calls _ _ #[_, .slice (some ⟨w.heap.size + 1, 0, none⟩) s.data.toList.length (grownCap w1 s.size 0 5)] _ _
  rw [← HS1.out]
  refine HC.out.mono ?_
  rintro e w3 ⟨rfl, hb⟩
  have HB3 := Lib.hid (HB2.out.trans (hb.mono HB2.out.size))
  clear hb HB2 HC c0
  go_wp2_with (first
    | (go_at_call 60; with_reducible refine (HK.out _ (HT.out.below HB3.out HT.out.lt)).mono ?_; rintro e w4 ⟨rfl, hb4⟩)
    | (go_at_call 29; with_reducible refine (KX.out _).mono ?_; rintro e w5 ⟨rfl, hb5⟩))
  go_ret
  exact ⟨rfl, (HB3.out.trans (hb4.mono HB3.out.size)).trans (hb5.mono (HB3.out.trans (hb4.mono HB3.out.size)).size)⟩
/-- The cover of a role. -/
theorem cover_any (r : Int) (h : 1 ≤ r ∧ r ≤ 2) (c : Int) (w : World) (hT : Tab w) :
    Calls Tryd.prog 34 #[roleV r, .int .i64 c] w fun e w' => e = .returned (.int .i64 (mdS r c : Nat)) ∧ Below w.heap.size w w' := by
  obtain rfl | rfl : r = 1 ∨ r = 2 := by omega
  · have k := cover_str sHost (by decide) 61 c w hT
    rw [show sHost.data.toList = bHost from rfl, show ptS (tagS tagPake bHost) ^ pwS c % 4611686018427377339 = mdS 1 c by unfold mdS mkS; rw [if_pos rfl]] at k
    rw [show roleV 1 = .agg #[.string sHost, .func (.func 61) #[] #[]] from rfl]
    exact k
  · have k := cover_str sGuest (by decide) 62 c w hT
    rw [show sGuest.data.toList = bGuest from rfl, show ptS (tagS tagPake bGuest) ^ pwS c % 4611686018427377339 = mdS 2 c by unfold mdS mkS; rw [if_neg (by decide)]] at k
    rw [show roleV 2 = .agg #[.string sGuest, .func (.func 62) #[] #[]] from rfl]
    exact k

end Go.Proofs.YtkpecfhcdechmaaDoor
