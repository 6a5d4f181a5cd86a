/-
  Package derive: encoding, the bytes for a label and numbers; the same list built elsewhere.
-/
import Derived.Test.YtecojpkefobgpaaGreatDoorDc
namespace Go.Proofs.YtecojpkefobgpaaGreatDoor
open Go.RowKit
set_option linter.unusedVariables false
set_option linter.unusedSimpArgs false

theorem empty_le2 : ByteArray.empty.size ≤ maxLen := Nat.zero_le _
/-- make([]api.Value, 0, n). -/
theorem run_makeV (n : Nat) (hn : n ≤ 1000000000) (W : World) : (Instr.makeSlice 86 (.int .i64 0) (.int .i64 (n : Int))).run Tryz.prog W = .ok (.slice (some ⟨W.heap.size, 0, none⟩) 0 n) (W.alloc (.cells (madeCells #[.int .i64 0, .int .i64 0, .string ByteArray.empty, .slice none 0 0] (n * 4)) 88)) := by
  obtain ⟨i0, hi, hz0, hz1, hz2⟩ := info_parts valInfo
  have := run_make (P := Tryz.prog) W 86 88 i0 _ Tryz.underlying86 hi hz0 .i64 .i64 0 (n : Int) (by omega) (by omega) (by rw [hz2]; omega) (by omega)
  rw [hz1, Int.toNat_natCast] at this
  exact this
/-- A list of plain values that the call owns. -/
def OV (B : Nat) (w : World) (v : Value) (f : VL) : Prop := OwnV (fun _ => False) B w v f
theorem OV.made {B : Nat} {w : World} (n : Nat) (hn : n ≤ 1000000000) (hB : B ≤ w.heap.size) : OV B (w.alloc (.cells (madeCells #[.int .i64 0, .int .i64 0, .string ByteArray.empty, .slice none 0 0] (n * 4)) 88)) (.slice (some ⟨w.heap.size, 0, none⟩) 0 n) .nil :=
  ⟨[], World.ownsRow_made w _ n hB (by unfold maxLen; omega) (by rw [size_madeCells]), rfl⟩
theorem OV.call {B : Nat} {w w' : World} {v : Value} {f : VL} (h : OV B w v f) (hb : Below w.heap.size w w') : OV B w' v f := by
  obtain ⟨cs, ho, hc⟩ := h
  exact ⟨cs, World.ownsRow.kept ho (upd_of (R := w.heap.size) hb) (.inr fun e => by have := (World.ownsRow.lt ho _ e).2; omega), hc.keep (fun _ h => h) (fun _ h => h.elim)⟩
theorem OV.rep {B : Nat} {w : World} {v : Value} {f : VL} (h : OV B w v f) : ∃ a cap, v = .slice a f.len cap ∧ RepS w.heap.size w a cap f := by
  obtain ⟨a, cap, e, hr⟩ := OwnV.rep (ok' := fun b => b < w.heap.size) h (fun _ h => h.elim) (fun b _ h => h)
  exact ⟨a, cap, e, hr.toS fun _ h => h⟩
theorem OV.base {B : Nat} {w : World} {v : Value} {f : VL} (h : OV B w v f) : ∀ k, v.ownBlock = some k → B ≤ k := fun k hk => (OwnV.row h k hk).1
/-- A literal of one text. -/
theorem OV.one {B : Nat} {w : World} (s : ByteArray) (hs : s.size ≤ maxLen) (hB : B ≤ w.heap.size) : OV B (w.alloc (.cells #[.int .i64 2, .int .i64 0, .string s, .slice none 0 0] 88)) (.slice (some ⟨w.heap.size, 0, none⟩) 1 1) (kidsS s []) := by
  refine ⟨[.int .i64 2, .int .i64 0, .string s, .slice none 0 0], ⟨by simp [kidsS, kidsN, VL.len], .inr ⟨w.heap.size, 1, _, rfl, hB, heap_alloc_new w _, by simp [kidsS, kidsN, VL.len], by unfold maxLen; omega, rfl, rfl⟩⟩, ?_⟩
  exact ⟨none, 0, [], rfl, ⟨by omega, by omega⟩, ⟨by omega, by omega⟩, hs, ⟨Nat.zero_le _, .inl ⟨fun _ => rfl, rfl⟩⟩, rfl⟩

/-- append(own, a plain value). -/
theorem wpList_appP {ops : Array Oper} {rest : List Oper} {o : Oper} {a : Act} {w : World} {Q : Exit → Act → World → Prop} (hgd : o.guard = none) (s x : Operand)
    (ho : o.op = .call { callee := .builtin .append, args := #[s, x], argTypes := #[86, 86] })
    (B : Nat) (v : Value) (f : VL) (k n : Int) (str : ByteArray) (w0 : World) (hs : a.eval s = v) (hown : OV B w0 v f) (g : Nat) (hx : a.eval x = .slice (some ⟨g, 0, none⟩) 1 1) (hg : g = w0.heap.size)
    (hw : w = w0.alloc (.cells #[.int .i64 k, .int .i64 n, .string str, .slice none 0 0] 88)) (hk : I64 k) (hn : I64 n) (hst : str.size ≤ maxLen)
    (hlen : f.len + 1 ≤ 2000000000000) (hB : B ≤ w0.heap.size)
    (h : ∀ v' w', OV B w' v' (f.app (.cons k n str .nil .nil)) → Below B w0 w' → wpList Tryz.prog ops Q rest (a.put o.dst v') w') : wpList Tryz.prog ops Q (o :: rest) a w := by
  subst hg
  have hb : Below w0.heap.size w0 w := hw ▸ (Below.refl _ _).alloc (Nat.le_refl _) _
  have h1 := hown.call hb
  refine wpList_appV hgd s x ho (fun _ => False) B v f k n str .nil none 0 w0.heap.size hs h1 hx (hw ▸ heap_alloc_new w0 _) hk hn hst ⟨Nat.zero_le _, .inl ⟨fun _ => rfl, rfl⟩⟩ hlen (Nat.le_trans hB hb.size) (fun b hb => hb.elim) fun v' w' h2 h3 => ?_
  exact h v' w' (OwnV.imp h2 fun _ h => h.1) ((hb.mono hB).trans (h3.below h1.base (Nat.le_trans hB hb.size)))

set_option maxRecDepth 100000 in
set_option maxHeartbeats 1600000 in
theorem encoding_any (s : ByteArray) (a : Option Addr) (cap : Nat) (ns : List Int) (w : World) (hs : s.size ≤ 100000) (hr : RdM w.heap.size w a ns) (hl : ns.length ≤ 1000) (hI : ∀ n ∈ ns, I64 n) :
    Calls Tryz.prog 48 #[.string s, .slice a ns.length cap] w fun e w' => ∃ v, e = .returned v ∧ OwnB w.heap.size w' v (purpS s ns) ∧ Below w.heap.size w w' := by
  have HR := Lib.hid hr
  have HI := Lib.hid hI
  have HS : Hid (s.size ≤ maxLen) := Lib.hid (by unfold maxLen; omega)
  have HLN := Lib.hid (kidsS_len s)
  have HTK := Lib.hid (kidsS_take s ns)
  have HT0 : Hid (kidsS s (ns.take 0) = kidsS s []) := Lib.hid rfl
  have HTN : Hid (kidsS s (ns.take ns.length) = kidsS s ns) := Lib.hid (by rw [List.take_length])
  have HEN := Lib.hid (fun (a : Option Addr) (cap : Nat) (W : World) (h : RepS W.heap.size W a cap (kidsS s ns)) => encode_ok W.heap.size 3 0 ByteArray.empty a cap (kidsS s ns) W (by rw [kidsS_sz]; omega) (by have := kidsS_vsize s ns; omega) ⟨by omega, by omega⟩ ⟨by omega, by omega⟩ empty_le2 h (Nat.le_refl _) (kidsS_chk s ns))
  have hmk := run_makeV (ns.length + 1) (by omega)
  have e1 : ((ns.length + 1 : Nat) : Int) = 1 + (ns.length : Int) := by omega
  rw [e1] at hmk
  clear e1 hr hI
  obtain ⟨q, hq⟩ : ∃ q, ns.length = q := ⟨_, rfl⟩
  rw [hq] at hmk hl HTN ⊢
  have HQ := Lib.hid hq
  clear hq
  have i1 : (q : Int) ≤ 1000 := by omega
  have HO0 := Lib.hid (OV.made (B := w.heap.size) (w := w) (q + 1) (by omega) (Nat.le_refl _))
  have HB0 : Hid (Below w.heap.size w (w.alloc (.cells (madeCells #[.int .i64 0, .int .i64 0, .string ByteArray.empty, .slice none 0 0] ((q + 1) * 4)) 88))) := Lib.hid ((Below.refl _ _).alloc (Nat.le_refl _) _)
  go_enter Tryz.func48, Tryz.ntmps48
  go_wp2_with ((with_reducible show wpList _ _ _ (({ dst := some 18, op := _, type := _, pos := _, after := _, guard := _ } : Oper) :: _) _ _); go_must (refine wpList_appP rfl (.tmp 14) (.tmp 17) rfl w.heap.size _ .nil 2 0 s _ rfl HO0.out _ rfl (by simp) rfl ⟨by omega, by omega⟩ ⟨by omega, by omega⟩ HS.out (by decide) HB0.out.size ?_))
  intro v1 w1 ho1 hb1
  have HO1 : Hid (OV w.heap.size w1 v1 (kidsS s (ns.take 0))) := Lib.hid (by rw [HT0.out]; exact ho1)
  have HB1 := Lib.hid (HB0.out.trans hb1)
  clear ho1 hb1 HO0 HB0 hmk
  go_wp2_with fail
  go_loopw [5, 21] (fun v i wr => ∃ k : Nat, k ≤ q ∧ i = .int .i64 k ∧ OV w.heap.size wr v (kidsS s (ns.take k)) ∧ Below w.heap.size w wr) (fun _ i _ => q - (intOf i).toNat)
  case atStart => exact ⟨0, by omega, rfl, HO1.out, HB1.out⟩
  case round =>
    clear HO1 HB1
    obtain ⟨k, hk, rfl, ho, hb⟩ := hrel
    have HO := Lib.hid ho
    have HB := Lib.hid hb
    clear ho hb
    by_cases hlt : k < q
    · have hkl : k < ns.length := by rw [HQ.out]; exact hlt
      obtain ⟨b, o, rfl, hbB, hc⟩ := HR.out.at_ (by omega)
      have ck := (HB.out.cell (p := ⟨b, o + k, none⟩) hbB).trans (hc k hkl)
      have HX := Lib.hid (HTK.out k hkl)
      have HIk := Lib.hid (HI.out _ (List.getElem_mem hkl))
      have HLk : Hid ((kidsS s (ns.take k)).len + 1 ≤ 2000000000000) := Lib.hid (by rw [kidsS_len, List.length_take]; omega)
      generalize ns[k] = nk at *
      clear hc
      go_wp2_with ((with_reducible show wpList _ _ _ (({ dst := some 29, op := _, type := _, pos := _, after := _, guard := _ } : Oper) :: _) _ _); go_must (refine wpList_appP rfl (.tmp 25) (.tmp 28) rfl w.heap.size _ (kidsS s (ns.take k)) 1 nk ByteArray.empty _ rfl HO.out _ rfl (by simp) rfl ⟨by omega, by omega⟩ HIk.out empty_le2 HLk.out HB.out.size ?_))
      intro v4 w4 ho4 hb4
      rw [HX.out] at ho4
      have HO4 := Lib.hid ho4
      have HB4 := Lib.hid (HB.out.trans hb4)
      clear ho4 hb4 HO HB ck
      go_wp2_with fail
      go_roundw
      case rel => exact ⟨k + 1, by omega, by go_num, HO4.out, HB4.out⟩
      case measure => simp [intOf]; omega
    · obtain rfl : k = q := by omega
      rw [HTN.out] at HO
      obtain ⟨a5, cap5, rfl, hrep⟩ := HO.out.rep
      have HRP := Lib.hid hrep
      clear hrep hlt
      go_wp2_with (go_at_call 66; refine (HEN.out a5 cap5 _ HRP.out).mono ?_; rintro e w6 ⟨v6, rfl, ho6, hb6⟩)
      have HO6 := Lib.hid (ho6.mono HB.out.size)
      have HB6 := Lib.hid (HB.out.trans (hb6.mono HB.out.size))
      clear ho6 hb6 HO HB HRP
      obtain ⟨a7, cap7, rfl, _, _⟩ := HO6.out.form
      go_wp2_with fail
      go_ret
      exact ⟨_, rfl, HO6.out, HB6.out⟩
end Go.Proofs.YtecojpkefobgpaaGreatDoor
