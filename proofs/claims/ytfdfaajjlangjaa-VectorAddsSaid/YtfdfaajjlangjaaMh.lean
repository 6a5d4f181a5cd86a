/-
  Slices of ints that a call owns; the reference's devices of two vectors.
-/
import Derived.Test.YtfdfaajjlangjaaMg
namespace Go.Proofs.Ytfdfaajjlangjaa
open Go.RowKit
set_option linter.unusedVariables false
set_option linter.unusedSimpArgs false

def iD (x : Int) : Value := .int .i64 x
/-- The slice value v owns the ints l. -/
def OwnIn (B : Nat) (w : World) (v : Value) (l : List Int) : Prop := w.ownsRow B 3 1 v l.length (l.map iD)
theorem OwnIn.below {B : Nat} {w w' : World} {v : Value} {l : List Int} (h : OwnIn B w v l) (hb : Below w.heap.size w w') : OwnIn B w' v l := by
  refine ⟨h.1, ?_⟩
  rcases h.2 with h2 | ⟨g, cap, cur, hv, hg, hh, r⟩
  · exact .inl h2
  · exact .inr ⟨g, cap, cur, hv, hg, by rw [hb.block g (Array.getElem?_eq_some_iff.1 hh).1]; exact hh, r⟩
theorem OwnIn.mono {B B' : Nat} {w : World} {v : Value} {l : List Int} (h : OwnIn B w v l) (hB : B' ≤ B) : OwnIn B' w v l := by
  refine ⟨h.1, ?_⟩
  rcases h.2 with h2 | ⟨g, cap, cur, hv, hg, r⟩
  · exact .inl h2
  · exact .inr ⟨g, cap, cur, hv, by omega, r⟩
theorem OwnIn.alloc {B : Nat} {w : World} {v : Value} {l : List Int} (h : OwnIn B w v l) (o : Obj) : OwnIn B (w.alloc o) v l := World.ownsRow.alloc h o
theorem OwnIn.base {B : Nat} {w : World} {v : Value} {l : List Int} (h : OwnIn B w v l) : ∀ k, v.ownBlock = some k → B ≤ k := fun k hk => (World.ownsRow.lt h k hk).1
/-- The form of an owned slice of ints. -/
theorem OwnIn.form {B : Nat} {w : World} {v : Value} {l : List Int} (h : OwnIn B w v l) : ∃ a cap, v = .slice a l.length cap ∧ (l = [] ∨ ∃ g, a = some ⟨g, 0, none⟩ ∧ B ≤ g ∧ g < w.heap.size ∧ ∀ j (h : j < l.length), w.cell? ⟨g, j, none⟩ = some (.int .i64 l[j])) := by
  have hc := @World.ownsRow.cells w B _ 1 v l.length (l.map iD) h
  have hlt := World.ownsRow.lt h
  rcases h.2 with ⟨rfl, h0⟩ | ⟨g, cap, cur, rfl, hg, hh, h3, h4, r⟩
  · have : l = [] := List.eq_nil_of_length_eq_zero h0
    subst this
    exact ⟨none, 0, rfl, .inl rfl⟩
  · refine ⟨some ⟨g, 0, none⟩, cap, rfl, .inr ⟨g, rfl, hg, (hlt g rfl).2, fun j hj => ?_⟩⟩
    have h9 := hc (g := g) rfl j _ (by rw [List.getElem?_map, List.getElem?_eq_getElem hj]; rfl)
    rw [addr_add, Nat.zero_add] at h9
    exact h9
theorem OwnIn.nil (B : Nat) (w : World) : OwnIn B w (.slice none 0 0) [] := World.ownsRow_nil _ _ _ _
theorem OwnIn.built {B : Nat} {w : World} (x : Int) (hB : B ≤ w.heap.size) : OwnIn B (w.alloc (.cells #[.int .i64 x] 3)) (.slice (some ⟨w.heap.size, 0, none⟩) 1 1) [x] :=
  ⟨rfl, .inr ⟨w.heap.size, 1, #[.int .i64 x], rfl, hB, heap_alloc_new w _, Nat.le_refl _, by unfold maxLen; omega, rfl, rfl⟩⟩
theorem intInfoD : (Try.prog.info? 3).map (fun i => (i.zero, i.size, i.bytes)) = some (some (.int .i64 0), 1, 8) := by kernel_rfl
set_option maxRecDepth 100000 in
/-- append(own, x). -/
theorem wpList_appIn1 {ops : Array Oper} {rest : List Oper} {o : Oper} {a : Act} {w : World} {Q : Exit → Act → World → Prop} (hgd : o.guard = none) (s x : Operand)
    (ho : o.op = .call { callee := .builtin .append, args := #[s, x], argTypes := #[48, 48] })
    (B : Nat) (v : Value) (l : List Int) (t : Int) (w0 : World) (g : Nat) (hs : a.eval s = v) (hown : OwnIn B w0 v l) (hx : a.eval x = .slice (some ⟨g, 0, none⟩) 1 1) (hg : g = w0.heap.size)
    (hw : w = w0.alloc (.cells #[.int .i64 t] 3)) (hlen : l.length ≤ 1000000) (hB : B ≤ w0.heap.size)
    (h : ∀ v' w', OwnIn B w' v' (l ++ [t]) → Below B w0 w' → wpList Try.prog ops Q rest (a.put o.dst v') w') : wpList Try.prog ops Q (o :: rest) a w := by
  subst hg
  subst hw
  obtain ⟨i0, hi, hz0, hz1, hz2⟩ := info_parts intInfoD
  have hown1 := hown.alloc (.cells #[.int .i64 t] 3)
  obtain ⟨v', w', hrun, h2, h3, _, h5⟩ := run_append_own_at (P := Try.prog) (w := w0.alloc (.cells #[.int .i64 t] 3)) B 48 o.type 3 i0 (.int .i64 0) 1 8 Try.underlying48 hi hz0 hz1 hz2 rfl (by decide) v l.length (l.map iD) hown1 ⟨w0.heap.size, 0, none⟩ 1 1 [iD t] rfl
    (fun j u hu => by
      match j, hu with
      | 0, hu =>
        injection hu with hu
        subst hu
        rw [addr_add]
        simp [iD])
    (fun u hu => by rw [List.mem_singleton.1 hu]; rfl) (by unfold maxLen; omega) (by omega) (le_alloc hB _)
  refine wpList_plain hgd fun _ hK => ?_
  unfold Oper.wp execOp
  simp only [ho, resolve, invoke, builtin, Sem.run_bind, Sem.run_pure, Result.andThen_ok, List.map_toArray, List.map_cons, List.map_nil, hs, hx, hrun]
  refine hK _ _ (h v' w' (by unfold OwnIn; rw [List.length_append, List.map_append]; exact h2) ?_)
  exact ((Below.refl _ _).alloc hB _).trans ((Below.refl _ _).grown h3 (le_alloc hB _) fun k hk => (World.ownsRow.lt hown1 k hk).1)


/-- The devices of two vectors, in order, each once. -/
def dvV : List Dt → List Dt → List Int
  | [], b => b.map (·.1)
  | a, [] => a.map (·.1)
  | d :: r, e :: s => if d.1 < e.1 then d.1 :: dvV r (e :: s) else if e.1 < d.1 then e.1 :: dvV (d :: r) s else d.1 :: dvV r s
termination_by a b => a.length + b.length
theorem dvV_r (e : Dt) (s : List Dt) : dvV [] (e :: s) = e.1 :: dvV [] s := by unfold dvV; rfl
theorem dvV_l (d : Dt) (r : List Dt) : dvV (d :: r) [] = d.1 :: dvV r [] := by
  cases r with
  | nil => unfold dvV; rfl
  | cons e s => unfold dvV; rfl
theorem dvV_lt {d e : Dt} (r s : List Dt) (h : d.1 < e.1) : dvV (d :: r) (e :: s) = d.1 :: dvV r (e :: s) := by rw [dvV, if_pos h]
theorem dvV_gt {d e : Dt} (r s : List Dt) (h : e.1 < d.1) : dvV (d :: r) (e :: s) = e.1 :: dvV (d :: r) s := by rw [dvV, if_neg (by omega), if_pos h]
theorem dvV_eq {d e : Dt} (r s : List Dt) (h : d.1 = e.1) : dvV (d :: r) (e :: s) = d.1 :: dvV r s := by rw [dvV, if_neg (by omega), if_neg (by omega)]
set_option maxRecDepth 100000 in
set_option maxHeartbeats 1600000 in
theorem rDevices12_any (a : Option Addr) (cap : Nat) (l : List Dt) (a2 : Option Addr) (cap2 : Nat) (m : List Dt) (h1 : okV l) (h2 : okV m) (hn1 : l.length ≤ 600) (hn2 : m.length ≤ 601) (w : World) (hl : RdDt w.heap.size w a l) (hm : RdDt w.heap.size w a2 m) :
    Calls Try.prog 32 #[.slice a l.length cap, .slice a2 m.length cap2] w fun e w' => ∃ v, e = .returned v ∧ OwnIn w.heap.size w' v (dvV l m) ∧ Below w.heap.size w w' := by
  have HR1 := Lib.hid hl
  have HR2 := Lib.hid hm
  have HP1 := Lib.hid (okV_dot h1)
  have HP2 := Lib.hid (okV_dot h2)
  have HB0 := Lib.hid (Below.refl w.heap.size w)
  have HO0 : Hid (OwnIn w.heap.size w (.slice none 0 0) []) := Lib.hid (OwnIn.nil _ _)
  obtain ⟨DV, hDV⟩ := exEqD (dvV l m)
  have HX0 : Hid ([] ++ dvV (l.drop 0) (m.drop 0) = DV) := Lib.hid hDV
  rw [hDV]
  obtain ⟨n, hn⟩ := exEqD l.length
  obtain ⟨q, hq⟩ := exEqD m.length
  have HN := Lib.hid hn
  have HQ := Lib.hid hq
  rw [hn] at hn1 ⊢
  rw [hq] at hn2 ⊢
  clear hl hm h1 h2 hDV hn hq
  go_enter Try.func32, Try.ntmps32
  go_wp2_with fail
  go_loopw [5, 6, 7] (fun v i k wr => ∃ (x y : Nat) (X : List Int), x ≤ n ∧ y ≤ q ∧ i = .int .i64 x ∧ k = .int .i64 y ∧ X ++ dvV (l.drop x) (m.drop y) = DV ∧ X.length ≤ x + y ∧ OwnIn w.heap.size wr v X ∧ Below w.heap.size w wr) (fun _ i k _ => (n - (intOf i).toNat) + (q - (intOf k).toNat))
  case atStart => exact ⟨0, 0, [], by omega, by omega, rfl, rfl, HX0.out, by simp, HO0.out, HB0.out⟩
  case round =>
    clear HX0 HO0 HB0
    obtain ⟨x, y, X, hx, hy, rfl, rfl, hX, hXl, ho, hb⟩ := hrel
    have HB := Lib.hid hb
    have HO := Lib.hid ho
    obtain ⟨av, cv, rfl, _⟩ := ho.form
    have HL : Hid (X.length ≤ 1000000) := Lib.hid (by omega)
    have bx : (0 : Int) ≤ (x : Int) := Int.natCast_nonneg _
    have by_ : (0 : Int) ≤ (y : Int) := Int.natCast_nonneg _
    by_cases hxn : x < n
    · have hxl : x < l.length := by rw [HN.out]; exact hxn
      obtain ⟨b, o, rfl, hbB, hc⟩ := HR1.out.at_ (by omega)
      have d0 := (hb.cell (p := ⟨b, o + x * 2, none⟩) hbB).trans (hc x hxl).1
      have fx : decide ((x : Int) < (n : Int)) = true := decide_eq_true (by omega)
      have bx1 : (x : Int) < (n : Int) := by omega
      have cx := wrapD ((x : Int) + 1) (by omega) (by omega)
      have ps := HP1.out l[x] (List.getElem_mem hxl)
      rw [List.drop_eq_getElem_cons hxl] at hX
      by_cases hyq : y < q
      · have hyl : y < m.length := by rw [HQ.out]; exact hyq
        obtain ⟨b2, o2, rfl, hbB2, hc2⟩ := HR2.out.at_ (by omega)
        have e0 := (hb.cell (p := ⟨b2, o2 + y * 2, none⟩) hbB2).trans (hc2 y hyl).1
        have fy : decide ((y : Int) < (q : Int)) = true := decide_eq_true (by omega)
        have by1 : (y : Int) < (q : Int) := by omega
        have cy := wrapD ((y : Int) + 1) (by omega) (by omega)
        rw [List.drop_eq_getElem_cons hyl] at hX
        rcases Int.lt_trichotomy l[x].1 m[y].1 with hlt | hlt | hlt
        · have HNX : Hid ((X ++ [l[x].1]) ++ dvV (l.drop (x + 1)) (m.drop y) = DV) := Lib.hid (by rw [List.drop_eq_getElem_cons hyl, List.append_assoc, ← hX, dvV_lt _ _ hlt]; rfl)
          have fm : min l[x].1 m[y].1 = l[x].1 := by omega
          have g1 : (m[y].1 == l[x].1) = false := beq_eq_false_iff_ne.2 (by omega)
          generalize l[x].1 = s at *
          generalize m[y].1 = t at *
          clear hX hb ho hc hc2 ps hlt
          go_wp2_with ((with_reducible show wpList _ _ _ (({ dst := some 72, op := _, type := _, pos := _, after := _, guard := _ } : Oper) :: _) _ _); go_must (refine wpList_appIn1 rfl (.tmp 69) (.tmp 71) rfl w.heap.size _ X s wr wr.heap.size rfl HO.out rfl rfl rfl HL.out HB.out.size ?_))
          intro v3 w3 ho3 hb3
          have HO3 := Lib.hid ho3
          have HB3 := Lib.hid (HB.out.trans hb3)
          clear ho3 hb3
          go_wp2_with fail
          go_roundw
          case rel => exact ⟨(x + 1), y, X ++ [s], by omega, by omega, by go_num, by go_num, HNX.out, by rw [List.length_append, List.length_singleton]; omega, HO3.out, HB3.out⟩
          case measure => simp [intOf]; omega
        · have HNX : Hid ((X ++ [l[x].1]) ++ dvV (l.drop (x + 1)) (m.drop (y + 1)) = DV) := Lib.hid (by rw [List.append_assoc, ← hX, dvV_eq _ _ hlt]; rfl)
          have fm : min l[x].1 m[y].1 = l[x].1 := by omega
          have g1 : (m[y].1 == l[x].1) = true := beq_iff_eq.2 hlt.symm
          generalize l[x].1 = s at *
          generalize m[y].1 = t at *
          clear hX hb ho hc hc2 ps hlt
          go_wp2_with ((with_reducible show wpList _ _ _ (({ dst := some 72, op := _, type := _, pos := _, after := _, guard := _ } : Oper) :: _) _ _); go_must (refine wpList_appIn1 rfl (.tmp 69) (.tmp 71) rfl w.heap.size _ X s wr wr.heap.size rfl HO.out rfl rfl rfl HL.out HB.out.size ?_))
          intro v3 w3 ho3 hb3
          have HO3 := Lib.hid ho3
          have HB3 := Lib.hid (HB.out.trans hb3)
          clear ho3 hb3
          go_wp2_with fail
          go_roundw
          case rel => exact ⟨(x + 1), (y + 1), X ++ [s], by omega, by omega, by go_num, by go_num, HNX.out, by rw [List.length_append, List.length_singleton]; omega, HO3.out, HB3.out⟩
          case measure => simp [intOf]; omega
        · have HNX : Hid ((X ++ [m[y].1]) ++ dvV (l.drop x) (m.drop (y + 1)) = DV) := Lib.hid (by rw [List.drop_eq_getElem_cons hxl, List.append_assoc, ← hX, dvV_gt _ _ hlt]; rfl)
          have fm : (if m[y].1 < l[x].1 then m[y].1 else l[x].1) = m[y].1 := if_pos hlt
          have g1 : (l[x].1 == m[y].1) = false := beq_eq_false_iff_ne.2 (by omega)
          generalize l[x].1 = s at *
          generalize m[y].1 = t at *
          clear hX hb ho hc hc2 ps hlt
          go_wp2_with ((with_reducible show wpList _ _ _ (({ dst := some 72, op := _, type := _, pos := _, after := _, guard := _ } : Oper) :: _) _ _); go_must (refine wpList_appIn1 rfl (.tmp 69) (.tmp 71) rfl w.heap.size _ X t wr wr.heap.size rfl HO.out rfl rfl rfl HL.out HB.out.size ?_))
          intro v3 w3 ho3 hb3
          have HO3 := Lib.hid ho3
          have HB3 := Lib.hid (HB.out.trans hb3)
          clear ho3 hb3
          go_wp2_with fail
          go_roundw
          case rel => exact ⟨x, (y + 1), X ++ [t], by omega, by omega, by go_num, by go_num, HNX.out, by rw [List.length_append, List.length_singleton]; omega, HO3.out, HB3.out⟩
          case measure => simp [intOf]; omega
      · have fy : decide ((y : Int) < (q : Int)) = false := decide_eq_false (by omega)
        have HNX : Hid ((X ++ [l[x].1]) ++ dvV (l.drop (x + 1)) (m.drop y) = DV) := Lib.hid (by
          have hmd : m.drop y = [] := List.drop_eq_nil_of_le (by rw [HQ.out]; omega)
          rw [hmd] at hX ⊢
          rw [List.append_assoc, ← hX, dvV_l]; rfl)
        generalize l[x].1 = s at *
        clear hX hb ho hc ps
        go_wp2_with ((with_reducible show wpList _ _ _ (({ dst := some 72, op := _, type := _, pos := _, after := _, guard := _ } : Oper) :: _) _ _); go_must (refine wpList_appIn1 rfl (.tmp 69) (.tmp 71) rfl w.heap.size _ X s wr wr.heap.size rfl HO.out rfl rfl rfl HL.out HB.out.size ?_))
        intro v3 w3 ho3 hb3
        have HO3 := Lib.hid ho3
        have HB3 := Lib.hid (HB.out.trans hb3)
        clear ho3 hb3
        go_wp2_with fail
        go_roundw
        case rel => exact ⟨(x + 1), y, X ++ [s], by omega, by omega, by go_num, by go_num, HNX.out, by rw [List.length_append, List.length_singleton]; omega, HO3.out, HB3.out⟩
        case measure => simp [intOf]; omega
    · have fx : decide ((x : Int) < (n : Int)) = false := decide_eq_false (by omega)
      have hxd : l.drop x = [] := List.drop_eq_nil_of_le (by rw [HN.out]; omega)
      by_cases hyq : y < q
      · have hyl : y < m.length := by rw [HQ.out]; exact hyq
        obtain ⟨b2, o2, rfl, hbB2, hc2⟩ := HR2.out.at_ (by omega)
        have e0 := (hb.cell (p := ⟨b2, o2 + y * 2, none⟩) hbB2).trans (hc2 y hyl).1
        have fy : decide ((y : Int) < (q : Int)) = true := decide_eq_true (by omega)
        have by1 : (y : Int) < (q : Int) := by omega
        have cy := wrapD ((y : Int) + 1) (by omega) (by omega)
        have pt := HP2.out m[y] (List.getElem_mem hyl)
        rw [List.drop_eq_getElem_cons hyl] at hX
        have HNX : Hid ((X ++ [m[y].1]) ++ dvV (l.drop x) (m.drop (y + 1)) = DV) := Lib.hid (by
          rw [hxd] at hX ⊢
          rw [List.append_assoc, ← hX, dvV_r]; rfl)
        have fm : (if m[y].1 < 512 then m[y].1 else 512) = m[y].1 := if_pos pt.2.1
        generalize m[y].1 = t at *
        clear hX hb ho hc2 pt
        go_wp2_with ((with_reducible show wpList _ _ _ (({ dst := some 72, op := _, type := _, pos := _, after := _, guard := _ } : Oper) :: _) _ _); go_must (refine wpList_appIn1 rfl (.tmp 69) (.tmp 71) rfl w.heap.size _ X t wr wr.heap.size rfl HO.out rfl rfl rfl HL.out HB.out.size ?_))
        intro v3 w3 ho3 hb3
        have HO3 := Lib.hid ho3
        have HB3 := Lib.hid (HB.out.trans hb3)
        clear ho3 hb3
        go_wp2_with fail
        go_roundw
        case rel => exact ⟨x, (y + 1), X ++ [t], by omega, by omega, by go_num, by go_num, HNX.out, by rw [List.length_append, List.length_singleton]; omega, HO3.out, HB3.out⟩
        case measure => simp [intOf]; omega
      · have fy : decide ((y : Int) < (q : Int)) = false := decide_eq_false (by omega)
        have HE : Hid (X = DV) := Lib.hid (by
          rw [hxd, List.drop_eq_nil_of_le (by rw [HQ.out]; omega)] at hX
          rw [← hX]
          unfold dvV
          simp)
        clear hX hb ho
        go_wp2_with fail
        go_ret
        exact ⟨_, rfl, by rw [← HE.out]; exact HO.out, HB.out⟩
end Go.Proofs.Ytfdfaajjlangjaa
