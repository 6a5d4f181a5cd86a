/-
  Package vector: two vectors merged; the functions that take one of two numbers.
-/
import Derived.Test.YtfdfaajjlangjaaMo
import Derived.Test.YtfdfaajjlangjaaMj
import Derived.Test.YtfdfaajjlangjaaMp
import Derived.Laws.ResultCell
namespace Go.Proofs.Ytfdfaajjlangjaa
open Go.RowKit Go.Shelf
set_option linter.unusedVariables false
set_option linter.unusedSimpArgs false
attribute [local go_sem] Oper.semAt_some

theorem OwnDt.kept {B : Nat} {W W' : World} {v : Value} {l : List Dt} {row : Option Nat} (h : OwnDt B W v l) (hg : W.grownBy W' row) (hr : ∀ r, row = some r → ∃ o : Obj, W.heap[r]? = some o ∧ o.isCells = false) : OwnDt B W' v l := by
  refine ⟨h.1, ?_⟩
  rcases h.2 with h2 | ⟨g, cap, cur, hv, hB, hh, r⟩
  · exact .inl h2
  · refine .inr ⟨g, cap, cur, hv, hB, ?_, r⟩
    rw [hg.block g (Array.getElem?_eq_some_iff.1 hh).1 (fun e => ?_)]
    · exact hh
    · obtain ⟨o, ho, hc⟩ := hr g e.symm
      rw [hh] at ho; cases ho; cases hc
theorem OwnDt.setCell {B C i : Nat} {W : World} {v : Value} {l : List Dt} (h : OwnDt B W v l) (hC : C < B) (u : Value) : OwnDt B (W.setCell ⟨C, i, none⟩ u) v l := by
  refine ⟨h.1, ?_⟩
  rcases h.2 with h2 | ⟨g, cap, cur, hv, hB, hh, r⟩
  · exact .inl h2
  · exact .inr ⟨g, cap, cur, hv, hB, (heap_setCell_other W ⟨C, i, none⟩ g u (fun e => by simp only at e; omega)).trans hh, r⟩
theorem OwnDt.cells {B : Nat} {W : World} {v : Value} {l : List Dt} (h : OwnDt B W v l) : ∀ (j : Nat) (o : Obj), v.ownBlock = some j → W.heap[j]? = some o → o.isCells = true := by
  intro j o hj ho
  rcases h.2 with ⟨rfl, _⟩ | ⟨g, cap, cur, rfl, hB, hh, r⟩
  · cases hj
  · cases hj
    rw [hh] at ho; cases ho; rfl
theorem CB.kept {W W' : World} {g : Nat} {T : TypeId} {cs : Array Value} {row : Option Nat} (h : CB W g T cs) (hg : W.grownBy W' row) (hr : ∀ r, row = some r → ∃ o : Obj, W.heap[r]? = some o ∧ o.isCells = false) : CB W' g T cs := by
  refine (hg.block g h.lt (fun e => ?_)).trans h
  obtain ⟨o, ho, hc⟩ := hr g e.symm
  have h2 : W.heap[g]? = _ := h
  rw [h2] at ho; cases ho; cases hc
/-- append(own, one) within a round. -/
theorem wpListIn_appDt1 {F : Fence} {n : Nat} {ops : Array Oper} {rest : List Oper} {o : Oper} {a : Act} {w : World} {Q : Exit → Act → World → Prop} (hgd : o.guard = none) (s x : Operand)
    (ho : o.op = .call { callee := .builtin .append, args := #[s, x], argTypes := #[22, 22] })
    (B : Nat) (v : Value) (l : List Dt) (t : Dt) (w0 : World) (g : Nat) (hs : a.eval s = v) (hown : OwnDt B w0 v l) (hx : a.eval x = .slice (some ⟨g, 0, none⟩) 1 1) (hg : g = w0.heap.size)
    (hw : w = w0.alloc (.cells #[.int .i64 t.1, .int .i64 t.2] 24)) (hlen : l.length ≤ 1000000) (hB : B ≤ w0.heap.size)
    (h : ∀ v' w', OwnDt B w' v' (l ++ [t]) → Below B w0 w' → KeepsOthers w0 w' → wpListIn F n Try.prog ops Q rest (a.put o.dst v') w') : wpListIn F n Try.prog ops Q (o :: rest) a w := by
  subst hg
  subst hw
  have hown1 := hown.alloc (.cells #[.int .i64 t.1, .int .i64 t.2] 24)
  have hr : RdDt (w0.alloc (.cells #[.int .i64 t.1, .int .i64 t.2] 24)).heap.size (w0.alloc (.cells #[.int .i64 t.1, .int .i64 t.2] 24)) (some ⟨w0.heap.size, 0, none⟩) [t] := by rw [World.size_alloc]; exact RdDt.one t
  obtain ⟨i0, hi, hz0, hz1, hz2⟩ := info_parts dotInfo
  obtain ⟨v', w', hrun, h2, h3, _, h5⟩ := run_append_own_at (P := Try.prog) (w := w0.alloc (.cells #[.int .i64 t.1, .int .i64 t.2] 24)) B 22 o.type 24 i0 (.agg #[.int .i64 0, .int .i64 0]) 2 16 Try.underlying22 hi hz0 hz1 hz2 rfl (by decide) v l.length (dts l) hown1 ⟨w0.heap.size, 0, none⟩ 1 1 (dts [t]) (dts_len [t]) hr.news (dts_one [t]) (by unfold maxLen; omega) (by omega) (le_alloc hB _)
  refine wpListIn_plain hgd fun K hK' => ?_
  unfold Oper.wpIn
  refine ⟨?_, ?_⟩
  · simp [Oper.about, ho, resolve, Target.leads, Sem.run_pure]
  · rw [Oper.semAt_plain F _ _ (by rw [ho]; intro c hc'; cases hc')]
    unfold execOp
    simp only [ho, resolve, invoke, builtin, Sem.run_bind, Sem.run_pure, Result.andThen_ok, List.map_toArray, List.map_cons, List.map_nil, hs, hx, hrun]
    refine hK' _ _ (h v' w' (by unfold OwnDt; rw [List.length_append, dts_app]; exact h2) ?_ ?_)
    · have hG : Grew (w0.alloc (.cells #[.int .i64 t.1, .int .i64 t.2] 24)) v w' v' := ⟨h3, fun k hk => by
        rcases h5 with h5 | h5
        · exact .inl (h5 ▸ hk)
        · rw [h5] at hk; cases hk; exact .inr (Nat.le_refl _)⟩
      exact ((Below.refl _ _).alloc hB _).trans (hG.below hown.base (le_alloc hB _))
    · exact (KeepsOthers.alloc w0 _).trans (KeepsOthers.of_grownBy h3 (OwnDt.cells hown1))

theorem mrg_und : Try.prog.underlying 45 = some (.struct (Try.prog.fieldsOf 45)) := by kernel_rfl
theorem greater_any (w : World) : Calls Try.prog 29 #[] w fun e w' => e = .returned (.agg #[.func (.func 36) #[] #[]]) ∧ Below w.heap.size w w' := by
  have HB := Lib.hid ((Below.refl w.heap.size w).alloc (Nat.le_refl _) (.cells #[.func (.func 36) #[] #[]] 45))
  go_enter Try.func29, Try.ntmps29
  go_wp2_with fail
  refine bodyPost_ret (v := .agg #[.func (.func 36) #[] #[]]) ?_ rfl ⟨rfl, HB.out⟩
  exact results_cell_row rfl _ _ w.heap.size 45 _ (0, 0) _ rfl (CB.new w _ _) mrg_und rfl (by kernel_rfl)
theorem lesser_any (w : World) : Calls Try.prog 33 #[] w fun e w' => e = .returned (.agg #[.func (.func 38) #[] #[]]) ∧ Below w.heap.size w w' := by
  have HB := Lib.hid ((Below.refl w.heap.size w).alloc (Nat.le_refl _) (.cells #[.func (.func 38) #[] #[]] 45))
  go_enter Try.func33, Try.ntmps33
  go_wp2_with fail
  refine bodyPost_ret (v := .agg #[.func (.func 38) #[] #[]]) ?_ rfl ⟨rfl, HB.out⟩
  exact results_cell_row rfl _ _ w.heap.size 45 _ (0, 0) _ rfl (CB.new w _ _) mrg_und rfl (by kernel_rfl)
theorem greater1_any (x y : Int) (w : World) : Calls Try.prog 36 #[.int .i64 x, .int .i64 y] w fun e w' => e = .returned (.int .i64 (max x y)) ∧ w' = w := by
  have f1 : (if x < y then y else x) = max x y := by omega
  go_enter Try.func36, Try.ntmps36
  go_wp2_with fail
  go_ret
  exact ⟨rfl, rfl⟩
theorem lesser1_any (x y : Int) (w : World) : Calls Try.prog 38 #[.int .i64 x, .int .i64 y] w fun e w' => e = .returned (.int .i64 (min x y)) ∧ w' = w := by
  have f1 : (if y < x then y else x) = min x y := by omega
  go_enter Try.func38, Try.ntmps38
  go_wp2_with fail
  go_ret
  exact ⟨rfl, rfl⟩
theorem results_cell1 {P : Program} {fn : Func} {p : Tmp} {ty : TypeId} (h : fn.results = #[.cell p ty]) (tmps : Array Value) (w : World) (g : Nat) (v : Value) (hp : tmps.getD p undef = .pointer (some ⟨g, 0, none⟩)) (hv : (loadVar ty ⟨g, 0, none⟩).run P w = .ok v w) :
    (results fn tmps).run P w = .ok v w := by
  have hp' : tmps[p]?.getD undef = .pointer (some ⟨g, 0, none⟩) := by simpa using hp
  simp [results, h, hp', asAddr, hv]
theorem load_dts (w : World) (g : Nat) (v : Value) (h : w.cell? ⟨g, 0, none⟩ = some v) : (loadVar 22 ⟨g, 0, none⟩).run Try.prog w = .ok v w := by
  go_simp
theorem below_putD {D k : Nat} {W : World} {o o' : Obj} (h : D ≤ k) (hk : W.heap[k]? = some o') : Below D W (W.putObj k o) :=
  ⟨rfl, rfl, rfl, by have := (grownBy_putObj' W k o).size; exact this, fun j hj => World.putObj_heap_other (by omega)⟩
/-- What the rounds of a merge keep. -/
structure MgI (M : Nat) (fv : Value) (w : World) (X : List Dt) (W : World) : Prop where
  f : CB W M 45 #[fv]
  v : ∃ v, CB W (M + 1) 22 #[v] ∧ OwnDt (M + 2) W v X
  b : Below M w W
  s : M + 2 ≤ W.heap.size
theorem MgI.own {M D : Nat} {fv : Value} {w : World} (hM : M ≤ D) (X : List Int → List Dt) : OwnFrom D (fun pre W => MgI M fv w (X pre) W) := by
  intro pre W W' row h hg hr
  obtain ⟨v, hv, ho⟩ := h.v
  exact ⟨h.f.kept hg (fun r e => (hr r e).2), ⟨v, hv.kept hg (fun r e => (hr r e).2), ho.kept hg (fun r e => (hr r e).2)⟩, h.b.grown hg (Nat.le_trans (by omega) h.s) (fun r e => Nat.le_trans hM (hr r e).1), Nat.le_trans h.s hg.size⟩
set_option maxRecDepth 100000 in
set_option maxHeartbeats 4000000 in
theorem merge_gr (a : Option Addr) (cap : Nat) (l : List Dt) (a2 : Option Addr) (cap2 : Nat) (m : List Dt) (h1 : okV l) (h2 : okV m) (hn1 : l.length ≤ 600) (hn2 : m.length ≤ 601) (hp : l.length ≤ cap) (hp2 : m.length ≤ cap2) (w : World) (hl : RdDt w.heap.size w a l) (hm : RdDt w.heap.size w a2 m) :
    Calls Try.prog 30 #[.agg #[.func (.func 36) #[] #[]], .slice a l.length cap, .slice a2 m.length cap2] w fun e w' => ∃ v, e = .returned v ∧ OwnDt w.heap.size w' v (mkV (fun k => max (atV l k) (atV m k)) (dvV l m)) ∧ Below w.heap.size w w' := by
  have HSEQ := Lib.hid (fun Ba Bb W (hca : W.cell? ⟨Ba, 0, none⟩ = some (.slice a l.length cap)) (hcb : W.cell? ⟨Bb, 0, none⟩ = some (.slice a2 m.length cap2)) hla hlb (hB : Below w.heap.size w W) => pairs1_stops w.heap.size Ba Bb a cap l a2 cap2 m h1 h2 W hca hcb hla hlb hB.size (hl.below hB) (hm.below hB) hp hp2)
  have HLN : Hid ((dvV l m).length ≤ 1201) := Lib.hid (Nat.le_trans (dvV_len l m) (by omega))
  have HAPP := Lib.hid (fun pre k => mkV_app (fun k => max (atV l k) (atV m k)) pre k)
  have HLE := Lib.hid (fun pre => mkV_len (fun k => max (atV l k) (atV m k)) pre)
  obtain ⟨MK, hMK⟩ := exEqD (mkV (fun k => max (atV l k) (atV m k)))
  rw [hMK] at HAPP HLE ⊢
  have HM0 : Hid (MK [] = []) := Lib.hid (by rw [← hMK]; rfl)
  obtain ⟨EN, hEN⟩ := exEqD (prE l m)
  have HEN : Hid (∀ k, EN k = #[.int .i64 k, .agg #[.int .i64 (atV l k), .int .i64 (atV m k)]]) := Lib.hid (fun k => by rw [← hEN]; rfl)
  obtain ⟨GA, hGA⟩ := exEqD (atV l)
  obtain ⟨GB, hGB⟩ := exEqD (atV m)
  rw [hEN] at HSEQ
  rw [hGA, hGB] at HAPP HEN
  obtain ⟨DV, hDV⟩ := exEqD (dvV l m)
  rw [hDV] at HSEQ HLN ⊢
  obtain ⟨n, hn⟩ := exEqD l.length
  obtain ⟨q, hq⟩ := exEqD m.length
  rw [hn, hq] at HSEQ
  rw [hn, hq]
  clear hl hm hn hq hDV hGA hGB hEN hMK h1 h2 hn1 hn2 hp hp2
  refine (callsIn_wide (n := 5)).1 ?_
  refine callsIn_of_wp_marks Try.func30 rfl trivial ?_ rfl
  simp only [Try.ntmps30, List.size_toArray, List.length_cons, List.length_nil, Nat.reduceAdd, Nat.reduceSub, Array.replicate_succ, Array.replicate_zero, List.push_toArray, List.append_toArray, List.nil_append, List.cons_append]
  gi_wp2_with (refine ⟨trivial, ?_⟩; gi_at_call 37; refine (callsIn_wide.2 (pairs_any _ _ _ _ _ _ _)).mono ?_; rintro e w' ⟨rfl, rfl⟩)
  obtain ⟨M, hM⟩ := exEqD w.heap.size
  obtain ⟨W0, hW0⟩ : ∃ W0, W0 = ((((w.alloc (.cells #[.func (.func 36) #[] #[]] 45)).alloc (.cells #[.slice none 0 0] 22)).alloc (.cells #[.slice a n cap] 22)).alloc (.cells #[.slice a2 q cap2] 22)) := ⟨_, rfl⟩
  rw [← hW0]
  have hsz : W0.heap.size = M + 1 + 1 + 1 + 1 := by rw [hW0, ← hM]; simp
  have HB0 : Hid (Below M w W0) := Lib.hid (by
    rw [hW0, ← hM]
    exact ((((Below.refl _ w).alloc (Nat.le_refl _) _).alloc (by simp) _).alloc (by simp; omega) _).alloc (by simp; omega) _)
  have hC0 : CB W0 M 45 #[.func (.func 36) #[] #[]] := by rw [hW0, ← hM]; exact (((CB.new w _ _).alloc _).alloc _).alloc _
  have hC1 : CB W0 (M + 1) 22 #[.slice none 0 0] := by rw [hW0]; exact ((CB.at _ _ (by simp [hM])).alloc _).alloc _
  have hC2 : CB W0 (M + 1 + 1) 22 #[.slice a n cap] := by rw [hW0]; exact (CB.at _ _ (by simp [hM])).alloc _
  have hC3 : CB W0 (M + 1 + 1 + 1) 22 #[.slice a2 q cap2] := by rw [hW0]; exact CB.at _ _ (by simp [hM])
  clear hW0
  rw [hM] at HSEQ ⊢
  have hI0 : MgI M (.func (.func 36) #[] #[]) w (MK []) W0 := ⟨hC0, ⟨_, hC1, by rw [HM0.out]; exact OwnDt.nil _ _⟩, HB0.out, by omega⟩
  refine wpIn_rangeFunc_ownH rfl (by decide) (gf := 40) (lb := #[.pointer (some ⟨M + 1 + 1, 0, none⟩), .pointer (some ⟨M + 1 + 1 + 1, 0, none⟩)]) rfl trivial (enters_of Try.func40 (by kernel_rfl) rfl)
    (HSEQ.out (M + 1 + 1) (M + 1 + 1 + 1) W0 (hC2.cell 0) (hC3.cell 0) (by omega) (by omega) HB0.out) (fun h k => belowK_t h k) (belowK_b (by omega)) (Below.refl _ _) (fun k => by rw [HEN.out]; rfl)
    (fun pre W => MgI M (.func (.func 36) #[] #[]) w (MK pre) W) (fun _ _ _ => False) (MgI.own (by omega) MK) (fun _ _ _ _ _ hs _ _ => hs) hI0
    (fun k a' W => ∃ g8, CB W g8 55 #[.int .i64 (GA k), .int .i64 (GB k)] ∧ a' = { tmps := #[.agg #[.func (.func 36) #[] #[]], .slice a n cap, .slice a2 q cap2, .pointer (some ⟨M, 0, none⟩), undef, undef, .pointer (some ⟨M + 1, 0, none⟩), .int .i64 k, .pointer (some ⟨g8, 0, none⟩), undef, .slice a n cap, .slice a2 q cap2, .func (.func 40) #[] #[.pointer (some ⟨M + 1 + 1, 0, none⟩), .pointer (some ⟨M + 1 + 1 + 1, 0, none⟩)], .int .i64 k, .agg #[.int .i64 (GA k), .int .i64 (GB k)], undef, undef, undef, undef, undef, undef, undef, undef, undef, undef, undef, undef, undef, undef, undef, undef], defers := [] })
    (fun k a' _ A B row h hg hr => by obtain ⟨g8, h8, e8⟩ := h; exact ⟨g8, h8.kept hg (fun r e => (hr r e).2), e8⟩) ?assign ?body ?done ?stop
  case assign =>
    intro l' pre k W K hI hK
    rw [HEN.out]
    have HK := Lib.hid hK
    clear hK
    gi_wp2
    exact HK.out _ _ ((KeepsOthers.alloc W _).from _) ((Below.refl _ _).alloc (Nat.le_trans (by omega) hI.s) _) ((MgI.own (D := M) (Nat.le_refl _) MK).alloc _ hI) ⟨W.heap.size, CB.new W _ _, rfl⟩
  case body =>
    rintro l' pre k a' W hl' - hI ⟨g8, h8, rfl⟩ hlen
    obtain ⟨v, hv, ho⟩ := hI.v
    obtain ⟨av, cv, rfl, _⟩ := ho.form
    have c0 := hI.f.cell 0
    have c1 := h8.cell 0
    have c2 := h8.cell 1
    have c3 := hv.cell 0
    have f3 := hv.frozen 0
    have HO := Lib.hid ho
    have HI := Lib.hid hI
    have HV := Lib.hid hv
    have HAP := Lib.hid (HAPP.out pre k)
    have HLEN : Hid ((MK pre).length ≤ 1000000) := Lib.hid (Nat.le_trans (HLE.out pre) (by have := HLN.out; omega))
    have HW : Hid (M + 2 ≤ W.heap.size) := Lib.hid hI.s
    have KG := Lib.hid (fun W => greater1_any (GA k) (GB k) W)
    clear ho hI hv h8 hlen
    generalize GA k = x at *
    generalize GB k = y at *
    obtain ⟨z, hz⟩ := exEqD (max x y)
    rw [hz] at KG HAP
    clear hz
    by_cases hp : 0 < z
    · have f9 : decide (0 < z) = true := decide_eq_true hp
      have HAP2 : Hid (MK (pre ++ [k]) = MK pre ++ [(k, z)]) := Lib.hid (by rw [HAP.out, if_pos hp])
      clear HAP hp
      gi_wp2_with (first
        | (refine ⟨trivial, ?_⟩; gi_at_call 36; refine (CallsIn.inRound l' (callsIn_wide.2 (KG.out _))).mono ?_; rintro e wo ⟨rfl, hwo⟩; rw [hwo]; clear hwo wo)
        | ((with_reducible show wpListIn _ _ _ _ _ (({ dst := some 29, op := _, type := _, pos := _, after := _, guard := _ } : Oper) :: _) _ _); go_must (refine wpListIn_appDt1 rfl (.tmp 24) (.tmp 28) rfl (M + 2) (.slice av (MK pre).length cv) (MK pre) (k, z) W W.heap.size rfl HO.out rfl rfl rfl HLEN.out HW.out ?_)))
      intro v3 w3 ho3 hb3 hk3
      obtain ⟨av3, cv3, rfl, _⟩ := ho3.form
      simp only [List.length_append, List.length_cons, List.length_nil, Nat.zero_add] at ho3
      have HO3 := Lib.hid ho3
      have HB3 := Lib.hid hb3
      have HK3 := Lib.hid hk3
      have HV3 := Lib.hid (HV.out.below hb3 (by omega))
      have c4 := HV3.out.cell 0
      have f4 := HV3.out.frozen 0
      clear ho3 hb3 hk3 c0 c1 c2 c3 f3
      gi_wp2
      have HKP := Lib.hid (fun u => (HB3.out.mono (Nat.le_add_right M 2)).setCell (p := ⟨M + 1, 0, none⟩) (Nat.le_succ M) u)
      refine ⟨(HK3.out.trans (KeepsOthers.setCell _ _ _)).from _, HKP.out _, ?_⟩
      show MgI M _ w (MK (pre ++ [k])) _
      rw [HAP2.out]
      exact ⟨(HI.out.f.below HB3.out (by omega)).setO (by omega) 0 _, ⟨_, HV3.out.set 0 _, HO3.out.setCell (Nat.lt_succ_self _) _⟩, HI.out.b.trans (HKP.out _), Nat.le_trans HI.out.s (HKP.out _).size⟩
    · have f9 : decide (0 < z) = false := decide_eq_false hp
      have HAP2 : Hid (MK (pre ++ [k]) = MK pre) := Lib.hid (by rw [HAP.out, if_neg hp])
      clear HAP hp
      gi_wp2_with (refine ⟨trivial, ?_⟩; gi_at_call 36; refine (CallsIn.inRound l' (callsIn_wide.2 (KG.out _))).mono ?_; rintro e wo ⟨rfl, hwo⟩; rw [hwo]; clear hwo wo)
      refine ⟨KeepsFrom.refl _ _, Below.refl _ _, ?_⟩
      show MgI M _ w (MK (pre ++ [k])) _
      rw [HAP2.out]
      exact HI.out
  case done =>
    rintro D xs W hD rfl hI hK
    obtain ⟨v, hv, ho⟩ := hI.v
    obtain ⟨av, cv, rfl, _⟩ := ho.form
    have c3 := hv.cell 0
    have f3 := hv.frozen 0
    have HO := Lib.hid ho
    have HI := Lib.hid hI
    have HV := Lib.hid hv
    have HK := Lib.hid hK
    clear ho hI hv hK
    gi_wp2
    have hne : D ≠ M + 1 := by omega
    have HK2 : Hid ((W.setCell ⟨M + 1, 0, none⟩ (.slice av (MK xs).length cv)).heap[D]? = some (.deferred (some []))) := Lib.hid ((heap_setCell_other W ⟨M + 1, 0, none⟩ D _ hne).trans HK.out)
    have HV2 := Lib.hid (HV.out.set 0 (.slice av (MK xs).length cv))
    have HO2 := Lib.hid (HO.out.setCell (C := M + 1) (i := 0) (Nat.lt_succ_self _) (.slice av (MK xs).length cv))
    have HB2 := Lib.hid (HI.out.b.trans ((Below.refl _ _).setCell (p := ⟨M + 1, 0, none⟩) (Nat.le_succ M) (.slice av (MK xs).length cv)))
    obtain ⟨W2, hW2⟩ : ∃ W2, W.setCell ⟨M + 1, 0, none⟩ (.slice av (MK xs).length cv) = W2 := ⟨_, rfl⟩
    rw [hW2] at HK2 HV2 HO2 HB2 ⊢
    clear hW2 c3 f3
    have HG2 := Lib.hid (grownBy_putObj' W2 D (.deferred none))
    have HR2 : Hid (∀ r, some D = some r → ∃ o : Obj, W2.heap[r]? = some o ∧ o.isCells = false) := Lib.hid (fun r e => by cases e; exact ⟨_, HK2.out, rfl⟩)
    have HV3 := Lib.hid (HV2.out.kept HG2.out HR2.out)
    refine ⟨by simp, .inl ⟨_, _, rfl, run_takeDeferred HK2.out, ?_⟩⟩
    refine ⟨_, results_cell1 rfl _ _ (M + 1) (.slice av (MK xs).length cv) rfl (load_dts _ _ _ (HV3.out.cell 0)), ⟨_, rfl, ?_, ?_⟩⟩
    · rw [hM]; exact (HO2.out.kept HG2.out HR2.out).mono (by omega)
    · rw [hM]; exact HB2.out.trans (below_putD (by omega) HK2.out)
  case stop =>
    rintro D c pre W _ _ h _
    exact h.elim
set_option maxRecDepth 100000 in
set_option maxHeartbeats 4000000 in
theorem merge_ls (a : Option Addr) (cap : Nat) (l : List Dt) (a2 : Option Addr) (cap2 : Nat) (m : List Dt) (h1 : okV l) (h2 : okV m) (hn1 : l.length ≤ 600) (hn2 : m.length ≤ 601) (hp : l.length ≤ cap) (hp2 : m.length ≤ cap2) (w : World) (hl : RdDt w.heap.size w a l) (hm : RdDt w.heap.size w a2 m) :
    Calls Try.prog 30 #[.agg #[.func (.func 38) #[] #[]], .slice a l.length cap, .slice a2 m.length cap2] w fun e w' => ∃ v, e = .returned v ∧ OwnDt w.heap.size w' v (mkV (fun k => min (atV l k) (atV m k)) (dvV l m)) ∧ Below w.heap.size w w' := by
  have HSEQ := Lib.hid (fun Ba Bb W (hca : W.cell? ⟨Ba, 0, none⟩ = some (.slice a l.length cap)) (hcb : W.cell? ⟨Bb, 0, none⟩ = some (.slice a2 m.length cap2)) hla hlb (hB : Below w.heap.size w W) => pairs1_stops w.heap.size Ba Bb a cap l a2 cap2 m h1 h2 W hca hcb hla hlb hB.size (hl.below hB) (hm.below hB) hp hp2)
  have HLN : Hid ((dvV l m).length ≤ 1201) := Lib.hid (Nat.le_trans (dvV_len l m) (by omega))
  have HAPP := Lib.hid (fun pre k => mkV_app (fun k => min (atV l k) (atV m k)) pre k)
  have HLE := Lib.hid (fun pre => mkV_len (fun k => min (atV l k) (atV m k)) pre)
  obtain ⟨MK, hMK⟩ := exEqD (mkV (fun k => min (atV l k) (atV m k)))
  rw [hMK] at HAPP HLE ⊢
  have HM0 : Hid (MK [] = []) := Lib.hid (by rw [← hMK]; rfl)
  obtain ⟨EN, hEN⟩ := exEqD (prE l m)
  have HEN : Hid (∀ k, EN k = #[.int .i64 k, .agg #[.int .i64 (atV l k), .int .i64 (atV m k)]]) := Lib.hid (fun k => by rw [← hEN]; rfl)
  obtain ⟨GA, hGA⟩ := exEqD (atV l)
  obtain ⟨GB, hGB⟩ := exEqD (atV m)
  rw [hEN] at HSEQ
  rw [hGA, hGB] at HAPP HEN
  obtain ⟨DV, hDV⟩ := exEqD (dvV l m)
  rw [hDV] at HSEQ HLN ⊢
  obtain ⟨n, hn⟩ := exEqD l.length
  obtain ⟨q, hq⟩ := exEqD m.length
  rw [hn, hq] at HSEQ
  rw [hn, hq]
  clear hl hm hn hq hDV hGA hGB hEN hMK h1 h2 hn1 hn2 hp hp2
  refine (callsIn_wide (n := 5)).1 ?_
  refine callsIn_of_wp_marks Try.func30 rfl trivial ?_ rfl
  simp only [Try.ntmps30, List.size_toArray, List.length_cons, List.length_nil, Nat.reduceAdd, Nat.reduceSub, Array.replicate_succ, Array.replicate_zero, List.push_toArray, List.append_toArray, List.nil_append, List.cons_append]
  gi_wp2_with (refine ⟨trivial, ?_⟩; gi_at_call 37; refine (callsIn_wide.2 (pairs_any _ _ _ _ _ _ _)).mono ?_; rintro e w' ⟨rfl, rfl⟩)
  obtain ⟨M, hM⟩ := exEqD w.heap.size
  obtain ⟨W0, hW0⟩ : ∃ W0, W0 = ((((w.alloc (.cells #[.func (.func 38) #[] #[]] 45)).alloc (.cells #[.slice none 0 0] 22)).alloc (.cells #[.slice a n cap] 22)).alloc (.cells #[.slice a2 q cap2] 22)) := ⟨_, rfl⟩
  rw [← hW0]
  have hsz : W0.heap.size = M + 1 + 1 + 1 + 1 := by rw [hW0, ← hM]; simp
  have HB0 : Hid (Below M w W0) := Lib.hid (by
    rw [hW0, ← hM]
    exact ((((Below.refl _ w).alloc (Nat.le_refl _) _).alloc (by simp) _).alloc (by simp; omega) _).alloc (by simp; omega) _)
  have hC0 : CB W0 M 45 #[.func (.func 38) #[] #[]] := by rw [hW0, ← hM]; exact (((CB.new w _ _).alloc _).alloc _).alloc _
  have hC1 : CB W0 (M + 1) 22 #[.slice none 0 0] := by rw [hW0]; exact ((CB.at _ _ (by simp [hM])).alloc _).alloc _
  have hC2 : CB W0 (M + 1 + 1) 22 #[.slice a n cap] := by rw [hW0]; exact (CB.at _ _ (by simp [hM])).alloc _
  have hC3 : CB W0 (M + 1 + 1 + 1) 22 #[.slice a2 q cap2] := by rw [hW0]; exact CB.at _ _ (by simp [hM])
  clear hW0
  rw [hM] at HSEQ ⊢
  have hI0 : MgI M (.func (.func 38) #[] #[]) w (MK []) W0 := ⟨hC0, ⟨_, hC1, by rw [HM0.out]; exact OwnDt.nil _ _⟩, HB0.out, by omega⟩
  refine wpIn_rangeFunc_ownH rfl (by decide) (gf := 40) (lb := #[.pointer (some ⟨M + 1 + 1, 0, none⟩), .pointer (some ⟨M + 1 + 1 + 1, 0, none⟩)]) rfl trivial (enters_of Try.func40 (by kernel_rfl) rfl)
    (HSEQ.out (M + 1 + 1) (M + 1 + 1 + 1) W0 (hC2.cell 0) (hC3.cell 0) (by omega) (by omega) HB0.out) (fun h k => belowK_t h k) (belowK_b (by omega)) (Below.refl _ _) (fun k => by rw [HEN.out]; rfl)
    (fun pre W => MgI M (.func (.func 38) #[] #[]) w (MK pre) W) (fun _ _ _ => False) (MgI.own (by omega) MK) (fun _ _ _ _ _ hs _ _ => hs) hI0
    (fun k a' W => ∃ g8, CB W g8 55 #[.int .i64 (GA k), .int .i64 (GB k)] ∧ a' = { tmps := #[.agg #[.func (.func 38) #[] #[]], .slice a n cap, .slice a2 q cap2, .pointer (some ⟨M, 0, none⟩), undef, undef, .pointer (some ⟨M + 1, 0, none⟩), .int .i64 k, .pointer (some ⟨g8, 0, none⟩), undef, .slice a n cap, .slice a2 q cap2, .func (.func 40) #[] #[.pointer (some ⟨M + 1 + 1, 0, none⟩), .pointer (some ⟨M + 1 + 1 + 1, 0, none⟩)], .int .i64 k, .agg #[.int .i64 (GA k), .int .i64 (GB k)], undef, undef, undef, undef, undef, undef, undef, undef, undef, undef, undef, undef, undef, undef, undef, undef], defers := [] })
    (fun k a' _ A B row h hg hr => by obtain ⟨g8, h8, e8⟩ := h; exact ⟨g8, h8.kept hg (fun r e => (hr r e).2), e8⟩) ?assign ?body ?done ?stop
  case assign =>
    intro l' pre k W K hI hK
    rw [HEN.out]
    have HK := Lib.hid hK
    clear hK
    gi_wp2
    exact HK.out _ _ ((KeepsOthers.alloc W _).from _) ((Below.refl _ _).alloc (Nat.le_trans (by omega) hI.s) _) ((MgI.own (D := M) (Nat.le_refl _) MK).alloc _ hI) ⟨W.heap.size, CB.new W _ _, rfl⟩
  case body =>
    rintro l' pre k a' W hl' - hI ⟨g8, h8, rfl⟩ hlen
    obtain ⟨v, hv, ho⟩ := hI.v
    obtain ⟨av, cv, rfl, _⟩ := ho.form
    have c0 := hI.f.cell 0
    have c1 := h8.cell 0
    have c2 := h8.cell 1
    have c3 := hv.cell 0
    have f3 := hv.frozen 0
    have HO := Lib.hid ho
    have HI := Lib.hid hI
    have HV := Lib.hid hv
    have HAP := Lib.hid (HAPP.out pre k)
    have HLEN : Hid ((MK pre).length ≤ 1000000) := Lib.hid (Nat.le_trans (HLE.out pre) (by have := HLN.out; omega))
    have HW : Hid (M + 2 ≤ W.heap.size) := Lib.hid hI.s
    have KG := Lib.hid (fun W => lesser1_any (GA k) (GB k) W)
    clear ho hI hv h8 hlen
    generalize GA k = x at *
    generalize GB k = y at *
    obtain ⟨z, hz⟩ := exEqD (min x y)
    rw [hz] at KG HAP
    clear hz
    by_cases hp : 0 < z
    · have f9 : decide (0 < z) = true := decide_eq_true hp
      have HAP2 : Hid (MK (pre ++ [k]) = MK pre ++ [(k, z)]) := Lib.hid (by rw [HAP.out, if_pos hp])
      clear HAP hp
      gi_wp2_with (first
        | (refine ⟨trivial, ?_⟩; gi_at_call 38; refine (CallsIn.inRound l' (callsIn_wide.2 (KG.out _))).mono ?_; rintro e wo ⟨rfl, hwo⟩; rw [hwo]; clear hwo wo)
        | ((with_reducible show wpListIn _ _ _ _ _ (({ dst := some 29, op := _, type := _, pos := _, after := _, guard := _ } : Oper) :: _) _ _); go_must (refine wpListIn_appDt1 rfl (.tmp 24) (.tmp 28) rfl (M + 2) (.slice av (MK pre).length cv) (MK pre) (k, z) W W.heap.size rfl HO.out rfl rfl rfl HLEN.out HW.out ?_)))
      intro v3 w3 ho3 hb3 hk3
      obtain ⟨av3, cv3, rfl, _⟩ := ho3.form
      simp only [List.length_append, List.length_cons, List.length_nil, Nat.zero_add] at ho3
      have HO3 := Lib.hid ho3
      have HB3 := Lib.hid hb3
      have HK3 := Lib.hid hk3
      have HV3 := Lib.hid (HV.out.below hb3 (by omega))
      have c4 := HV3.out.cell 0
      have f4 := HV3.out.frozen 0
      clear ho3 hb3 hk3 c0 c1 c2 c3 f3
      gi_wp2
      have HKP := Lib.hid (fun u => (HB3.out.mono (Nat.le_add_right M 2)).setCell (p := ⟨M + 1, 0, none⟩) (Nat.le_succ M) u)
      refine ⟨(HK3.out.trans (KeepsOthers.setCell _ _ _)).from _, HKP.out _, ?_⟩
      show MgI M _ w (MK (pre ++ [k])) _
      rw [HAP2.out]
      exact ⟨(HI.out.f.below HB3.out (by omega)).setO (by omega) 0 _, ⟨_, HV3.out.set 0 _, HO3.out.setCell (Nat.lt_succ_self _) _⟩, HI.out.b.trans (HKP.out _), Nat.le_trans HI.out.s (HKP.out _).size⟩
    · have f9 : decide (0 < z) = false := decide_eq_false hp
      have HAP2 : Hid (MK (pre ++ [k]) = MK pre) := Lib.hid (by rw [HAP.out, if_neg hp])
      clear HAP hp
      gi_wp2_with (refine ⟨trivial, ?_⟩; gi_at_call 38; refine (CallsIn.inRound l' (callsIn_wide.2 (KG.out _))).mono ?_; rintro e wo ⟨rfl, hwo⟩; rw [hwo]; clear hwo wo)
      refine ⟨KeepsFrom.refl _ _, Below.refl _ _, ?_⟩
      show MgI M _ w (MK (pre ++ [k])) _
      rw [HAP2.out]
      exact HI.out
  case done =>
    rintro D xs W hD rfl hI hK
    obtain ⟨v, hv, ho⟩ := hI.v
    obtain ⟨av, cv, rfl, _⟩ := ho.form
    have c3 := hv.cell 0
    have f3 := hv.frozen 0
    have HO := Lib.hid ho
    have HI := Lib.hid hI
    have HV := Lib.hid hv
    have HK := Lib.hid hK
    clear ho hI hv hK
    gi_wp2
    have hne : D ≠ M + 1 := by omega
    have HK2 : Hid ((W.setCell ⟨M + 1, 0, none⟩ (.slice av (MK xs).length cv)).heap[D]? = some (.deferred (some []))) := Lib.hid ((heap_setCell_other W ⟨M + 1, 0, none⟩ D _ hne).trans HK.out)
    have HV2 := Lib.hid (HV.out.set 0 (.slice av (MK xs).length cv))
    have HO2 := Lib.hid (HO.out.setCell (C := M + 1) (i := 0) (Nat.lt_succ_self _) (.slice av (MK xs).length cv))
    have HB2 := Lib.hid (HI.out.b.trans ((Below.refl _ _).setCell (p := ⟨M + 1, 0, none⟩) (Nat.le_succ M) (.slice av (MK xs).length cv)))
    obtain ⟨W2, hW2⟩ : ∃ W2, W.setCell ⟨M + 1, 0, none⟩ (.slice av (MK xs).length cv) = W2 := ⟨_, rfl⟩
    rw [hW2] at HK2 HV2 HO2 HB2 ⊢
    clear hW2 c3 f3
    have HG2 := Lib.hid (grownBy_putObj' W2 D (.deferred none))
    have HR2 : Hid (∀ r, some D = some r → ∃ o : Obj, W2.heap[r]? = some o ∧ o.isCells = false) := Lib.hid (fun r e => by cases e; exact ⟨_, HK2.out, rfl⟩)
    have HV3 := Lib.hid (HV2.out.kept HG2.out HR2.out)
    refine ⟨by simp, .inl ⟨_, _, rfl, run_takeDeferred HK2.out, ?_⟩⟩
    refine ⟨_, results_cell1 rfl _ _ (M + 1) (.slice av (MK xs).length cv) rfl (load_dts _ _ _ (HV3.out.cell 0)), ⟨_, rfl, ?_, ?_⟩⟩
    · rw [hM]; exact (HO2.out.kept HG2.out HR2.out).mono (by omega)
    · rw [hM]; exact HB2.out.trans (below_putD (by omega) HK2.out)
  case stop =>
    rintro D c pre W _ _ h _
    exact h.elim
end Go.Proofs.Ytfdfaajjlangjaa
