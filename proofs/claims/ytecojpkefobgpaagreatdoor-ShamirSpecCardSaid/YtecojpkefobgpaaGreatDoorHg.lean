/-
  Package shamir: the value of the polynomial through shares; Join.
-/
import Derived.Test.YtecojpkefobgpaaGreatDoorHf
namespace Go.Proofs.YtecojpkefobgpaaGreatDoor
open Go.RowKit Go.Shelf
set_option linter.unusedVariables false
set_option linter.unusedSimpArgs false
attribute [local go_sem] Oper.semAt_some

/-- A block without cells turns: what is read stays. -/
theorem RdS.far {B L : Nat} {o : Obj} {W W' : World} {a : Option Addr} {l : List Sh} (h : RdS B W a l) (hL : W.heap[L]? = some o) (ho : o.isCells = false) (hk : ∀ k, k ≠ L → W'.heap[k]? = W.heap[k]?) : RdS B W' a l := by
  refine ⟨h.1, h.2.imp_right ?_⟩
  rintro ⟨b, p, e, hB, hc⟩
  refine ⟨b, p, e, hB, fun j hj => ?_⟩
  obtain ⟨c0, c1⟩ := hc j hj
  have hb : b ≠ L := by
    rintro rfl
    obtain ⟨o', ho', hcells⟩ := cells_of_cell c0
    have hL2 : W.heap[b]? = some o' := ho'
    rw [hL] at hL2
    injection hL2 with hL2
    subst hL2
    rw [ho] at hcells
    cases hcells
  exact ⟨(World.cell?_of_block (w := W) (hk b hb)).trans c0, (World.cell?_of_block (w := W) (hk b hb)).trans c1⟩
theorem results_int {fn : Func} {p : Tmp} (h : fn.results = #[.cell p 3]) (tmps : Array Value) (w : World) (b : Nat) (v : Value) (hp : tmps.getD p undef = .pointer (some ⟨b, 0, none⟩)) (hc : Boxed w b 3 v) : (results fn tmps).run Tryz.prog w = .ok v w := by
  have hp' : tmps[p]?.getD undef = .pointer (some ⟨b, 0, none⟩) := by simpa using hp
  have c := hc.cell
  simp only [results, h]
  go_simp
/-- What the rounds keep: the boxes of x, of the sum, of the shares; the shares. -/
structure ThI (w : World) (x : Nat) (a : Option Addr) (cap : Nat) (l : List Sh) (pre : List Sh) (W : World) : Prop where
  xb : Boxed W w.heap.size 3 (.int .i64 x)
  yb : Boxed W (w.heap.size + 1) 3 (.int .i64 (pre.foldl (thrF l x) 0 : Nat))
  lb : W.cell? ⟨w.heap.size + 2, 0, none⟩ = some (.slice a l.length cap)
  rd : RdS w.heap.size W a l
  below : Below w.heap.size w W
  size : w.heap.size + 3 ≤ W.heap.size
theorem ThI.keep {w W W' : World} {x : Nat} {a : Option Addr} {cap : Nat} {l pre : List Sh} {D : Nat} (h : ThI w x a cap l pre W) (hb : Below D W W') (hD : w.heap.size + 3 ≤ D) : ThI w x a cap l pre W' :=
  ⟨(hb.block _ (by omega)).trans h.xb, (hb.block _ (by omega)).trans h.yb, (hb.cell (p := ⟨w.heap.size + 2, 0, none⟩) (by show w.heap.size + 2 < D; omega)).trans h.lb, h.rd.below (hb.mono (by omega)), h.below.trans (hb.mono (by omega)), Nat.le_trans h.size hb.size⟩
/-- The blocks of a round: the share, the basis polynomial. -/
structure ThR (l : List Sh) (s : Sh) (g : Nat) (a2 : Option Addr) (cap2 : Nat) (W : World) : Prop where
  sh : SH W g s
  bas : W.heap[g + 1]? = some (.cells #[.slice a2 (oth l s.1).length cap2, .int .i64 s.1] 59 (0, 0))
  rd : RdS W.heap.size W a2 (oth l s.1)
theorem ThR.far {l : List Sh} {s : Sh} {g : Nat} {a2 : Option Addr} {cap2 L : Nat} {o : Obj} {W W' : World} (h : ThR l s g a2 cap2 W) (hL : W.heap[L]? = some o) (ho : o.isCells = false) (hk : ∀ k, k ≠ L → W'.heap[k]? = W.heap[k]?) (hz : W.heap.size ≤ W'.heap.size) : ThR l s g a2 cap2 W' := by
  have ne : ∀ {k : Nat} {cs t fr}, W.heap[k]? = some (.cells cs t fr) → k ≠ L := by
    rintro k cs t fr hc rfl
    rw [hL] at hc
    injection hc with hc
    subst hc
    cases ho
  exact ⟨(hk g (ne h.sh)).trans h.sh, (hk _ (ne h.bas)).trans h.bas, (h.rd.far hL ho hk).mono hz⟩

set_option maxRecDepth 100000 in
set_option maxHeartbeats 4000000 in
theorem through_any (a : Option Addr) (cap : Nat) (l : List Sh) (x : Nat) (hx : x < 2305843009213688669) (h64 : l.length ≤ 64) (hv : chkL 0 l = true) (w : World) (hl : RdS w.heap.size w a l) :
    Calls Tryz.prog 24 #[.slice a l.length cap, .int .i64 x] w fun e w' => e = .returned (.int .i64 (thrS l x : Nat)) ∧ Below w.heap.size w w' := by
  have HREL := Lib.hid (fun B Bl => bases1_rel Bl B a cap l h64)
  have HV := Lib.hid hv
  have HX := Lib.hid hx
  have HL := Lib.hid hl
  have HBA := Lib.hid (fun w => bases_any a l.length cap w)
  obtain ⟨w3, hw3⟩ : ∃ w3, w3 = ((w.alloc (.cells #[.int .i64 (x : Int)] 3)).alloc (.cells #[.int .i64 0] 3)).alloc (.cells #[.slice a l.length cap] 22) := ⟨_, rfl⟩
  have hz3 : w3.heap.size = w.heap.size + 3 := by rw [hw3]; simp
  have HI0 : Hid (ThI w x a cap l [] w3) := by
    have hb3 : Below w.heap.size w w3 := by
      rw [hw3]
      exact (((Below.refl _ w).alloc (Nat.le_refl _) _).alloc (by simp) _).alloc (by simp; omega) _
    have c1 := Boxed.new w 3 (.int .i64 (x : Int))
    have c2 := Boxed.new (w.alloc (.cells #[.int .i64 (x : Int)] 3)) 3 (.int .i64 0)
    have c3 := Boxed.new ((w.alloc (.cells #[.int .i64 (x : Int)] 3)).alloc (.cells #[.int .i64 0] 3)) 22 (.slice a l.length cap)
    simp only [World.size_alloc] at c2 c3
    refine Lib.hid ⟨?_, ?_, ?_, ?_, hb3, Nat.le_of_eq hz3.symm⟩
    · rw [hw3]; exact (c1.alloc _).alloc _
    · rw [hw3]; exact c2.alloc _
    · rw [hw3]; exact c3.cell
    · exact hl.below hb3
  obtain ⟨n, hn⟩ : ∃ n, l.length = n := ⟨_, rfl⟩
  have HN := Lib.hid hn
  rw [hn] at hw3 HBA ⊢
  clear hv hx hl hn h64
  refine (callsIn_wide (n := 5)).1 ?_
  refine callsIn_of_wp_marks Tryz.func24 rfl trivial ?_ rfl
  simp only [Tryz.ntmps24, List.size_toArray, List.length_cons, List.length_nil, Nat.reduceAdd, Nat.reduceSub, Array.replicate_succ, Array.replicate_zero, List.push_toArray, List.append_toArray, List.nil_append, List.cons_append]
  gi_wp2_with (refine ⟨trivial, ?_⟩; gi_at_call 39; refine (callsIn_wide.2 (HBA.out _)).mono ?_; rintro e w' ⟨rfl, rfl⟩)
  rw [← hw3]
  clear hw3 HBA
  refine range_rel rfl (by decide) (gf := 54) (lb := #[.pointer (some ⟨w.heap.size + 2, 0, none⟩)]) rfl trivial (enters_of Tryz.func54 (by kernel_rfl) rfl)
    (HREL.out w.heap.size (w.heap.size + 2)) ?hps
    (ThI w x a cap l) (fun pre W W' h hb => h.keep hb (by omega)) (fun _ _ h => ⟨h.lb, h.rd, by have := h.size; omega⟩) HI0.out
    (fun s g a' W => ∃ a2 cap2, a' = { tmps := #[.slice a n cap, .int .i64 x, undef, .pointer (some ⟨w.heap.size, 0, none⟩), .pointer (some ⟨w.heap.size + 1, 0, none⟩), .pointer (some ⟨g, 0, none⟩), .pointer (some ⟨g + 1, 0, none⟩), .slice a n cap, .func (.func 54) #[] #[.pointer (some ⟨w.heap.size + 2, 0, none⟩)], shV s, basV a2 (oth l s.1).length cap2 s.1, undef, undef, undef, undef, undef, undef, undef, undef, undef], defers := [] } ∧ ThR l s g a2 cap2 W)
    (fun s g a' L o W W' ⟨a2, cap2, e, h⟩ hL ho hk hz => ⟨a2, cap2, e, h.far hL ho hk hz⟩) ?assign ?body ?done
  case hps => rintro s vs W ⟨a2, cap2, rfl, _⟩; rfl
  case assign =>
    rintro l' s vs W K ⟨a2, cap2, rfl, hrd⟩ hK
    obtain ⟨s0, s1⟩ := s
    simp only [shV, basV] at hK ⊢
    gi_wp2
    have hb : Below W.heap.size W ((W.alloc (.cells #[.int .i64 s0, .int .i64 s1] 40)).alloc (.cells #[.slice a2 (oth l s0).length cap2, .int .i64 s0] 59)) := ((Below.refl _ _).alloc (Nat.le_refl _) _).alloc (by simp) _
    exact hK _ _ hb (by simp; omega) ⟨a2, cap2, rfl, (SH.new W (s0, s1)).alloc _, heap_alloc2_new W _ _, hrd.call hb⟩
  case body =>
    rintro l' pre s g a' W hI hs hDg hgW ⟨a2, cap2, rfl, hR⟩
    have hmem : s ∈ l := List.mem_of_getElem? hs
    obtain ⟨v1, v2, v3⟩ := chkL_at HV.out s hmem
    obtain ⟨v4, v5⟩ := scal_of v3
    have hzs : ∀ t ∈ oth l s.1, 0 < t.1 ∧ t.1 ≤ 64 := oth_at fun t ht => ⟨(chkL_at HV.out t ht).1, (chkL_at HV.out t ht).2.1⟩
    have hne := prodS_ne (l := l) (a := s.1) (fun t ht => ⟨(chkL_at HV.out t ht).1, (chkL_at HV.out t ht).2.1⟩) ⟨v1, v2⟩
    obtain ⟨s0, s1⟩ := s
    obtain ⟨m, rfl⟩ : ∃ m : Nat, s0 = m := ⟨s0.toNat, by simp only at v1; omega⟩
    obtain ⟨y, rfl⟩ : ∃ y : Nat, s1 = y := ⟨s1.toNat, by simp only at v4; omega⟩
    simp only [Int.toNat_natCast] at hne
    obtain ⟨q, hq⟩ : ∃ q, (oth l (m : Int)).length = q := ⟨_, rfl⟩
    have K1 : Hid (∀ U : World, Below W.heap.size W U → Calls Tryz.prog 41 #[.agg #[.slice a2 (oth l m).length cap2, .int .i64 (m : Int)], .int .i64 (x : Int)] U fun e w' => e = .returned (.int .i64 (batS (oth l m) m x : Nat)) ∧ Below U.heap.size U w') :=
      Lib.hid (fun U hU => at_bas a2 cap2 (oth l m) m x HX.out (by simp only at v2; omega) hzs hne U (hR.rd.call hU))
    have hyq : y < 2305843009213688669 := by simp only at v5; omega
    have K2 := Lib.hid (fun U => times_any y (batS (oth l m) m x) hyq (batS_lt _ _ _) U)
    have hcq := foldl_lt l x pre 0 (by decide)
    have K3 := Lib.hid (fun U => plus_any (pre.foldl (thrF l x) 0) (y * batS (oth l m) m x % 2305843009213688669) hcq (Nat.mod_lt _ (by decide)) U)
    have HSN : Hid ((pre ++ [((m : Int), (y : Int))]).foldl (thrF l x) 0 = (pre.foldl (thrF l x) 0 + y * batS (oth l m) m x % 2305843009213688669) % 2305843009213688669) := Lib.hid (by rw [List.foldl_append, List.foldl_cons, List.foldl_nil]; unfold thrF; simp only [Int.toNat_natCast])
    have hDg' : w.heap.size + 3 ≤ g := by omega
    have HG1 : Hid (g + 1 < W.heap.size) := Lib.hid (Array.getElem?_eq_some_iff.1 hR.bas).1
    have hS0 : ∀ U : World, (∀ k, k < W.heap.size → k ≠ w.heap.size + 1 → U.heap[k]? = W.heap[k]?) → (U.cell? ⟨g, 1, none⟩ = some (.int .i64 (y : Int)) ∧ U.cell? ⟨g + 1, 0, none⟩ = some (.slice a2 q cap2) ∧ U.cell? ⟨g + 1, 1, none⟩ = some (.int .i64 (m : Int)) ∧ U.cell? ⟨w.heap.size, 0, none⟩ = some (.int .i64 (x : Int))) := fun U hU => by
      have hg1 := HG1.out
      have b1 := (hU g (by omega) (by omega)).trans hR.sh
      have b2 := (hU (g + 1) hg1 (by omega)).trans hR.bas
      rw [hq] at b2
      have b3 : Boxed U w.heap.size 3 (.int .i64 x) := (hU w.heap.size (by omega) (by omega)).trans hI.xb
      refine ⟨?_, ?_, ?_, b3.cell⟩
      · rw [cell_of_row U g 1 _ _ _ b1]; rfl
      · rw [cell_of_row U (g + 1) 0 _ _ _ b2]; rfl
      · rw [cell_of_row U (g + 1) 1 _ _ _ b2]; rfl
    clear hcq hR hzs hne hmem hs v1 v2 v3 v4 v5
    generalize (pre.foldl (thrF l x) 0 + y * batS (oth l m) m x % 2305843009213688669) % 2305843009213688669 = c2 at *
    generalize y * batS (oth l m) m x % 2305843009213688669 = p at *
    generalize batS (oth l m) m x = b at *
    obtain ⟨c, hc⟩ : ∃ c, pre.foldl (thrF l x) 0 = c := ⟨_, rfl⟩
    have hY := hI.yb
    rw [hc] at K3 hY
    clear hc
    have YOF : Hid (∀ U : World, Below W.heap.size W U → Boxed U (w.heap.size + 1) 3 (.int .i64 (c : Nat))) := Lib.hid (fun U hU => (hU.block _ (by have := HG1.out; omega)).trans hY)
    have SOF : Hid (∀ U : World, Below W.heap.size W U → (U.cell? ⟨g, 1, none⟩ = some (.int .i64 (y : Int)) ∧ U.cell? ⟨g + 1, 0, none⟩ = some (.slice a2 q cap2) ∧ U.cell? ⟨g + 1, 1, none⟩ = some (.int .i64 (m : Int)) ∧ U.cell? ⟨w.heap.size, 0, none⟩ = some (.int .i64 (x : Int)))) := Lib.hid (fun U hU => hS0 U (fun k hk _ => hU.block k hk))
    have SST : Hid (∀ U : World, Below W.heap.size W U → ((fun U : World => U.cell? ⟨g, 1, none⟩ = some (.int .i64 (y : Int)) ∧ U.cell? ⟨g + 1, 0, none⟩ = some (.slice a2 q cap2) ∧ U.cell? ⟨g + 1, 1, none⟩ = some (.int .i64 (m : Int)) ∧ U.cell? ⟨w.heap.size, 0, none⟩ = some (.int .i64 (x : Int))) (U.setCell ⟨w.heap.size + 1, 0, none⟩ (.int .i64 (c2 : Nat))))) := Lib.hid (fun U hU => hS0 _ (fun k hk hk2 => (Below.heap_setCell U ⟨w.heap.size + 1, 0, none⟩ _ k hk2).trans (hU.block k hk)))
    have FIN : Hid (∀ U : World, Below W.heap.size W U → (fun W' : World => (∀ k, w3.heap.size ≤ k → k < W.heap.size → W'.heap[k]? = W.heap[k]?) ∧ W.heap.size ≤ W'.heap.size ∧ ThI w x a cap l (pre ++ [((m : Int), (y : Int))]) W') (U.setCell ⟨w.heap.size + 1, 0, none⟩ (.int .i64 (c2 : Nat)))) := Lib.hid (fun U hU => by
      have hg1 := HG1.out
      have oth1 : ∀ k, k ≠ w.heap.size + 1 → (U.setCell ⟨w.heap.size + 1, 0, none⟩ (.int .i64 (c2 : Nat))).heap[k]? = U.heap[k]? := fun k hk => Below.heap_setCell U ⟨w.heap.size + 1, 0, none⟩ _ k hk
      have hz : U.heap.size ≤ (U.setCell ⟨w.heap.size + 1, 0, none⟩ (.int .i64 (c2 : Nat))).heap.size := by simp
      have hIU := hI.keep hU (by omega)
      refine ⟨fun k hk hk2 => (oth1 k (by omega)).trans (hU.block k hk2), Nat.le_trans hU.size hz, ⟨(oth1 _ (by omega)).trans hIU.xb, ?_, ?_, ?_, ?_, Nat.le_trans hIU.size hz⟩⟩
      · rw [HSN.out]
        exact (YOF.out U hU).set _
      · exact (World.cell?_of_block (w := U) (a := ⟨w.heap.size + 2, 0, none⟩) (oth1 (w.heap.size + 2) (by omega))).trans hIU.lb
      · exact hIU.rd.below ((Below.refl _ _).setCell (p := ⟨w.heap.size + 1, 0, none⟩) (Nat.le_succ _) _)
      · exact hIU.below.setCell (p := ⟨w.heap.size + 1, 0, none⟩) (Nat.le_succ _) _)
    have HB0 : Hid (Below W.heap.size W W.drew) := Lib.hid (Below.refl W.heap.size W).drew
    simp only [shV, basV]
    rw [hq] at K1 ⊢
    clear hS0 hq hY hI
    gi_wp2
    refine wpIn_region_held_drew (S := fun U => U.cell? ⟨g, 1, none⟩ = some (.int .i64 (y : Int)) ∧ U.cell? ⟨g + 1, 0, none⟩ = some (.slice a2 q cap2) ∧ U.cell? ⟨g + 1, 1, none⟩ = some (.int .i64 (m : Int)) ∧ U.cell? ⟨w.heap.size, 0, none⟩ = some (.int .i64 (x : Int))) (by kernel_rfl) (by kernel_rfl) (fun _ _ h => h) (SOF.out _ HB0.out) (fun hHeld => ?_)
    refine wpAnyH_take (i := 1) (v := .pointer (some ⟨g, 1, none⟩)) rfl (by kernel_rfl) (by kernel_rfl) (by kernel_rfl) (fun _ _ _ h => False.elim h) (Or.inl ⟨by rfl, fun w' h => by obtain ⟨h1, h2, h3, h4⟩ := h; go_simp⟩) hHeld ?_
    try simp only [Act.put, List.getElem_toArray, List.getElem_cons_zero, List.getElem_cons_succ, List.setIfInBounds_toArray, List.set_cons_zero, List.set_cons_succ]
    refine wpAnyH_take (i := 2) (v := .int .i64 (y : Int)) rfl (by kernel_rfl) (by kernel_rfl) (by kernel_rfl) (fun _ _ _ h => False.elim h) (Or.inl ⟨by rfl, fun w' h => by obtain ⟨h1, h2, h3, h4⟩ := h; go_simp⟩) hHeld ?_
    try simp only [Act.put, List.getElem_toArray, List.getElem_cons_zero, List.getElem_cons_succ, List.setIfInBounds_toArray, List.set_cons_zero, List.set_cons_succ]
    refine wpAnyH_take (i := 3) (v := .agg #[.slice a2 q cap2, .int .i64 (m : Int)]) rfl (by kernel_rfl) (by kernel_rfl) (by kernel_rfl) (fun _ _ _ h => False.elim h) (Or.inl ⟨by rfl, fun w' h => by obtain ⟨h1, h2, h3, h4⟩ := h; go_simp⟩) hHeld ?_
    try simp only [Act.put, List.getElem_toArray, List.getElem_cons_zero, List.getElem_cons_succ, List.setIfInBounds_toArray, List.set_cons_zero, List.set_cons_succ]
    refine wpAnyH_take (i := 4) (v := .int .i64 (x : Int)) rfl (by kernel_rfl) (by kernel_rfl) (by kernel_rfl) (fun _ _ _ h => False.elim h) (Or.inl ⟨by rfl, fun w' h => by obtain ⟨h1, h2, h3, h4⟩ := h; go_simp⟩) hHeld ?_
    try simp only [Act.put, List.getElem_toArray, List.getElem_cons_zero, List.getElem_cons_succ, List.setIfInBounds_toArray, List.set_cons_zero, List.set_cons_succ]
    -- all orders
    refine wpAnyH_ready (rs := [0, 5]) (by kernel_rfl) (by simp) (AllReadyH.cons rfl (fun K0 hK => ?_) (AllReadyH.cons rfl (fun K0 hK => ?_) AllReadyH.nil))
    · skip
      have d0 := (YOF.out _ HB0.out).cell
      go_simp
      clear d0
      refine hK.out _ _ (SOF.out _ HB0.out) (fun hHeld => ?_)
      clear hK K0
      try simp only [Act.put, List.getElem_toArray, List.getElem_cons_zero, List.getElem_cons_succ, List.setIfInBounds_toArray, List.set_cons_zero, List.set_cons_succ]
      refine wpAnyH_ready (rs := [5]) (by kernel_rfl) (by simp) (AllReadyH.cons rfl (fun K0 hK => ?_) AllReadyH.nil)
      go_simp
      go_at_call 41
      refine (K1.out _ HB0.out).mono ?_
      rintro e u1 ⟨rfl, hb⟩
      have HB1 : Hid (Below W.heap.size W u1) := Lib.hid (HB0.out.trans (hb.mono HB0.out.size))
      clear hb
      refine hK.out _ _ (SOF.out _ HB1.out) (fun hHeld => ?_)
      clear hK K0
      try simp only [Act.put, List.getElem_toArray, List.getElem_cons_zero, List.getElem_cons_succ, List.setIfInBounds_toArray, List.set_cons_zero, List.set_cons_succ]
      refine wpAnyH_ready (rs := [6]) (by kernel_rfl) (by simp) (AllReadyH.cons rfl (fun K0 hK => ?_) AllReadyH.nil)
      go_simp
      go_at_call 40
      refine (K2.out _).mono ?_
      rintro e u2 ⟨rfl, hb⟩
      have HB2 : Hid (Below W.heap.size W u2) := Lib.hid (HB1.out.trans (hb.mono HB1.out.size))
      clear hb
      refine hK.out _ _ (SOF.out _ HB2.out) (fun hHeld => ?_)
      clear hK K0
      try simp only [Act.put, List.getElem_toArray, List.getElem_cons_zero, List.getElem_cons_succ, List.setIfInBounds_toArray, List.set_cons_zero, List.set_cons_succ]
      refine wpAnyH_ready (rs := [7]) (by kernel_rfl) (by simp) (AllReadyH.cons rfl (fun K0 hK => ?_) AllReadyH.nil)
      go_simp
      go_at_call 28
      refine (K3.out _).mono ?_
      rintro e u3 ⟨rfl, hb⟩
      have HB3 : Hid (Below W.heap.size W u3) := Lib.hid (HB2.out.trans (hb.mono HB2.out.size))
      clear hb
      refine hK.out _ _ (SOF.out _ HB3.out) (fun hHeld => ?_)
      clear hK K0
      try simp only [Act.put, List.getElem_toArray, List.getElem_cons_zero, List.getElem_cons_succ, List.setIfInBounds_toArray, List.set_cons_zero, List.set_cons_succ]
      refine wpAnyH_ready (rs := [8]) (by kernel_rfl) (by simp) (AllReadyH.cons rfl (fun K0 hK => ?_) AllReadyH.nil)
      have d0 := (YOF.out _ HB3.out).cell
      have d1 := (YOF.out _ HB3.out).frozen
      go_simp
      clear d0 d1
      refine hK.out _ _ (SST.out _ HB3.out) (fun hHeld => ?_)
      clear hK K0
      try simp only [Act.put, List.getElem_toArray, List.getElem_cons_zero, List.getElem_cons_succ, List.setIfInBounds_toArray, List.set_cons_zero, List.set_cons_succ]
      refine wpAnyH_done (by kernel_rfl) ?_ _
      exact FIN.out _ HB3.out
    · skip
      go_simp
      go_at_call 41
      refine (K1.out _ HB0.out).mono ?_
      rintro e u4 ⟨rfl, hb⟩
      have HB4 : Hid (Below W.heap.size W u4) := Lib.hid (HB0.out.trans (hb.mono HB0.out.size))
      clear hb
      refine hK.out _ _ (SOF.out _ HB4.out) (fun hHeld => ?_)
      clear hK K0
      try simp only [Act.put, List.getElem_toArray, List.getElem_cons_zero, List.getElem_cons_succ, List.setIfInBounds_toArray, List.set_cons_zero, List.set_cons_succ]
      refine wpAnyH_ready (rs := [0, 6]) (by kernel_rfl) (by simp) (AllReadyH.cons rfl (fun K0 hK => ?_) (AllReadyH.cons rfl (fun K0 hK => ?_) AllReadyH.nil))
      · skip
        have d0 := (YOF.out _ HB4.out).cell
        go_simp
        clear d0
        refine hK.out _ _ (SOF.out _ HB4.out) (fun hHeld => ?_)
        clear hK K0
        try simp only [Act.put, List.getElem_toArray, List.getElem_cons_zero, List.getElem_cons_succ, List.setIfInBounds_toArray, List.set_cons_zero, List.set_cons_succ]
        refine wpAnyH_ready (rs := [6]) (by kernel_rfl) (by simp) (AllReadyH.cons rfl (fun K0 hK => ?_) AllReadyH.nil)
        go_simp
        go_at_call 40
        refine (K2.out _).mono ?_
        rintro e u5 ⟨rfl, hb⟩
        have HB5 : Hid (Below W.heap.size W u5) := Lib.hid (HB4.out.trans (hb.mono HB4.out.size))
        clear hb
        refine hK.out _ _ (SOF.out _ HB5.out) (fun hHeld => ?_)
        clear hK K0
        try simp only [Act.put, List.getElem_toArray, List.getElem_cons_zero, List.getElem_cons_succ, List.setIfInBounds_toArray, List.set_cons_zero, List.set_cons_succ]
        refine wpAnyH_ready (rs := [7]) (by kernel_rfl) (by simp) (AllReadyH.cons rfl (fun K0 hK => ?_) AllReadyH.nil)
        go_simp
        go_at_call 28
        refine (K3.out _).mono ?_
        rintro e u6 ⟨rfl, hb⟩
        have HB6 : Hid (Below W.heap.size W u6) := Lib.hid (HB5.out.trans (hb.mono HB5.out.size))
        clear hb
        refine hK.out _ _ (SOF.out _ HB6.out) (fun hHeld => ?_)
        clear hK K0
        try simp only [Act.put, List.getElem_toArray, List.getElem_cons_zero, List.getElem_cons_succ, List.setIfInBounds_toArray, List.set_cons_zero, List.set_cons_succ]
        refine wpAnyH_ready (rs := [8]) (by kernel_rfl) (by simp) (AllReadyH.cons rfl (fun K0 hK => ?_) AllReadyH.nil)
        have d0 := (YOF.out _ HB6.out).cell
        have d1 := (YOF.out _ HB6.out).frozen
        go_simp
        clear d0 d1
        refine hK.out _ _ (SST.out _ HB6.out) (fun hHeld => ?_)
        clear hK K0
        try simp only [Act.put, List.getElem_toArray, List.getElem_cons_zero, List.getElem_cons_succ, List.setIfInBounds_toArray, List.set_cons_zero, List.set_cons_succ]
        refine wpAnyH_done (by kernel_rfl) ?_ _
        exact FIN.out _ HB6.out
      · skip
        go_simp
        go_at_call 40
        refine (K2.out _).mono ?_
        rintro e u7 ⟨rfl, hb⟩
        have HB7 : Hid (Below W.heap.size W u7) := Lib.hid (HB4.out.trans (hb.mono HB4.out.size))
        clear hb
        refine hK.out _ _ (SOF.out _ HB7.out) (fun hHeld => ?_)
        clear hK K0
        try simp only [Act.put, List.getElem_toArray, List.getElem_cons_zero, List.getElem_cons_succ, List.setIfInBounds_toArray, List.set_cons_zero, List.set_cons_succ]
        refine wpAnyH_ready (rs := [0]) (by kernel_rfl) (by simp) (AllReadyH.cons rfl (fun K0 hK => ?_) AllReadyH.nil)
        have d0 := (YOF.out _ HB7.out).cell
        go_simp
        clear d0
        refine hK.out _ _ (SOF.out _ HB7.out) (fun hHeld => ?_)
        clear hK K0
        try simp only [Act.put, List.getElem_toArray, List.getElem_cons_zero, List.getElem_cons_succ, List.setIfInBounds_toArray, List.set_cons_zero, List.set_cons_succ]
        refine wpAnyH_ready (rs := [7]) (by kernel_rfl) (by simp) (AllReadyH.cons rfl (fun K0 hK => ?_) AllReadyH.nil)
        go_simp
        go_at_call 28
        refine (K3.out _).mono ?_
        rintro e u8 ⟨rfl, hb⟩
        have HB8 : Hid (Below W.heap.size W u8) := Lib.hid (HB7.out.trans (hb.mono HB7.out.size))
        clear hb
        refine hK.out _ _ (SOF.out _ HB8.out) (fun hHeld => ?_)
        clear hK K0
        try simp only [Act.put, List.getElem_toArray, List.getElem_cons_zero, List.getElem_cons_succ, List.setIfInBounds_toArray, List.set_cons_zero, List.set_cons_succ]
        refine wpAnyH_ready (rs := [8]) (by kernel_rfl) (by simp) (AllReadyH.cons rfl (fun K0 hK => ?_) AllReadyH.nil)
        have d0 := (YOF.out _ HB8.out).cell
        have d1 := (YOF.out _ HB8.out).frozen
        go_simp
        clear d0 d1
        refine hK.out _ _ (SST.out _ HB8.out) (fun hHeld => ?_)
        clear hK K0
        try simp only [Act.put, List.getElem_toArray, List.getElem_cons_zero, List.getElem_cons_succ, List.setIfInBounds_toArray, List.set_cons_zero, List.set_cons_succ]
        refine wpAnyH_done (by kernel_rfl) ?_ _
        exact FIN.out _ HB8.out
    -- behind all orders
  case done =>
    intro D W hD hI hK
    have d0 := hI.yb.cell
    have d1 := hI.yb.frozen
    have HY : Hid (Boxed W (w.heap.size + 1) 3 (.int .i64 (thrS l x : Nat))) := Lib.hid hI.yb
    have HBW := Lib.hid hI.below
    rw [show l.foldl (thrF l x) 0 = thrS l x from rfl] at d0
    obtain ⟨r, hr⟩ : ∃ r, thrS l x = r := ⟨_, rfl⟩
    rw [hr] at d0 HY
    have HR := Lib.hid hr
    clear hr
    clear hI HREL HV HL HI0
    gi_wp2
    have hK5 : (W.setCell ⟨w.heap.size + 1, 0, none⟩ (.int .i64 (r : Nat))).heap[D]? = some (.deferred (some [])) := (Below.heap_setCell W ⟨w.heap.size + 1, 0, none⟩ _ D (show D ≠ w.heap.size + 1 by omega)).trans hK
    have hB5 := HBW.out.setCell (p := ⟨w.heap.size + 1, 0, none⟩) (Nat.le_succ _) (.int .i64 (r : Nat))
    have hY5 := HY.out.set (.int .i64 (r : Nat))
    refine ⟨by simp, .inl ⟨_, _, rfl, run_takeDeferred hK5, ?_⟩⟩
    refine ⟨_, results_int rfl _ _ (w.heap.size + 1) _ rfl ((World.putObj_heap_other (show w.heap.size + 1 ≠ D by omega)).trans hY5), by rw [HR.out], hB5.trans (belowK_b (w := w) (Nat.le_refl _) _ D _ _ (by omega) hK5 rfl rfl)⟩
end Go.Proofs.YtecojpkefobgpaaGreatDoor
