/-
  Slices of digests that the call owns, and appending to one.
-/
import Derived.Test.YtndbhmipehpebaaDoorTre
import Derived.Great.BuildSlice
namespace Go.Proofs.YtndbhmipehpebaaDoor
open Go.RowKit

theorem flat_len : ∀ (l : List (List UInt8)), (∀ d ∈ l, d.length = 32) → l.flatten.length = l.length * 32
  | [], _ => rfl
  | d :: l, h => by
    rw [List.flatten_cons, List.length_append, flat_len l (fun x hx => h x (List.mem_cons_of_mem _ hx)), h d (List.mem_cons_self ..), List.length_cons]; omega
theorem flat_at : ∀ (l : List (List UInt8)), (∀ d ∈ l, d.length = 32) → ∀ (j i : Nat) (hj : j < l.length), i < 32 → l.flatten[j * 32 + i]? = l[j][i]?
  | [], _, j, i, hj, _ => by simp at hj
  | d :: l, h, 0, i, hj, hi => by
    rw [List.flatten_cons, List.getElem?_append_left (by rw [h d (List.mem_cons_self ..)]; omega)]; simp
  | d :: l, h, j + 1, i, hj, hi => by
    have hd := h d (List.mem_cons_self ..)
    rw [List.flatten_cons, List.getElem?_append_right (by omega), hd, show (j + 1) * 32 + i - 32 = j * 32 + i by omega, flat_at l (fun x hx => h x (List.mem_cons_of_mem _ hx)) j i (by simpa using hj) hi]
    simp

/-- The slice value v owns the digests l. -/
def OwnD (B : Nat) (w : World) (v : Value) (l : List (List UInt8)) : Prop := (∀ d ∈ l, d.length = 32) ∧ w.ownsRow B 26 32 v l.length (l.flatten.map bv)
theorem OwnD.nil (B : Nat) (w : World) : OwnD B w (.slice none 0 0) [] := ⟨fun _ h => (by cases h), World.ownsRow_nil _ _ _ _⟩
theorem OwnD.below {B : Nat} {w w' : World} {v : Value} {l : List (List UInt8)} (h : OwnD B w v l) (hb : Below w.heap.size w w') : OwnD B w' v l := by
  refine ⟨h.1, h.2.1, ?_⟩
  rcases h.2.2 with h2 | ⟨g, cap, cur, hv, hg, hh, r⟩
  · exact .inl h2
  · exact .inr ⟨g, cap, cur, hv, hg, by rw [hb.block g (Array.getElem?_eq_some_iff.1 hh).1]; exact hh, r⟩
theorem OwnD.mono {B B' : Nat} {w : World} {v : Value} {l : List (List UInt8)} (h : OwnD B w v l) (hB : B' ≤ B) : OwnD B' w v l := by
  refine ⟨h.1, h.2.1, ?_⟩
  rcases h.2.2 with h2 | ⟨g, cap, cur, hv, hg, r⟩
  · exact .inl h2
  · exact .inr ⟨g, cap, cur, hv, by omega, r⟩
theorem OwnD.alloc {B : Nat} {w : World} {v : Value} {l : List (List UInt8)} (h : OwnD B w v l) (o : Obj) : OwnD B (w.alloc o) v l := ⟨h.1, World.ownsRow.alloc h.2 o⟩
theorem OwnD.drew {B : Nat} {w : World} {v : Value} {l : List (List UInt8)} (h : OwnD B w v l) : OwnD B w.drew v l := h
theorem OwnD.drewN {B : Nat} {w : World} {v : Value} {l : List (List UInt8)} (h : OwnD B w v l) (n : Nat) : OwnD B (w.drewN n) v l := h
theorem OwnD.base {B : Nat} {w : World} {v : Value} {l : List (List UInt8)} (h : OwnD B w v l) : ∀ k, v.ownBlock = some k → B ≤ k := fun k hk => (World.ownsRow.lt h.2 k hk).1
theorem OwnD.lt {B : Nat} {w : World} {v : Value} {l : List (List UInt8)} (h : OwnD B w v l) : ∀ k, v.ownBlock = some k → k < w.heap.size := fun k hk => (World.ownsRow.lt h.2 k hk).2
/-- The form of an owned slice of digests. -/
theorem OwnD.form {B : Nat} {w : World} {v : Value} {l : List (List UInt8)} (h : OwnD B w v l) : ∃ a cap, v = .slice a l.length cap ∧ l.length ≤ cap ∧ cap ≤ maxLen ∧ (a = none → cap = 0) ∧ RdD w.heap.size w a l := by
  have hc := @World.ownsRow.cells w B _ 32 v l.length (l.flatten.map bv) h.2
  rcases h.2.2 with ⟨rfl, h0⟩ | ⟨g, cap, cur, rfl, hg, hh, h3, h4, r⟩
  · have : l = [] := List.eq_nil_of_length_eq_zero h0
    subst this
    exact ⟨none, 0, rfl, Nat.le_refl _, Nat.zero_le _, fun _ => rfl, Nat.zero_le _, fun _ h => (by cases h), .inl rfl⟩
  · have hg2 := (Array.getElem?_eq_some_iff.1 hh).1
    refine ⟨some ⟨g, 0, none⟩, cap, rfl, h3, h4, (fun e => by cases e), by omega, h.1, .inr ⟨g, 0, rfl, hg2, fun j hj i v hv => ?_⟩⟩
    have hi : i < 32 := by
      have := (List.getElem?_eq_some_iff.1 hv).1
      rw [List.length_map, h.1 _ (List.getElem_mem hj)] at this; exact this
    have := hc (g := g) rfl (j * 32 + i) v (by rw [List.getElem?_map, flat_at l h.1 j i hj hi, ← List.getElem?_map]; exact hv)
    rw [← this, addr_add, Nat.zero_add, Nat.zero_add]

theorem digInfo : (Tryd.prog.info? 26).map (fun i => (i.zero, i.size, i.bytes)) = some (some (.agg (bvA (List.replicate 32 0))), 32, 32) := by kernel_rfl
theorem RdD.news {w : World} {B : Nat} {ad : Addr} {l : List (List UInt8)} (h : RdD B w (some ad) l) : ∀ j u, (l.flatten.map bv)[j]? = some u → w.cell? (ad.add j) = some u := by
  intro j u hu
  rcases h.2.2 with h2 | ⟨b, o, ha, _, hc⟩
  · subst h2; simp at hu
  · injection ha with ha
    subst ha
    have hj : j < l.length * 32 := by
      have := (List.getElem?_eq_some_iff.1 hu).1
      rw [List.length_map, flat_len l h.2.1] at this; exact this
    have hq : j / 32 < l.length := by omega
    have hr := hc (j / 32) hq (j % 32) u (by
      rw [List.getElem?_map, ← flat_at l h.2.1 (j / 32) (j % 32) hq (by omega), ← List.getElem?_map, show j / 32 * 32 + j % 32 = j by omega]; exact hu)
    rw [addr_add, show o + j = o + j / 32 * 32 + j % 32 by omega]
    exact hr

/-- append(own, xs...), xs a slice of digests that is read. -/
theorem wp_appD {o : Oper} {a : Act} {w : World} {K : Act → World → Prop} {Q : Exit → Act → World → Prop} (s x : Operand)
    (ho : o.op = .call { callee := .builtin .append, args := #[s, x], argTypes := #[30, 30] })
    (B : Nat) (v : Value) (l l' : List (List UInt8)) (ad : Option Addr) (cap : Nat) (hs : a.eval s = v) (hown : OwnD B w v l) (hx : a.eval x = .slice ad l'.length cap) (hr : RdD w.heap.size w ad l') (hnil : ad = none → cap = 0)
    (hlen : (l.length + l'.length) * 32 ≤ 140737488355328) (hB : B ≤ w.heap.size)
    (h : ∀ v' w', OwnD B w' v' (l ++ l') → Grew w v w' v' → K (a.put o.dst v') w') : o.wp Tryd.prog a w K Q := by
  obtain ⟨i0, hi, hz0, hz1, hz2⟩ := info_parts digInfo
  cases ad with
  | none =>
    have hl : l' = [] := by
      rcases hr.2.2 with h2 | ⟨b, o, ha, _⟩
      · exact h2
      · cases ha
    subst hl
    rw [hnil rfl] at hx
    have hrun := run_append_owned_none (P := Tryd.prog) (w := w) B 30 o.type 26 i0 32 Tryd.underlying30 hi v l.length (l.flatten.map bv) hown.2
    unfold Oper.wp
    simp only [List.length_nil] at hx
    simp [execOp, ho, resolve, invoke, builtin, hs, hx, hrun, Result.andThen]
    exact h _ _ (by simpa using hown) (Grew.refl _ _)
  | some ad =>
    have h1 : ∀ u ∈ l'.flatten.map bv, u.oneCell' = true := by
      intro u hu
      obtain ⟨c, _, rfl⟩ := List.mem_map.1 hu
      rfl
    obtain ⟨v', w', hrun, h2, h3, _, h5⟩ := run_append_own_at (P := Tryd.prog) (w := w) B 30 o.type 26 i0 (.agg (bvA (List.replicate 32 0))) 32 32 Tryd.underlying30 hi hz0 hz1 hz2 (by kernel_rfl) (by decide) v l.length (l.flatten.map bv) hown.2 ad l'.length cap (l'.flatten.map bv) (by rw [List.length_map, flat_len l' hr.2.1]) hr.news h1 (by unfold maxLen; omega) (by omega) hB
    unfold Oper.wp execOp
    simp only [ho, resolve, invoke, builtin, Sem.run_bind, Sem.run_pure, Result.andThen_ok, List.map_toArray, List.map_cons, List.map_nil, hs, hx, hrun]
    refine h v' w' ⟨fun d hd => ?_, ?_⟩ ⟨h3, fun k hk => ?_⟩
    · rcases List.mem_append.1 hd with hd | hd
      · exact hown.1 d hd
      · exact hr.2.1 d hd
    · rw [List.length_append, List.flatten_append, List.map_append]; exact h2
    · rcases h5 with h5 | h5
      · exact .inl (h5 ▸ hk)
      · rw [h5] at hk; cases hk; exact .inr (Nat.le_refl _)
theorem wpList_appD {ops : Array Oper} {rest : List Oper} {o : Oper} {a : Act} {w : World} {Q : Exit → Act → World → Prop} (hgd : o.guard = none) (s x : Operand)
    (ho : o.op = .call { callee := .builtin .append, args := #[s, x], argTypes := #[30, 30] })
    (B : Nat) (v : Value) (l l' : List (List UInt8)) (ad : Option Addr) (cap : Nat) (hs : a.eval s = v) (hown : OwnD B w v l) (hx : a.eval x = .slice ad l'.length cap) (hr : RdD w.heap.size w ad l') (hnil : ad = none → cap = 0)
    (hlen : (l.length + l'.length) * 32 ≤ 140737488355328) (hB : B ≤ w.heap.size)
    (h : ∀ v' w', OwnD B w' v' (l ++ l') → Grew w v w' v' → wpList Tryd.prog ops Q rest (a.put o.dst v') w') : wpList Tryd.prog ops Q (o :: rest) a w :=
  wpList_plain hgd fun _ hK => wp_appD s x ho B v l l' ad cap hs hown hx hr hnil hlen hB fun v' w' h2 h3 => hK _ _ (h v' w' h2 h3)
theorem step_appD {ops : Array Oper} {o : Oper} {a : Act} {w : World} {K : Act → World → Prop} {Q : Exit → Act → World → Prop} {E : Prop} (hgd : o.guard = none) (s x : Operand)
    (ho : o.op = .call { callee := .builtin .append, args := #[s, x], argTypes := #[30, 30] })
    (B : Nat) (v : Value) (l l' : List (List UInt8)) (ad : Option Addr) (cap : Nat) (hs : a.eval s = v) (hown : OwnD B w v l) (hx : a.eval x = .slice ad l'.length cap) (hr : RdD w.heap.size w ad l') (hnil : ad = none → cap = 0)
    (hlen : (l.length + l'.length) * 32 ≤ 140737488355328) (hB : B ≤ w.heap.size)
    (h : ∀ v' w', OwnD B w' v' (l ++ l') → Grew w v w' v' → K (a.put o.dst v') w') : if Region.wanted o (yielded ops a.tmps) = true then Oper.wp Tryd.prog o a w K Q else E := by
  have hw : Region.wanted o (yielded ops a.tmps) = true := by simp [Region.wanted, hgd]
  rw [if_pos hw]
  exact wp_appD s x ho B v l l' ad cap hs hown hx hr hnil hlen hB h
theorem fold_get (off : Nat) : ∀ (l : List Value) (k : Nat) (acc : Array Value) (i : Nat), off + k + l.length ≤ acc.size →
    ((l.zipIdx k).foldl (fun cs (x : Value × Nat) => cs.setIfInBounds (off + x.2) x.1) acc)[i]? = if off + k ≤ i ∧ i < off + k + l.length then l[i - (off + k)]? else acc[i]?
  | [], k, acc, i, _ => by rw [if_neg (by rw [List.length_nil]; omega)]; rfl
  | v :: l, k, acc, i, h => by
    rw [List.zipIdx_cons, List.foldl_cons]
    simp only [List.length_cons] at h
    rw [fold_get off l (k + 1) _ i (by rw [Array.size_setIfInBounds]; omega)]
    by_cases h1 : off + (k + 1) ≤ i ∧ i < off + (k + 1) + l.length
    · rw [if_pos h1, if_pos (by rw [List.length_cons]; omega)]
      have : i - (off + k) = (i - (off + (k + 1))) + 1 := by omega
      rw [this, List.getElem?_cons_succ]
    · rw [if_neg h1, Array.getElem?_setIfInBounds]
      by_cases h2 : off + k = i
      · subst h2
        rw [if_pos rfl, if_pos (by omega), if_pos (by rw [List.length_cons]; omega)]; simp
      · rw [if_neg h2, if_neg (by rw [List.length_cons]; omega)]
/-- One part that fills the whole. -/
theorem fill_whole (place : Nat → Option (Nat × Nat)) (base cs : Array Value) (hp : place 0 = some (0, cs.size)) (hs : base.size = cs.size) : Instr.fill place base [(0, .agg cs)] = some cs := by
  have h0 : ¬ (((Value.agg cs).cells.size ≠ cs.size || decide (0 + (Value.agg cs).cells.size > base.size)) = true) := by
    show ¬ ((cs.size ≠ cs.size || decide (0 + cs.size > base.size)) = true)
    simp [hs]
  simp only [Instr.fill, hp]
  rw [if_neg h0]
  congr 1
  show cs.zipIdx.foldl (fun a (x : Value × Nat) => a.setIfInBounds (0 + x.2) x.1) base = cs
  apply Array.ext_getElem?
  intro i
  rw [← Array.foldl_toList, Array.toList_zipIdx, fold_get 0 cs.toList 0 base i (by rw [Array.length_toList]; omega)]
  by_cases h : i < cs.size
  · rw [if_pos (by rw [Array.length_toList]; omega)]; simp
  · rw [if_neg (by rw [Array.length_toList]; omega), Array.getElem?_eq_none (by omega), Array.getElem?_eq_none (by omega)]
theorem fold_whole (base cs : Array Value) (hs : base.size = cs.size) : cs.zipIdx.foldl (fun a (x : Value × Nat) => a.setIfInBounds x.2 x.1) base = cs := by
  have h := fill_whole (fun _ => some (0, cs.size)) base cs rfl hs
  have h0 : ¬ (((Value.agg cs).cells.size ≠ cs.size || decide (0 + (Value.agg cs).cells.size > base.size)) = true) := by
    show ¬ ((cs.size ≠ cs.size || decide (0 + cs.size > base.size)) = true)
    simp [hs]
  simp only [Instr.fill] at h
  rw [if_neg h0] at h
  injection h with h
  have e : (fun (a : Array Value) (x : Value × Nat) => a.setIfInBounds (0 + x.2) x.1) = fun a x => a.setIfInBounds x.2 x.1 := by
    funext a x; rw [Nat.zero_add]
  have h' : cs.zipIdx.foldl (fun (a : Array Value) (x : Value × Nat) => a.setIfInBounds (0 + x.2) x.1) base = cs := h
  rw [e] at h'
  exact h'
theorem fold_dig (Y : List UInt8) (hY : Y.length = 32) (base : Array Value) (hb : base.size = 32) : Array.foldl (fun a (x : Value × Nat) => a.setIfInBounds x.2 x.1) base (bvA Y).zipIdx 0 32 = bvA Y := by
  have h := fold_whole base (bvA Y) (by rw [hb, bvA_size, hY])
  rw [Array.size_zipIdx, bvA_size, hY] at h
  exact h
/-- []Digest{d}. -/
theorem wp_build1 {o : Oper} {a : Act} {w : World} {K : Act → World → Prop} {Q : Exit → Act → World → Prop} (x : Operand) (ho : o.op = .buildSlice 30 1 #[(0, x)])
    (d : List UInt8) (hd : d.length = 32) (hx : a.eval x = .agg (bvA d)) (h : K (a.put o.dst (.slice (some ⟨w.heap.size, 0, none⟩) 1 1)) (w.alloc (.cells (bvA d) 26))) : o.wp Tryd.prog a w K Q := by
  obtain ⟨i0, hi, hz0, hz1, hz2⟩ := info_parts digInfo
  have hbs : (bvA d).size = 32 := by rw [bvA_size, hd]
  refine wp_buildSlice 30 26 1 #[(0, x)] ho (bvA d) i0 _ Tryd.underlying30 hi hz0 (by rw [hz1]; decide) (by rw [hz1]; decide) ?_ h
  have e : (#[((0 : Nat), x)].map fun (i, x) => (i, a.eval x)).toList = [(0, .agg (bvA d))] := by simp [hx]
  rw [e]
  refine fill_whole _ _ _ (by simp [hz1, hbs]) (by simp [hz1, hbs])
theorem wpList_build1 {ops : Array Oper} {rest : List Oper} {o : Oper} {a : Act} {w : World} {Q : Exit → Act → World → Prop} (hgd : o.guard = none) (x : Operand) (ho : o.op = .buildSlice 30 1 #[(0, x)])
    (d : List UInt8) (hd : d.length = 32) (hx : a.eval x = .agg (bvA d)) (h : wpList Tryd.prog ops Q rest (a.put o.dst (.slice (some ⟨w.heap.size, 0, none⟩) 1 1)) (w.alloc (.cells (bvA d) 26))) : wpList Tryd.prog ops Q (o :: rest) a w :=
  wpList_plain hgd fun _ hK => wp_build1 x ho d hd hx (hK _ _ h)
theorem step_build1 {ops : Array Oper} {o : Oper} {a : Act} {w : World} {K : Act → World → Prop} {Q : Exit → Act → World → Prop} {E : Prop} (hgd : o.guard = none) (x : Operand) (ho : o.op = .buildSlice 30 1 #[(0, x)])
    (d : List UInt8) (hd : d.length = 32) (hx : a.eval x = .agg (bvA d)) (h : K (a.put o.dst (.slice (some ⟨w.heap.size, 0, none⟩) 1 1)) (w.alloc (.cells (bvA d) 26))) : if Region.wanted o (yielded ops a.tmps) = true then Oper.wp Tryd.prog o a w K Q else E := by
  have hw : Region.wanted o (yielded ops a.tmps) = true := by simp [Region.wanted, hgd]
  rw [if_pos hw]
  exact wp_build1 x ho d hd hx h
theorem step_loadM {P : Program} {ops : Array Oper} {op : Oper} {a : Act} {w : World} {K : Act → World → Prop} {Q : Exit → Act → World → Prop} {E : Prop} (hgd : op.guard = none) (ty : TypeId) (x : Operand) (ho : op.op = .load ty x)
    (b o : Nat) (hx : a.eval x = .pointer (some ⟨b, o, none⟩)) (cs : List Value) (d : TypeDesc) (hc : w.rangeAt b o cs)
    (hu : P.underlying ty = some d) (hd : d.isRow = true) (hi : (P.info? ty).map (·.size) = some cs.length)
    (h : K (a.put op.dst (.agg cs.toArray)) w) : if Region.wanted op (yielded ops a.tmps) = true then op.wp P a w K Q else E := by
  have hw : Region.wanted op (yielded ops a.tmps) = true := by simp [Region.wanted, hgd]
  rw [if_pos hw]
  exact wp_load_mid ty x ho b o hx cs d hc hu hd hi h
theorem step_storeM {P : Program} {ops : Array Oper} {op : Oper} {a : Act} {w : World} {K : Act → World → Prop} {Q : Exit → Act → World → Prop} {E : Prop} (hgd : op.guard = none) (ty : TypeId) (x y : Operand) (ho : op.op = .store ty x y)
    (b o : Nat) (cells : Array Value) (hx : a.eval x = .pointer (some ⟨b, o, none⟩)) (hy : a.eval y = .agg cells)
    (ht : w.there b o cells.size) (hi : (P.info? ty).map (·.size) = some cells.size) (h1 : cells.all (·.oneCell') = true)
    (h : K (a.put op.dst undef) (w.setCells b o cells.toList)) : if Region.wanted op (yielded ops a.tmps) = true then op.wp P a w K Q else E := by
  have hw : Region.wanted op (yielded ops a.tmps) = true := by simp [Region.wanted, hgd]
  rw [if_pos hw]
  exact wp_store_mid ty x y ho b o cells hx hy ht hi h1 h
/-- A slice of one digest that has just been built. -/
theorem RdD.one {w : World} {g : Nat} {d : List UInt8} (h : BB w g 26 d) (hd : d.length = 32) : RdD w.heap.size w (some ⟨g, 0, none⟩) [d] := by
  refine ⟨by unfold maxLen; simp, by simpa using hd, .inr ⟨g, 0, rfl, h.lt, fun j hj => ?_⟩⟩
  obtain rfl : j = 0 := by simpa using hj
  intro i v hv
  have hi := (List.getElem?_eq_some_iff.1 hv).1
  rw [List.length_map] at hi
  have hi : i < d.length := hi
  show w.cell? ⟨g, 0 + 0 * 32 + i, none⟩ = _
  rw [show 0 + 0 * 32 + i = i by omega, h.cell i hi]
  rw [← hv]; simp [hi]
end Go.Proofs.YtndbhmipehpebaaDoor
