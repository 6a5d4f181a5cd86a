/-
  Slices of digests that the call owns, and appending to one.
-/
import Derived.Test.YtmeoicfeiamkmaaDoorTre
import Derived.Great.BuildSlice
namespace Go.Proofs.YtmeoicfeiamkmaaDoor
open Go.RowKit

theorem flat_len : ∀ (l : List (List UInt8)), (∀ d ∈ l, d.length = 32) → l.flatten.length = l.length * 32
  | [], _ => rfl
  | d :: l, h => by
    rw [List.flatten_cons, List.length_append, flat_len l (fun x hx => h x (List.mem_cons_of_mem _ hx)), h d (List.mem_cons_self ..), List.length_cons]; omega
theorem flat_at : ∀ (l : List (List UInt8)), (∀ d ∈ l, d.length = 32) → ∀ (j i : Nat) (hj : j < l.length), i < 32 → l.flatten[j * 32 + i]? = l[j][i]?
  | [], _, j, i, hj, _ => by simp at hj
  | d :: l, h, 0, i, hj, hi => by
    rw [List.flatten_cons, List.getElem?_append_left (by rw [h d (List.mem_cons_self ..)]; omega)]; simp
  | d :: l, h, j + 1, i, hj, hi => by
    have hd := h d (List.mem_cons_self ..)
    rw [List.flatten_cons, List.getElem?_append_right (by omega), hd, show (j + 1) * 32 + i - 32 = j * 32 + i by omega, flat_at l (fun x hx => h x (List.mem_cons_of_mem _ hx)) j i (by simpa using hj) hi]
    simp

/-- The slice value v owns the digests l. -/
def OwnD (B : Nat) (w : World) (v : Value) (l : List (List UInt8)) : Prop := (∀ d ∈ l, d.length = 32) ∧ w.ownsRow B 29 32 v l.length (l.flatten.map bv)
theorem OwnD.nil (B : Nat) (w : World) : OwnD B w (.slice none 0 0) [] := ⟨fun _ h => (by cases h), World.ownsRow_nil _ _ _ _⟩
theorem OwnD.below {B : Nat} {w w' : World} {v : Value} {l : List (List UInt8)} (h : OwnD B w v l) (hb : Below w.heap.size w w') : OwnD B w' v l := by
  refine ⟨h.1, h.2.1, ?_⟩
  rcases h.2.2 with h2 | ⟨g, cap, cur, hv, hg, hh, r⟩
  · exact .inl h2
  · exact .inr ⟨g, cap, cur, hv, hg, by rw [hb.block g (Array.getElem?_eq_some_iff.1 hh).1]; exact hh, r⟩
theorem OwnD.mono {B B' : Nat} {w : World} {v : Value} {l : List (List UInt8)} (h : OwnD B w v l) (hB : B' ≤ B) : OwnD B' w v l := by
  refine ⟨h.1, h.2.1, ?_⟩
  rcases h.2.2 with h2 | ⟨g, cap, cur, hv, hg, r⟩
  · exact .inl h2
  · exact .inr ⟨g, cap, cur, hv, by omega, r⟩
theorem OwnD.alloc {B : Nat} {w : World} {v : Value} {l : List (List UInt8)} (h : OwnD B w v l) (o : Obj) : OwnD B (w.alloc o) v l := ⟨h.1, World.ownsRow.alloc h.2 o⟩
theorem OwnD.drew {B : Nat} {w : World} {v : Value} {l : List (List UInt8)} (h : OwnD B w v l) : OwnD B w.drew v l := h
theorem OwnD.drewN {B : Nat} {w : World} {v : Value} {l : List (List UInt8)} (h : OwnD B w v l) (n : Nat) : OwnD B (w.drewN n) v l := h
theorem OwnD.base {B : Nat} {w : World} {v : Value} {l : List (List UInt8)} (h : OwnD B w v l) : ∀ k, v.ownBlock = some k → B ≤ k := fun k hk => (World.ownsRow.lt h.2 k hk).1
theorem OwnD.lt {B : Nat} {w : World} {v : Value} {l : List (List UInt8)} (h : OwnD B w v l) : ∀ k, v.ownBlock = some k → k < w.heap.size := fun k hk => (World.ownsRow.lt h.2 k hk).2
/-- The form of an owned slice of digests. -/
theorem OwnD.form {B : Nat} {w : World} {v : Value} {l : List (List UInt8)} (h : OwnD B w v l) : ∃ a cap, v = .slice a l.length cap ∧ l.length ≤ cap ∧ cap ≤ maxLen ∧ (a = none → cap = 0) ∧ RdD w.heap.size w a l := by
  have hc := @World.ownsRow.cells w B _ 32 v l.length (l.flatten.map bv) h.2
  rcases h.2.2 with ⟨rfl, h0⟩ | ⟨g, cap, cur, rfl, hg, hh, h3, h4, r⟩
  · have : l = [] := List.eq_nil_of_length_eq_zero h0
    subst this
    exact ⟨none, 0, rfl, Nat.le_refl _, Nat.zero_le _, fun _ => rfl, Nat.zero_le _, fun _ h => (by cases h), .inl rfl⟩
  · have hg2 := (Array.getElem?_eq_some_iff.1 hh).1
    refine ⟨some ⟨g, 0, none⟩, cap, rfl, h3, h4, (fun e => by cases e), by omega, h.1, .inr ⟨g, 0, rfl, hg2, fun j hj i v hv => ?_⟩⟩
    have hi : i < 32 := by
      have := (List.getElem?_eq_some_iff.1 hv).1
      rw [List.length_map, h.1 _ (List.getElem_mem hj)] at this; exact this
    have := hc (g := g) rfl (j * 32 + i) v (by rw [List.getElem?_map, flat_at l h.1 j i hj hi, ← List.getElem?_map]; exact hv)
    rw [← this, addr_add, Nat.zero_add, Nat.zero_add]

theorem digInfo : (Tryd.prog.info? 29).map (fun i => (i.zero, i.size, i.bytes)) = some (some (.agg (bvA (List.replicate 32 0))), 32, 32) := by kernel_rfl
theorem RdD.news {w : World} {B : Nat} {ad : Addr} {l : List (List UInt8)} (h : RdD B w (some ad) l) : ∀ j u, (l.flatten.map bv)[j]? = some u → w.cell? (ad.add j) = some u := by
  intro j u hu
  rcases h.2.2 with h2 | ⟨b, o, ha, _, hc⟩
  · subst h2; simp at hu
  · injection ha with ha
    subst ha
    have hj : j < l.length * 32 := by
      have := (List.getElem?_eq_some_iff.1 hu).1
      rw [List.length_map, flat_len l h.2.1] at this; exact this
    have hq : j / 32 < l.length := by omega
    have hr := hc (j / 32) hq (j % 32) u (by
      rw [List.getElem?_map, ← flat_at l h.2.1 (j / 32) (j % 32) hq (by omega), ← List.getElem?_map, show j / 32 * 32 + j % 32 = j by omega]; exact hu)
    rw [addr_add, show o + j = o + j / 32 * 32 + j % 32 by omega]
    exact hr

theorem fold_get (off : Nat) : ∀ (l : List Value) (k : Nat) (acc : Array Value) (i : Nat), off + k + l.length ≤ acc.size →
    ((l.zipIdx k).foldl (fun cs (x : Value × Nat) => cs.setIfInBounds (off + x.2) x.1) acc)[i]? = if off + k ≤ i ∧ i < off + k + l.length then l[i - (off + k)]? else acc[i]?
  | [], k, acc, i, _ => by rw [if_neg (by rw [List.length_nil]; omega)]; rfl
  | v :: l, k, acc, i, h => by
    rw [List.zipIdx_cons, List.foldl_cons]
    simp only [List.length_cons] at h
    rw [fold_get off l (k + 1) _ i (by rw [Array.size_setIfInBounds]; omega)]
    by_cases h1 : off + (k + 1) ≤ i ∧ i < off + (k + 1) + l.length
    · rw [if_pos h1, if_pos (by rw [List.length_cons]; omega)]
      have : i - (off + k) = (i - (off + (k + 1))) + 1 := by omega
      rw [this, List.getElem?_cons_succ]
    · rw [if_neg h1, Array.getElem?_setIfInBounds]
      by_cases h2 : off + k = i
      · subst h2
        rw [if_pos rfl, if_pos (by omega), if_pos (by rw [List.length_cons]; omega)]; simp
      · rw [if_neg h2, if_neg (by rw [List.length_cons]; omega)]
/-- One part that fills the whole. -/
theorem fill_whole (place : Nat → Option (Nat × Nat)) (base cs : Array Value) (hp : place 0 = some (0, cs.size)) (hs : base.size = cs.size) : Instr.fill place base [(0, .agg cs)] = some cs := by
  have h0 : ¬ (((Value.agg cs).cells.size ≠ cs.size || decide (0 + (Value.agg cs).cells.size > base.size)) = true) := by
    show ¬ ((cs.size ≠ cs.size || decide (0 + cs.size > base.size)) = true)
    simp [hs]
  simp only [Instr.fill, hp]
  rw [if_neg h0]
  congr 1
  show cs.zipIdx.foldl (fun a (x : Value × Nat) => a.setIfInBounds (0 + x.2) x.1) base = cs
  apply Array.ext_getElem?
  intro i
  rw [← Array.foldl_toList, Array.toList_zipIdx, fold_get 0 cs.toList 0 base i (by rw [Array.length_toList]; omega)]
  by_cases h : i < cs.size
  · rw [if_pos (by rw [Array.length_toList]; omega)]; simp
  · rw [if_neg (by rw [Array.length_toList]; omega), Array.getElem?_eq_none (by omega), Array.getElem?_eq_none (by omega)]
theorem fold_whole (base cs : Array Value) (hs : base.size = cs.size) : cs.zipIdx.foldl (fun a (x : Value × Nat) => a.setIfInBounds x.2 x.1) base = cs := by
  have h := fill_whole (fun _ => some (0, cs.size)) base cs rfl hs
  have h0 : ¬ (((Value.agg cs).cells.size ≠ cs.size || decide (0 + (Value.agg cs).cells.size > base.size)) = true) := by
    show ¬ ((cs.size ≠ cs.size || decide (0 + cs.size > base.size)) = true)
    simp [hs]
  simp only [Instr.fill] at h
  rw [if_neg h0] at h
  injection h with h
  have e : (fun (a : Array Value) (x : Value × Nat) => a.setIfInBounds (0 + x.2) x.1) = fun a x => a.setIfInBounds x.2 x.1 := by
    funext a x; rw [Nat.zero_add]
  have h' : cs.zipIdx.foldl (fun (a : Array Value) (x : Value × Nat) => a.setIfInBounds (0 + x.2) x.1) base = cs := h
  rw [e] at h'
  exact h'
theorem fold_dig (Y : List UInt8) (hY : Y.length = 32) (base : Array Value) (hb : base.size = 32) : Array.foldl (fun a (x : Value × Nat) => a.setIfInBounds x.2 x.1) base (bvA Y).zipIdx 0 32 = bvA Y := by
  have h := fold_whole base (bvA Y) (by rw [hb, bvA_size, hY])
  rw [Array.size_zipIdx, bvA_size, hY] at h
  exact h
theorem step_loadM {P : Program} {ops : Array Oper} {op : Oper} {a : Act} {w : World} {K : Act → World → Prop} {Q : Exit → Act → World → Prop} {E : Prop} (hgd : op.guard = none) (ty : TypeId) (x : Operand) (ho : op.op = .load ty x)
    (b o : Nat) (hx : a.eval x = .pointer (some ⟨b, o, none⟩)) (cs : List Value) (d : TypeDesc) (hc : w.rangeAt b o cs)
    (hu : P.underlying ty = some d) (hd : d.isRow = true) (hi : (P.info? ty).map (·.size) = some cs.length)
    (h : K (a.put op.dst (.agg cs.toArray)) w) : if Region.wanted op (yielded ops a.tmps) = true then op.wp P a w K Q else E := by
  have hw : Region.wanted op (yielded ops a.tmps) = true := by simp [Region.wanted, hgd]
  rw [if_pos hw]
  exact wp_load_mid ty x ho b o hx cs d hc hu hd hi h
theorem step_storeM {P : Program} {ops : Array Oper} {op : Oper} {a : Act} {w : World} {K : Act → World → Prop} {Q : Exit → Act → World → Prop} {E : Prop} (hgd : op.guard = none) (ty : TypeId) (x y : Operand) (ho : op.op = .store ty x y)
    (b o : Nat) (cells : Array Value) (hx : a.eval x = .pointer (some ⟨b, o, none⟩)) (hy : a.eval y = .agg cells)
    (ht : w.there b o cells.size) (hi : (P.info? ty).map (·.size) = some cells.size) (h1 : cells.all (·.oneCell') = true)
    (h : K (a.put op.dst undef) (w.setCells b o cells.toList)) : if Region.wanted op (yielded ops a.tmps) = true then op.wp P a w K Q else E := by
  have hw : Region.wanted op (yielded ops a.tmps) = true := by simp [Region.wanted, hgd]
  rw [if_pos hw]
  exact wp_store_mid ty x y ho b o cells hx hy ht hi h1 h
/-- A slice of one digest that has just been built. -/
theorem RdD.one {w : World} {g : Nat} {d : List UInt8} (h : BB w g 29 d) (hd : d.length = 32) : RdD w.heap.size w (some ⟨g, 0, none⟩) [d] := by
  refine ⟨by unfold maxLen; simp, by simpa using hd, .inr ⟨g, 0, rfl, h.lt, fun j hj => ?_⟩⟩
  obtain rfl : j = 0 := by simpa using hj
  intro i v hv
  have hi := (List.getElem?_eq_some_iff.1 hv).1
  rw [List.length_map] at hi
  have hi : i < d.length := hi
  show w.cell? ⟨g, 0 + 0 * 32 + i, none⟩ = _
  rw [show 0 + 0 * 32 + i = i by omega, h.cell i hi]
  rw [← hv]; simp [hi]
end Go.Proofs.YtmeoicfeiamkmaaDoor
