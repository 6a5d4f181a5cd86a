/-
  Trees of hashes: the plain functions, and Tree of package digest.
  Slices of digests that the call owns, and appending to one.
  Paths in trees of hashes: pathOf and Path of package digest.
  Path, pathLength, climb and Climb of package digest.
  Climb of package digest.
  Comparing digests.
  The examples of the chapter hold.
  The walk of chartroomlaw02.DigestTags.
  What the rows' listed tables give a walk; slices of bytes that came in.
  A digest that came in by value.
-/
import Derived.Test.YteigldfdaciopaaGreatDoorPkB
import Derived.Test.YteigldfdaciopaaGreatDoorShelf
import Derived.Deep.RegionHeld3
import Derived.Lib.BitFns
import Derived.Great.BuildSlice
import Derived.ChangeKeysEq
import Derived.Lib.SlBytesConst
import Derived.Test.YteigldfdaciopaaGreatDoorCards
import Derived.Test.YteigldfdaciopaaGreatDoorPkA
import Derived.Lib.LaidTab
import Derived.Lib.SmallJoins
import Derived.Stop.LaidErr
import Derived.WalkKit
import Derived.ProofKit
import Derived.OpenShut
import Derived.Below
set_option linter.unusedVariables false
set_option linter.unusedSimpArgs false
namespace Go.Proofs.YteigldfdaciopaaGreatDoor
open Go.RowKit

/-- The greatest power of 2 less than n, for n from 2 on. -/
def half (n : Nat) : Nat := 2 ^ Nat.log2 (n - 1)
theorem half_bd (n : Nat) (h : 2 ≤ n) : half n < n ∧ n ≤ 2 * half n ∧ 1 ≤ half n := by
  have h0 : n - 1 ≠ 0 := by omega
  have h1 := Nat.log2_self_le h0
  have h2 := @Nat.lt_log2_self (n - 1)
  unfold half
  rw [Nat.pow_succ] at h2
  exact ⟨by omega, by omega, Nat.one_le_two_pow⟩
theorem half_unique (n i : Nat) (h1 : 2 ^ i < n) (h2 : n ≤ 2 ^ (i + 1)) : 2 ^ i = half n := by
  unfold half
  congr 1
  have h0 : n - 1 ≠ 0 := by have := @Nat.one_le_two_pow i; omega
  exact ((Nat.log2_eq_iff h0).2 ⟨by omega, by omega⟩).symm

def treeS (l : List (List UInt8)) : List UInt8 :=
  if h : l.length < 2 then
    match l with
    | [] => tagS [101, 109, 112, 116, 121] []
    | d :: _ => leafS d
  else
    nodeS (treeS (l.take (half l.length))) (treeS (l.drop (half l.length)))
termination_by l.length
decreasing_by
  · have := half_bd l.length (by omega); rw [List.length_take]; omega
  · have := half_bd l.length (by omega); rw [List.length_drop]; omega
theorem treeS_nil : treeS [] = tagS [101, 109, 112, 116, 121] [] := by rw [treeS]; rfl
theorem treeS_one (d : List UInt8) : treeS [d] = leafS d := by rw [treeS]; rfl
theorem treeS_node (l : List (List UInt8)) (h : 2 ≤ l.length) : treeS l = nodeS (treeS (l.take (half l.length))) (treeS (l.drop (half l.length))) := by
  rw [treeS, dif_neg (by omega)]
theorem treeS_len (l : List (List UInt8)) : (treeS l).length = 32 := by
  rw [treeS]
  split
  · split <;> exact tagS_len _ _
  · exact tagS_len _ _

theorem bitLenAux_log : ∀ (f x : Nat), 0 < x → x < 2 ^ f → Lib.bitLenAux f x = Nat.log2 x + 1
  | 0, x, h0, h => by simp at h; omega
  | f + 1, x, h0, h => by
    by_cases h1 : x = 1
    · subst h1
      have : Lib.bitLenAux f 0 = 0 := by cases f <;> simp [Lib.bitLenAux]
      unfold Lib.bitLenAux
      rw [if_neg (by decide), show (1 : Nat) / 2 = 0 from rfl, this]; decide
    · unfold Lib.bitLenAux
      rw [if_neg (by omega), bitLenAux_log f (x / 2) (by omega) (by rw [Nat.pow_succ] at h; omega), Nat.log2_def x, if_pos (by omega)]
      omega
theorem bitLen_log (x : Nat) (h0 : 0 < x) (h : x < 2 ^ 64) : Lib.bitLen x = Nat.log2 x + 1 := bitLenAux_log 64 x h0 h

/-- The slice .slice a l.length cap holds the digests l. -/
def RdD (B : Nat) (w : World) (a : Option Addr) (l : List (List UInt8)) : Prop :=
  l.length ≤ maxLen ∧ (∀ d ∈ l, d.length = 32) ∧ (l = [] ∨ ∃ b o, a = some ⟨b, o, none⟩ ∧ b < B ∧ ∀ j (h : j < l.length), w.rangeAt b (o + j * 32) (l[j].map bv))
theorem RdD.len {B : Nat} {w : World} {a : Option Addr} {l : List (List UInt8)} (h : RdD B w a l) (j : Nat) (hj : j < l.length) : l[j].length = 32 := h.2.1 _ (List.getElem_mem hj)
theorem RdD.below {B : Nat} {w w' : World} {a : Option Addr} {l : List (List UInt8)} (h : RdD B w a l) (hb : Below B w w') : RdD B w' a l := by
  refine ⟨h.1, h.2.1, ?_⟩
  rcases h.2.2 with h2 | ⟨b, o, ha, hB, hc⟩
  · exact .inl h2
  · exact .inr ⟨b, o, ha, hB, fun j hj i v hv => (hb.cell (p := ⟨b, _, none⟩) hB).trans (hc j hj i v hv)⟩
theorem RdD.mono {B B' : Nat} {w : World} {a : Option Addr} {l : List (List UInt8)} (h : RdD B w a l) (hB : B ≤ B') : RdD B' w a l := by
  refine ⟨h.1, h.2.1, ?_⟩
  rcases h.2.2 with h2 | ⟨b, o, ha, hb, hc⟩
  · exact .inl h2
  · exact .inr ⟨b, o, ha, by omega, hc⟩
theorem RdD.at_ {B : Nat} {w : World} {a : Option Addr} {l : List (List UInt8)} (h : RdD B w a l) (h0 : 0 < l.length) : ∃ b o, a = some ⟨b, o, none⟩ ∧ b < B ∧ ∀ j (h : j < l.length), w.rangeAt b (o + j * 32) (l[j].map bv) := by
  rcases h.2.2 with h2 | h2
  · subst h2; simp at h0
  · exact h2
theorem RdD.take {B : Nat} {w : World} {a : Option Addr} {l : List (List UInt8)} (h : RdD B w a l) (k : Nat) : RdD B w a (l.take k) := by
  refine ⟨by rw [List.length_take]; have := h.1; omega, fun d hd => h.2.1 d (List.mem_of_mem_take hd), ?_⟩
  rcases h.2.2 with h2 | ⟨b, o, ha, hb, hc⟩
  · left; rw [h2]; simp
  · exact .inr ⟨b, o, ha, hb, fun j hj => by rw [List.length_take] at hj; rw [List.getElem_take]; exact hc j (by omega)⟩
/-- l[k:]. -/
def tailD (a : Option Addr) (len cap k : Nat) : Value := .slice (if cap = k then a else a.map (·.add (k * 32))) (len - k) (cap - k)
theorem RdD.drop {B : Nat} {w : World} {a : Option Addr} {l : List (List UInt8)} (h : RdD B w a l) {cap : Nat} (hcap : l.length ≤ cap) (k : Nat) : RdD B w (if cap = k then a else a.map (·.add (k * 32))) (l.drop k) := by
  refine ⟨by rw [List.length_drop]; have := h.1; omega, fun d hd => h.2.1 d (List.mem_of_mem_drop hd), ?_⟩
  rcases h.2.2 with h2 | ⟨b, o, ha, hb, hc⟩
  · left; rw [h2]; simp
  · by_cases e : cap = k
    · left; exact List.drop_eq_nil_of_le (by omega)
    · right
      refine ⟨b, o + k * 32, by rw [if_neg e, ha]; simp [addr_add], hb, fun j hj => ?_⟩
      rw [List.length_drop] at hj
      rw [List.getElem_drop, Nat.add_assoc, ← Nat.add_mul]
      exact hc (k + j) (by omega)
theorem grown_setCells {R : Nat} {w : World} : ∀ (vs : List Value) (o : Nat) (w2 : World), w.grownBy w2 (some R) → w.grownBy (w2.setCells R o vs) (some R)
  | [], _, _, h => h
  | v :: r, o, w2, h => by rw [World.setCells]; exact grown_setCells r (o + 1) _ (grown_set h o v)
theorem grown_refl (w : World) (R : Nat) : w.grownBy w (some R) := ⟨rfl, rfl, rfl, Nat.le_refl _, fun _ _ _ => rfl⟩
/-- A result that lies in the midst of a block. -/
theorem results_cell_mid {P : Program} {fn : Func} {p : Tmp} {ty : TypeId} (h : fn.results = #[.cell p ty]) (tmps : Array Value) (w : World) (b o : Nat) (cs : List Value) (d : TypeDesc)
    (hp : tmps.getD p undef = .pointer (some ⟨b, o, none⟩)) (hc : w.rangeAt b o cs) (hu : P.underlying ty = some d) (hd : d.isRow = true) (hi : (P.info? ty).map (·.size) = some cs.length) :
    (results fn tmps).run P w = .ok (.agg cs.toArray) w := by
  have hp' : tmps[p]?.getD undef = .pointer (some ⟨b, o, none⟩) := by simpa using hp
  simp [results, h, hp', asAddr, run_loadVar_mid w b o ty cs d hc hu hd hi]
theorem BB.there {w : World} {g : Nat} {T : TypeId} {l : List UInt8} (h : BB w g T l) : w.there g 0 l.length := fun j hj => by
  rw [Nat.zero_add, h.cell j hj]; exact ⟨rfl, h.frozen j⟩
theorem BB.range {w : World} {g : Nat} {T : TypeId} {l : List UInt8} (h : BB w g T l) : w.rangeAt g 0 (l.map bv) := fun j v hv => by
  rw [Nat.zero_add, cell_of_row w g j _ T (0, 0) h]; simpa [bvA] using hv
theorem there_below {B : Nat} {w w' : World} {g n : Nat} (h : w.there g 0 n) (hb : Below B w w') (hg : g < B) : w'.there g 0 n := fun j hj => by
  rw [hb.cell (p := ⟨g, 0 + j, none⟩) hg, hb.frozen (p := ⟨g, 0 + j, none⟩) hg]; exact h j hj

end Go.Proofs.YteigldfdaciopaaGreatDoor

namespace Go.Proofs.YteigldfdaciopaaGreatDoor
open Go.RowKit

theorem flat_len : ∀ (l : List (List UInt8)), (∀ d ∈ l, d.length = 32) → l.flatten.length = l.length * 32
  | [], _ => rfl
  | d :: l, h => by
    rw [List.flatten_cons, List.length_append, flat_len l (fun x hx => h x (List.mem_cons_of_mem _ hx)), h d (List.mem_cons_self ..), List.length_cons]; omega
theorem flat_at : ∀ (l : List (List UInt8)), (∀ d ∈ l, d.length = 32) → ∀ (j i : Nat) (hj : j < l.length), i < 32 → l.flatten[j * 32 + i]? = l[j][i]?
  | [], _, j, i, hj, _ => by simp at hj
  | d :: l, h, 0, i, hj, hi => by
    rw [List.flatten_cons, List.getElem?_append_left (by rw [h d (List.mem_cons_self ..)]; omega)]; simp
  | d :: l, h, j + 1, i, hj, hi => by
    have hd := h d (List.mem_cons_self ..)
    rw [List.flatten_cons, List.getElem?_append_right (by omega), hd, show (j + 1) * 32 + i - 32 = j * 32 + i by omega, flat_at l (fun x hx => h x (List.mem_cons_of_mem _ hx)) j i (by simpa using hj) hi]
    simp

/-- The slice value v owns the digests l. -/
def OwnD (B : Nat) (w : World) (v : Value) (l : List (List UInt8)) : Prop := (∀ d ∈ l, d.length = 32) ∧ w.ownsRow B 69 32 v l.length (l.flatten.map bv)
theorem OwnD.nil (B : Nat) (w : World) : OwnD B w (.slice none 0 0) [] := ⟨fun _ h => (by cases h), World.ownsRow_nil _ _ _ _⟩
theorem OwnD.below {B : Nat} {w w' : World} {v : Value} {l : List (List UInt8)} (h : OwnD B w v l) (hb : Below w.heap.size w w') : OwnD B w' v l := by
  refine ⟨h.1, h.2.1, ?_⟩
  rcases h.2.2 with h2 | ⟨g, cap, cur, hv, hg, hh, r⟩
  · exact .inl h2
  · exact .inr ⟨g, cap, cur, hv, hg, by rw [hb.block g (Array.getElem?_eq_some_iff.1 hh).1]; exact hh, r⟩
theorem OwnD.mono {B B' : Nat} {w : World} {v : Value} {l : List (List UInt8)} (h : OwnD B w v l) (hB : B' ≤ B) : OwnD B' w v l := by
  refine ⟨h.1, h.2.1, ?_⟩
  rcases h.2.2 with h2 | ⟨g, cap, cur, hv, hg, r⟩
  · exact .inl h2
  · exact .inr ⟨g, cap, cur, hv, by omega, r⟩
theorem OwnD.alloc {B : Nat} {w : World} {v : Value} {l : List (List UInt8)} (h : OwnD B w v l) (o : Obj) : OwnD B (w.alloc o) v l := ⟨h.1, World.ownsRow.alloc h.2 o⟩
theorem OwnD.drew {B : Nat} {w : World} {v : Value} {l : List (List UInt8)} (h : OwnD B w v l) : OwnD B w.drew v l := h
theorem OwnD.drewN {B : Nat} {w : World} {v : Value} {l : List (List UInt8)} (h : OwnD B w v l) (n : Nat) : OwnD B (w.drewN n) v l := h
theorem OwnD.base {B : Nat} {w : World} {v : Value} {l : List (List UInt8)} (h : OwnD B w v l) : ∀ k, v.ownBlock = some k → B ≤ k := fun k hk => (World.ownsRow.lt h.2 k hk).1
theorem OwnD.lt {B : Nat} {w : World} {v : Value} {l : List (List UInt8)} (h : OwnD B w v l) : ∀ k, v.ownBlock = some k → k < w.heap.size := fun k hk => (World.ownsRow.lt h.2 k hk).2
/-- The form of an owned slice of digests. -/
theorem OwnD.form {B : Nat} {w : World} {v : Value} {l : List (List UInt8)} (h : OwnD B w v l) : ∃ a cap, v = .slice a l.length cap ∧ l.length ≤ cap ∧ cap ≤ maxLen ∧ (a = none → cap = 0) ∧ RdD w.heap.size w a l := by
  have hc := @World.ownsRow.cells w B _ 32 v l.length (l.flatten.map bv) h.2
  rcases h.2.2 with ⟨rfl, h0⟩ | ⟨g, cap, cur, rfl, hg, hh, h3, h4, r⟩
  · have : l = [] := List.eq_nil_of_length_eq_zero h0
    subst this
    exact ⟨none, 0, rfl, Nat.le_refl _, Nat.zero_le _, fun _ => rfl, Nat.zero_le _, fun _ h => (by cases h), .inl rfl⟩
  · have hg2 := (Array.getElem?_eq_some_iff.1 hh).1
    refine ⟨some ⟨g, 0, none⟩, cap, rfl, h3, h4, (fun e => by cases e), by omega, h.1, .inr ⟨g, 0, rfl, hg2, fun j hj i v hv => ?_⟩⟩
    have hi : i < 32 := by
      have := (List.getElem?_eq_some_iff.1 hv).1
      rw [List.length_map, h.1 _ (List.getElem_mem hj)] at this; exact this
    have := hc (g := g) rfl (j * 32 + i) v (by rw [List.getElem?_map, flat_at l h.1 j i hj hi, ← List.getElem?_map]; exact hv)
    rw [← this, addr_add, Nat.zero_add, Nat.zero_add]

theorem digInfo : (Tryz.prog.info? 69).map (fun i => (i.zero, i.size, i.bytes)) = some (some (.agg (bvA (List.replicate 32 0))), 32, 32) := by kernel_rfl
theorem RdD.news {w : World} {B : Nat} {ad : Addr} {l : List (List UInt8)} (h : RdD B w (some ad) l) : ∀ j u, (l.flatten.map bv)[j]? = some u → w.cell? (ad.add j) = some u := by
  intro j u hu
  rcases h.2.2 with h2 | ⟨b, o, ha, _, hc⟩
  · subst h2; simp at hu
  · injection ha with ha
    subst ha
    have hj : j < l.length * 32 := by
      have := (List.getElem?_eq_some_iff.1 hu).1
      rw [List.length_map, flat_len l h.2.1] at this; exact this
    have hq : j / 32 < l.length := by omega
    have hr := hc (j / 32) hq (j % 32) u (by
      rw [List.getElem?_map, ← flat_at l h.2.1 (j / 32) (j % 32) hq (by omega), ← List.getElem?_map, show j / 32 * 32 + j % 32 = j by omega]; exact hu)
    rw [addr_add, show o + j = o + j / 32 * 32 + j % 32 by omega]
    exact hr

theorem fold_get (off : Nat) : ∀ (l : List Value) (k : Nat) (acc : Array Value) (i : Nat), off + k + l.length ≤ acc.size →
    ((l.zipIdx k).foldl (fun cs (x : Value × Nat) => cs.setIfInBounds (off + x.2) x.1) acc)[i]? = if off + k ≤ i ∧ i < off + k + l.length then l[i - (off + k)]? else acc[i]?
  | [], k, acc, i, _ => by rw [if_neg (by rw [List.length_nil]; omega)]; rfl
  | v :: l, k, acc, i, h => by
    rw [List.zipIdx_cons, List.foldl_cons]
    simp only [List.length_cons] at h
    rw [fold_get off l (k + 1) _ i (by rw [Array.size_setIfInBounds]; omega)]
    by_cases h1 : off + (k + 1) ≤ i ∧ i < off + (k + 1) + l.length
    · rw [if_pos h1, if_pos (by rw [List.length_cons]; omega)]
      have : i - (off + k) = (i - (off + (k + 1))) + 1 := by omega
      rw [this, List.getElem?_cons_succ]
    · rw [if_neg h1, Array.getElem?_setIfInBounds]
      by_cases h2 : off + k = i
      · subst h2
        rw [if_pos rfl, if_pos (by omega), if_pos (by rw [List.length_cons]; omega)]; simp
      · rw [if_neg h2, if_neg (by rw [List.length_cons]; omega)]
/-- One part that fills the whole. -/
theorem fill_whole (place : Nat → Option (Nat × Nat)) (base cs : Array Value) (hp : place 0 = some (0, cs.size)) (hs : base.size = cs.size) : Instr.fill place base [(0, .agg cs)] = some cs := by
  have h0 : ¬ (((Value.agg cs).cells.size ≠ cs.size || decide (0 + (Value.agg cs).cells.size > base.size)) = true) := by
    show ¬ ((cs.size ≠ cs.size || decide (0 + cs.size > base.size)) = true)
    simp [hs]
  simp only [Instr.fill, hp]
  rw [if_neg h0]
  congr 1
  show cs.zipIdx.foldl (fun a (x : Value × Nat) => a.setIfInBounds (0 + x.2) x.1) base = cs
  apply Array.ext_getElem?
  intro i
  rw [← Array.foldl_toList, Array.toList_zipIdx, fold_get 0 cs.toList 0 base i (by rw [Array.length_toList]; omega)]
  by_cases h : i < cs.size
  · rw [if_pos (by rw [Array.length_toList]; omega)]; simp
  · rw [if_neg (by rw [Array.length_toList]; omega), Array.getElem?_eq_none (by omega), Array.getElem?_eq_none (by omega)]
theorem fold_whole (base cs : Array Value) (hs : base.size = cs.size) : cs.zipIdx.foldl (fun a (x : Value × Nat) => a.setIfInBounds x.2 x.1) base = cs := by
  have h := fill_whole (fun _ => some (0, cs.size)) base cs rfl hs
  have h0 : ¬ (((Value.agg cs).cells.size ≠ cs.size || decide (0 + (Value.agg cs).cells.size > base.size)) = true) := by
    show ¬ ((cs.size ≠ cs.size || decide (0 + cs.size > base.size)) = true)
    simp [hs]
  simp only [Instr.fill] at h
  rw [if_neg h0] at h
  injection h with h
  have e : (fun (a : Array Value) (x : Value × Nat) => a.setIfInBounds (0 + x.2) x.1) = fun a x => a.setIfInBounds x.2 x.1 := by
    funext a x; rw [Nat.zero_add]
  have h' : cs.zipIdx.foldl (fun (a : Array Value) (x : Value × Nat) => a.setIfInBounds (0 + x.2) x.1) base = cs := h
  rw [e] at h'
  exact h'
theorem fold_dig (Y : List UInt8) (hY : Y.length = 32) (base : Array Value) (hb : base.size = 32) : Array.foldl (fun a (x : Value × Nat) => a.setIfInBounds x.2 x.1) base (bvA Y).zipIdx 0 32 = bvA Y := by
  have h := fold_whole base (bvA Y) (by rw [hb, bvA_size, hY])
  rw [Array.size_zipIdx, bvA_size, hY] at h
  exact h
theorem step_loadM {P : Program} {ops : Array Oper} {op : Oper} {a : Act} {w : World} {K : Act → World → Prop} {Q : Exit → Act → World → Prop} {E : Prop} (hgd : op.guard = none) (ty : TypeId) (x : Operand) (ho : op.op = .load ty x)
    (b o : Nat) (hx : a.eval x = .pointer (some ⟨b, o, none⟩)) (cs : List Value) (d : TypeDesc) (hc : w.rangeAt b o cs)
    (hu : P.underlying ty = some d) (hd : d.isRow = true) (hi : (P.info? ty).map (·.size) = some cs.length)
    (h : K (a.put op.dst (.agg cs.toArray)) w) : if Region.wanted op (yielded ops a.tmps) = true then op.wp P a w K Q else E := by
  have hw : Region.wanted op (yielded ops a.tmps) = true := by simp [Region.wanted, hgd]
  rw [if_pos hw]
  exact wp_load_mid ty x ho b o hx cs d hc hu hd hi h
theorem step_storeM {P : Program} {ops : Array Oper} {op : Oper} {a : Act} {w : World} {K : Act → World → Prop} {Q : Exit → Act → World → Prop} {E : Prop} (hgd : op.guard = none) (ty : TypeId) (x y : Operand) (ho : op.op = .store ty x y)
    (b o : Nat) (cells : Array Value) (hx : a.eval x = .pointer (some ⟨b, o, none⟩)) (hy : a.eval y = .agg cells)
    (ht : w.there b o cells.size) (hi : (P.info? ty).map (·.size) = some cells.size) (h1 : cells.all (·.oneCell') = true)
    (h : K (a.put op.dst undef) (w.setCells b o cells.toList)) : if Region.wanted op (yielded ops a.tmps) = true then op.wp P a w K Q else E := by
  have hw : Region.wanted op (yielded ops a.tmps) = true := by simp [Region.wanted, hgd]
  rw [if_pos hw]
  exact wp_store_mid ty x y ho b o cells hx hy ht hi h1 h
/-- A slice of one digest that has just been built. -/
theorem RdD.one {w : World} {g : Nat} {d : List UInt8} (h : BB w g 69 d) (hd : d.length = 32) : RdD w.heap.size w (some ⟨g, 0, none⟩) [d] := by
  refine ⟨by unfold maxLen; simp, by simpa using hd, .inr ⟨g, 0, rfl, h.lt, fun j hj => ?_⟩⟩
  obtain rfl : j = 0 := by simpa using hj
  intro i v hv
  have hi := (List.getElem?_eq_some_iff.1 hv).1
  rw [List.length_map] at hi
  have hi : i < d.length := hi
  show w.cell? ⟨g, 0 + 0 * 32 + i, none⟩ = _
  rw [show 0 + 0 * 32 + i = i by omega, h.cell i hi]
  rw [← hv]; simp [hi]
end Go.Proofs.YteigldfdaciopaaGreatDoor

namespace Go.Proofs.YteigldfdaciopaaGreatDoor
open Go.RowKit

def pathS (l : List (List UInt8)) (at_ : Nat) : List (List UInt8) :=
  if h : l.length < 2 then []
  else if at_ < half l.length then pathS (l.take (half l.length)) at_ ++ [treeS (l.drop (half l.length))]
  else pathS (l.drop (half l.length)) (at_ - half l.length) ++ [treeS (l.take (half l.length))]
termination_by l.length
decreasing_by
  · have := half_bd l.length (by omega); rw [List.length_take]; omega
  · have := half_bd l.length (by omega); rw [List.length_drop]; omega
theorem pathS_one (l : List (List UInt8)) (at_ : Nat) (h : l.length < 2) : pathS l at_ = [] := by rw [pathS, dif_pos h]
theorem pathS_lo (l : List (List UInt8)) (at_ : Nat) (h : 2 ≤ l.length) (ha : at_ < half l.length) : pathS l at_ = pathS (l.take (half l.length)) at_ ++ [treeS (l.drop (half l.length))] := by
  rw [pathS, dif_neg (by omega), if_pos ha]
theorem pathS_hi (l : List (List UInt8)) (at_ : Nat) (h : 2 ≤ l.length) (ha : half l.length ≤ at_) : pathS l at_ = pathS (l.drop (half l.length)) (at_ - half l.length) ++ [treeS (l.take (half l.length))] := by
  rw [pathS, dif_neg (by omega), if_neg (by omega)]
theorem pathS_len : ∀ (N : Nat) (l : List (List UInt8)) (at_ : Nat), l.length < N → (pathS l at_).length ≤ l.length
  | 0, l, at_, h => by omega
  | N + 1, l, at_, h => by
    by_cases h2 : l.length < 2
    · rw [pathS_one l at_ h2]; simp
    · have hb := half_bd l.length (by omega)
      by_cases ha : at_ < half l.length
      · have := pathS_len N (l.take (half l.length)) at_ (by rw [List.length_take]; omega)
        rw [pathS_lo l at_ (by omega) ha, List.length_append, List.length_singleton]
        rw [List.length_take] at this; omega
      · have := pathS_len N (l.drop (half l.length)) (at_ - half l.length) (by rw [List.length_drop]; omega)
        rw [pathS_hi l at_ (by omega) (by omega), List.length_append, List.length_singleton]
        rw [List.length_drop] at this; omega
theorem pathS_32 : ∀ (N : Nat) (l : List (List UInt8)) (at_ : Nat), l.length < N → ∀ d ∈ pathS l at_, d.length = 32
  | 0, l, at_, h => by omega
  | N + 1, l, at_, h => by
    intro d hd
    by_cases h2 : l.length < 2
    · rw [pathS_one l at_ h2] at hd; cases hd
    · have hb := half_bd l.length (by omega)
      by_cases ha : at_ < half l.length
      · rw [pathS_lo l at_ (by omega) ha] at hd
        rcases List.mem_append.1 hd with hd | hd
        · exact pathS_32 N _ at_ (by rw [List.length_take]; omega) d hd
        · rw [List.mem_singleton.1 hd]; exact treeS_len _
      · rw [pathS_hi l at_ (by omega) (by omega)] at hd
        rcases List.mem_append.1 hd with hd | hd
        · exact pathS_32 N _ _ (by rw [List.length_drop]; omega) d hd
        · rw [List.mem_singleton.1 hd]; exact treeS_len _

/-- A path that has been made. -/
def MadeD (w : World) (l : List (List UInt8)) (e : Ending) (w' : World) : Prop := ∃ v, e = .returned v ∧ OwnD w.heap.size w' v l ∧ Below w.heap.size w w'

end Go.Proofs.YteigldfdaciopaaGreatDoor

namespace Go.Proofs.YteigldfdaciopaaGreatDoor
open Go.RowKit

def OkD (w : World) (l : List (List UInt8)) (e : Ending) (w' : World) : Prop := ∃ v, e = .returned (.tuple #[v, .int .i64 0]) ∧ OwnD w.heap.size w' v l ∧ Below w.heap.size w w'
def lenS (at_ n : Nat) : Nat :=
  if h : n < 2 then 0
  else if at_ < half n then lenS at_ (half n) + 1
  else lenS (at_ - half n) (n - half n) + 1
termination_by n
decreasing_by
  · have := half_bd n (by omega); omega
  · have := half_bd n (by omega); omega
theorem lenS_one (at_ n : Nat) (h : n < 2) : lenS at_ n = 0 := by rw [lenS, dif_pos h]
theorem lenS_lo (at_ n : Nat) (h : 2 ≤ n) (ha : at_ < half n) : lenS at_ n = lenS at_ (half n) + 1 := by rw [lenS, dif_neg (by omega), if_pos ha]
theorem lenS_hi (at_ n : Nat) (h : 2 ≤ n) (ha : half n ≤ at_) : lenS at_ n = lenS (at_ - half n) (n - half n) + 1 := by rw [lenS, dif_neg (by omega), if_neg (by omega)]
theorem lenS_le : ∀ (N at_ n : Nat), n < N → lenS at_ n ≤ n
  | 0, _, _, h => by omega
  | N + 1, at_, n, h => by
    by_cases h2 : n < 2
    · rw [lenS_one _ _ h2]; omega
    · have hb := half_bd n (by omega)
      by_cases ha : at_ < half n
      · have := lenS_le N at_ (half n) (by omega)
        rw [lenS_lo _ _ (by omega) ha]; omega
      · have := lenS_le N (at_ - half n) (n - half n) (by omega)
        rw [lenS_hi _ _ (by omega) (by omega)]; omega
theorem pathS_lenS : ∀ (N : Nat) (l : List (List UInt8)) (at_ : Nat), l.length < N → (pathS l at_).length = lenS at_ l.length
  | 0, l, at_, h => by omega
  | N + 1, l, at_, h => by
    by_cases h2 : l.length < 2
    · rw [pathS_one l at_ h2, lenS_one _ _ h2]; rfl
    · have hb := half_bd l.length (by omega)
      by_cases ha : at_ < half l.length
      · rw [pathS_lo l at_ (by omega) ha, lenS_lo _ _ (by omega) ha, List.length_append, pathS_lenS N _ at_ (by rw [List.length_take]; omega), List.length_take, Nat.min_eq_left (by omega)]; rfl
      · rw [pathS_hi l at_ (by omega) (by omega), lenS_hi _ _ (by omega) (by omega), List.length_append, pathS_lenS N _ _ (by rw [List.length_drop]; omega), List.length_drop]; rfl

def climbS (d : List UInt8) (at_ n : Nat) (p : List (List UInt8)) : List UInt8 :=
  if h : n < 2 then leafS d
  else if at_ < half n then nodeS (climbS d at_ (half n) (p.take (p.length - 1))) (p.getD (p.length - 1) [])
  else nodeS (p.getD (p.length - 1) []) (climbS d (at_ - half n) (n - half n) (p.take (p.length - 1)))
termination_by n
decreasing_by
  · have := half_bd n (by omega); omega
  · have := half_bd n (by omega); omega
theorem climbS_one (d : List UInt8) (at_ n : Nat) (p : List (List UInt8)) (h : n < 2) : climbS d at_ n p = leafS d := by rw [climbS, dif_pos h]
theorem climbS_lo (d : List UInt8) (at_ n : Nat) (p : List (List UInt8)) (h : 2 ≤ n) (ha : at_ < half n) : climbS d at_ n p = nodeS (climbS d at_ (half n) (p.take (p.length - 1))) (p.getD (p.length - 1) []) := by
  rw [climbS, dif_neg (by omega), if_pos ha]
theorem climbS_hi (d : List UInt8) (at_ n : Nat) (p : List (List UInt8)) (h : 2 ≤ n) (ha : half n ≤ at_) : climbS d at_ n p = nodeS (p.getD (p.length - 1) []) (climbS d (at_ - half n) (n - half n) (p.take (p.length - 1))) := by
  rw [climbS, dif_neg (by omega), if_neg (by omega)]
theorem climbS_len (d : List UInt8) (at_ n : Nat) (p : List (List UInt8)) : (climbS d at_ n p).length = 32 := by
  rw [climbS]
  split
  · exact tagS_len _ _
  · split <;> exact tagS_len _ _
/-- A path leads to the digest of its list. -/
theorem climb_path : ∀ (N : Nat) (l : List (List UInt8)) (at_ : Nat) (d : List UInt8) (h : l[at_]? = some d), l.length < N → climbS d at_ l.length (pathS l at_) = treeS l
  | 0, l, at_, d, h, hN => by omega
  | N + 1, l, at_, d, h, hN => by
    have hlt : at_ < l.length := (List.getElem?_eq_some_iff.1 h).1
    by_cases h2 : l.length < 2
    · rw [climbS_one _ _ _ _ h2]
      obtain ⟨x, rfl⟩ := List.length_eq_one_iff.1 (show l.length = 1 by omega)
      obtain rfl : at_ = 0 := by simpa using hlt
      rw [treeS_one]
      injection h with h
      rw [h]
    · have hb := half_bd l.length (by omega)
      by_cases ha : at_ < half l.length
      · have ih := climb_path N (l.take (half l.length)) at_ d (by rw [List.getElem?_take_of_lt ha]; exact h) (by rw [List.length_take]; omega)
        rw [List.length_take, Nat.min_eq_left (by omega)] at ih
        rw [climbS_lo _ _ _ _ (by omega) ha, pathS_lo l at_ (by omega) ha, treeS_node l (by omega), List.length_append, List.length_singleton, Nat.add_sub_cancel, List.take_left, ih]
        congr 1
        simp
      · have ih := climb_path N (l.drop (half l.length)) (at_ - half l.length) d (by rw [List.getElem?_drop, show half l.length + (at_ - half l.length) = at_ by omega]; exact h) (by rw [List.length_drop]; omega)
        rw [List.length_drop] at ih
        rw [climbS_hi _ _ _ _ (by omega) (by omega), pathS_hi l at_ (by omega) (by omega), treeS_node l (by omega), List.length_append, List.length_singleton, Nat.add_sub_cancel, List.take_left, ih]
        congr 1
        simp

end Go.Proofs.YteigldfdaciopaaGreatDoor

namespace Go.Proofs.YteigldfdaciopaaGreatDoor
open Go.RowKit

theorem results_cell_tmp {P : Program} {fn : Func} {p t : Tmp} {ty : TypeId} (h : fn.results = #[.cell p ty, .tmp t]) (tmps : Array Value) (w : World) (b o : Nat) (cs : List Value) (d : TypeDesc)
    (hp : tmps.getD p undef = .pointer (some ⟨b, o, none⟩)) (hc : w.rangeAt b o cs) (hu : P.underlying ty = some d) (hd : d.isRow = true) (hi : (P.info? ty).map (·.size) = some cs.length) (v2 : Value) (ht : tmps.getD t undef = v2) :
    (results fn tmps).run P w = .ok (.tuple #[.agg cs.toArray, v2]) w := by
  subst ht
  have hp' : tmps[p]?.getD undef = .pointer (some ⟨b, o, none⟩) := by simpa using hp
  simp [results, h, hp', asAddr, run_loadVar_mid w b o ty cs d hc hu hd hi]

def DigErr (w : World) (d : List UInt8) (k : Int) (e : Ending) (w' : World) : Prop := e = .returned (.tuple #[.agg (bvA d), .int .i64 k]) ∧ Below w.heap.size w w'
def zero32 : List UInt8 := List.replicate 32 0

end Go.Proofs.YteigldfdaciopaaGreatDoor

namespace Go.Proofs.YteigldfdaciopaaGreatDoor
open Go.RowKit

def deq (a b : List UInt8) : Bool := a == b
theorem deq_self (a : List UInt8) : deq a a = true := by unfold deq; simp
theorem bv_inj {a b : UInt8} (h : (a.toNat : Int) = (b.toNat : Int)) : a = b := by
  have : a.toNat = b.toNat := by omega
  exact UInt8.toNat_inj.1 this
theorem part_bv (l : List UInt8) (i : Nat) (h : i < l.length) (w : World) : (part 5 (bvA l) (i * 1)).run Tryz.prog w = .ok (bv l[i]) w := by
  have hi : ∃ v, (bvA l)[i]? = some v ∧ v = bv l[i] := ⟨_, bvA_get l i h, rfl⟩
  obtain ⟨i0, hi0, hz0, hz1, hz2⟩ := info_parts byteInfo
  simp [part, isAgg, run_underlying Tryz.underlying5, Nat.mul_one, bvA_get l i h, sizeOf, typeInfo, hi0, hz1]
theorem eqItems_bv (d : Nat) (a b : List UInt8) (w : World) : ∀ (is : List Nat), (∀ i ∈ is, i < a.length ∧ i < b.length) →
    (Op.eqItems (d + 1) 5 1 (bvA a) (bvA b) is).run Tryz.prog w = .ok (is.all fun i => a.getD i 0 == b.getD i 0) w
  | [], _ => by simp [Op.eqItems]
  | i :: is, h => by
    obtain ⟨h1, h2⟩ := h i (List.mem_cons_self ..)
    have ih := eqItems_bv d a b w is (fun j hj => h j (List.mem_cons_of_mem _ hj))
    simp only [Op.eqItems, Sem.run_bind, part_bv a i h1, part_bv b i h2, Result.andThen_ok]
    have e : (Op.equalIn (d + 1) 5 (bv a[i]) (bv b[i])).run Tryz.prog w = .ok ((a[i].toNat : Int) == (b[i].toNat : Int)) w := run_equalIn_int w d 5 .u8 .u8 _ _ Tryz.underlying5
    rw [e]
    simp only [Result.andThen_ok, List.all_cons]
    have e2 : (a.getD i 0 == b.getD i 0) = ((a[i].toNat : Int) == (b[i].toNat : Int)) := by
      simp only [List.getD, List.getElem?_eq_getElem h1, List.getElem?_eq_getElem h2, Option.getD_some]
      rw [Bool.eq_iff_iff, beq_iff_eq, beq_iff_eq]
      exact ⟨fun h => by rw [h], bv_inj⟩
    rw [e2]
    cases hc : ((a[i].toNat : Int) == (b[i].toNat : Int)) with
    | true => simpa using ih
    | false => simp
set_option maxRecDepth 100000 in
theorem equal_bv (a b : List UInt8) (ha : a.length = 32) (hb : b.length = 32) (w : World) : (Op.equalIn 10000 69 (.agg (bvA a)) (.agg (bvA b))).run Tryz.prog w = .ok (deq a b) w := by
  obtain ⟨i0, hi0, hz0, hz1, hz2⟩ := info_parts byteInfo
  have h := run_equalIn_array (P := Tryz.prog) w 9999 (bvA a) (bvA b) Tryz.underlying69 hi0
  have hc : Tryz.prog.cellsOf 5 = 1 := by kernel_rfl
  rw [hc, eqItems_bv 9998 a b w _ (fun i hi => by rw [List.mem_range] at hi; omega)] at h
  refine h.trans ?_
  congr 1
  unfold deq
  rw [Bool.eq_iff_iff, List.all_eq_true, beq_iff_eq]
  constructor
  · intro hall
    apply List.ext_getElem (by omega)
    intro i h1 h2
    have := hall i (by rw [List.mem_range]; omega)
    simpa [List.getD, h1, h2] using this
  · rintro rfl i hi
    simp
/-- Two digests that are equal. -/
theorem equal_same (a : List UInt8) (ha : a.length = 32) (w : World) : (Op.equalIn 10000 69 (.agg (bvA a)) (.agg (bvA a))).run Tryz.prog w = .ok true w := by
  rw [equal_bv a a ha ha, deq_self]
end Go.Proofs.YteigldfdaciopaaGreatDoor

namespace Go.Proofs.YteigldfdaciopaaGreatDoor
open Go.RowKit

theorem sha_abc : (sha [97, 98, 99]).take 4 = [186, 120, 22, 191] := by decide +kernel
theorem sha_nil : (sha []).take 4 = [227, 176, 196, 66] := by decide +kernel
theorem take4 {l : List UInt8} {a b c d : UInt8} (h : l.take 4 = [a, b, c, d]) : l[0]? = some a ∧ l[1]? = some b ∧ l[2]? = some c ∧ l[3]? = some d := by
  have e : ∀ i, i < 4 → l[i]? = ([a, b, c, d] : List UInt8)[i]? := fun i hi => by rw [← h, List.getElem?_take_of_lt hi]
  exact ⟨e 0 (by decide), e 1 (by decide), e 2 (by decide), e 3 (by decide)⟩
theorem BB.cells4 {w : World} {g : Nat} {T : TypeId} {l : List UInt8} {a b c d : UInt8} (h : BB w g T l) (h4 : l.take 4 = [a, b, c, d]) :
    w.cell? ⟨g, 0, none⟩ = some (bv a) ∧ w.cell? ⟨g, 1, none⟩ = some (bv b) ∧ w.cell? ⟨g, 2, none⟩ = some (bv c) ∧ w.cell? ⟨g, 3, none⟩ = some (bv d) := by
  obtain ⟨h0, h1, h2, h3⟩ := take4 h4
  have e : ∀ i x, l[i]? = some x → w.cell? ⟨g, i, none⟩ = some (bv x) := fun i x hx => by
    rw [cell_of_row w g i _ T (0, 0) h]; simp [bvA, hx]
  exact ⟨e 0 _ h0, e 1 _ h1, e 2 _ h2, e 3 _ h3⟩
theorem lenS_02 : lenS 0 2 = 1 := by
  rw [lenS_lo 0 2 (by decide) (half_bd 2 (by decide)).2.2, lenS_one 0 (half 2) (by have := (half_bd 2 (by decide)).1; omega)]
def one32 : List UInt8 := 1 :: List.replicate 31 0

theorem Below.drew' (w : World) : Below w.drew.heap.size w.drew w := ⟨rfl, rfl, rfl, Nat.le_refl _, fun _ _ => rfl⟩
end Go.Proofs.YteigldfdaciopaaGreatDoor

namespace Go.Proofs.YteigldfdaciopaaGreatDoor
open Go.RowKit

theorem OwnB.empty {B : Nat} {w : World} (hB : B ≤ w.heap.size) : OwnB B (w.alloc (.cells #[] 5)) (.slice (some ⟨w.heap.size, 0, none⟩) 0 0) [] :=
  ⟨rfl, .inr ⟨w.heap.size, 0, #[], rfl, hB, heap_alloc_new w _, Nat.le_refl _, Nat.zero_le _, rfl, rfl⟩⟩

theorem OwnB.rdOf {B : Nat} {w : World} {a : Option Addr} {n cap : Nat} {l : List UInt8} (h : OwnB B w (.slice a n cap) l) : RdB w.heap.size w a l := by
  obtain ⟨a', cap', e, _, hr⟩ := h.form
  injection e with e1 e2 e3
  rw [e1]; exact hr
theorem step_appBn {ops : Array Oper} {o : Oper} {a : Act} {w : World} {K : Act → World → Prop} {Q : Exit → Act → World → Prop} {E : Prop} (hgd : o.guard = none) (s x : Operand)
    (ho : o.op = .call { callee := .builtin .append, args := #[s, x], argTypes := #[66, 66] })
    (B : Nat) (v : Value) (l l' : List UInt8) (n : Nat) (ad : Option Addr) (cap : Nat) (hs : a.eval s = v) (hx : a.eval x = .slice ad n cap) (hn : n = l'.length) (hown : OwnB B w v l) (hr : RdB w.heap.size w ad l') (hnil : ad = none → cap = 0)
    (hlen : l.length + l'.length ≤ 140737488355328) (hB : B ≤ w.heap.size)
    (h : ∀ v' w', OwnB B w' v' (l ++ l') → Grew w v w' v' → K (a.put o.dst v') w') : if Region.wanted o (yielded ops a.tmps) = true then Oper.wp Tryz.prog o a w K Q else E := by
  subst hn
  exact step_appB hgd s x ho B v l l' ad cap hs hown hx hr hnil hlen hB h
theorem BB.grownBy {w w' : World} {g : Nat} {T : TypeId} {l : List UInt8} {r : Option Nat} (h : BB w g T l) (hg : w.grownBy w' r) (hne : r ≠ some g) : BB w' g T l := (hg.block g h.lt (Ne.symm hne)).trans h
theorem empty_base {B g : Nat} (h : B ≤ g) : ∀ k, (Value.slice (some ⟨g, 0, none⟩) 0 0).ownBlock = some k → B ≤ k := fun k hk => by
  simp [Value.ownBlock] at hk; omega

end Go.Proofs.YteigldfdaciopaaGreatDoor

namespace Go.Proofs.YteigldfdaciopaaGreatDoor
open Go.RowKit

theorem gK : Tryz.prog.globalNamed "chartroom/digest.roundNumbers" = some 4 := by kernel_rfl
theorem gS : Tryz.prog.globalNamed "chartroom/digest.start" = some 3 := by kernel_rfl
theorem gKt : (Tryz.prog.globals[4]?).map (·.type) = some 127 := by kernel_rfl
theorem gSt : (Tryz.prog.globals[3]?).map (·.type) = some 110 := by kernel_rfl
theorem c32 : Tryz.prog.cellsOf 109 = 1 := by kernel_rfl
theorem cK : Tryz.prog.cellsOf 127 = 64 := by kernel_rfl
theorem cS : Tryz.prog.cellsOf 110 = 8 := by kernel_rfl
theorem laidK_eq : (Rows.laid_chartroom_digest_roundNumbers : DataW Unit) = Lib.tabData .u32 (kNums.map Int.ofNat) := by kernel_rfl
theorem laidS_eq : (Rows.laid_chartroom_digest_start : DataW Unit) = Lib.tabData .u32 (hNums.map Int.ofNat) := by kernel_rfl
theorem range_of_tab {W : World} {name : String} {g : Nat} {l : List Nat} (hg : Tryz.prog.globalNamed name = some g) (h : Lib.TabIs Tryz.prog W name .u32 (l.map Int.ofNat)) : W.rangeAt g 0 (wv l).toList := by
  intro j v hv
  have hj : j < l.length := by have := (List.getElem?_eq_some_iff.1 hv).1; simpa [wv] using this
  have hc := h.cell hg j (by rw [List.length_map]; exact hj)
  rw [Nat.zero_add, hc, ← hv]
  simp [wv, List.getD, hj]
theorem tab_of_laid {W : World} {rest : List (String × DataW Unit)} (h : laidMet Tryz.prog (("chartroom/digest.roundNumbers", Rows.laid_chartroom_digest_roundNumbers) :: ("chartroom/digest.start", Rows.laid_chartroom_digest_start) :: rest) W) : Tab W := by
  rw [laidK_eq, laidS_eq] at h
  exact ⟨range_of_tab gK (Lib.tabIs_of_head gK gKt Tryz.underlying127 Tryz.underlying109 c32 cK h), range_of_tab gS (Lib.tabIs_of_head gS gSt Tryz.underlying110 Tryz.underlying109 c32 cS h.tail)⟩

theorem spot_none {w : World} {a : Addr} {v : Value} (h : w.cell? a = some v) : a.spot = none := by
  unfold World.cell? at h
  split at h
  · split at h
    · cases h
    · rename_i h1; simpa using h1
  · cases h
/-- A slice of bytes that came in. -/
def IsRow (w : World) (a : Option Addr) (len cap : Nat) (zs : List Int) : Prop :=
  (a = none ∧ len = 0 ∧ cap = 0 ∧ zs = []) ∨
  ∃ x, a = some x ∧ len ≤ cap ∧ cap ≤ maxLen ∧ zs.length = cap ∧ (∀ i, i < zs.length → w.cell? (x.add i) = some (.int .u8 (zs.getD i 0))) ∧ ∀ n ∈ zs, (Lit.int .u8 n).wf = true
theorem byte_of {n : Int} (h : (Lit.int .u8 n).wf = true) : ((UInt8.ofNat n.toNat).toNat : Int) = n := by
  have h1 := bounds_u8 h
  simp; omega
theorem IsRow.rd {w : World} {a : Option Addr} {len cap : Nat} {zs : List Int} (h : IsRow w a len cap zs) : ∃ l : List UInt8, l.length = len ∧ RdB w.heap.size w a l ∧ len ≤ cap ∧ cap ≤ maxLen ∧ (a = none → cap = 0) := by
  rcases h with ⟨rfl, rfl, rfl, rfl⟩ | ⟨x, rfl, h1, h2, h3, h4, h5⟩
  · exact ⟨[], rfl, ⟨Nat.zero_le _, .inl rfl⟩, Nat.le_refl _, Nat.zero_le _, fun _ => rfl⟩
  · have hlen : ((zs.take len).map fun n => UInt8.ofNat n.toNat).length = len := by rw [List.length_map, List.length_take]; omega
    refine ⟨(zs.take len).map fun n => UInt8.ofNat n.toNat, hlen, ⟨by omega, ?_⟩, h1, h2, fun e => by cases e⟩
    by_cases h0 : len = 0
    · left; subst h0; simp
    · right
      obtain ⟨b, o, sp⟩ := x
      have hsp : sp = none := spot_none (h4 0 (by omega))
      subst hsp
      have hb := World.block_lt_of_cell? w _ (h4 0 (by omega))
      refine ⟨b, o, rfl, hb, fun j hj => ?_⟩
      rw [hlen] at hj
      have h6 := h4 j (by omega)
      rw [addr_add] at h6
      rw [h6]
      have h7 : zs.getD j 0 = zs[j]'(by omega) := by simp [List.getD, List.getElem?_eq_getElem (show j < zs.length by omega)]
      have h8 := byte_of (h5 _ (List.getElem_mem (show j < zs.length by omega)))
      rw [h7]
      simp only [List.getElem_map, List.getElem_take]
      unfold bv
      rw [h8]
/-- A block whose cells are written anew. -/
def reCell (cs : Array Value) : Obj → Obj
  | .cells _ t frozen => .cells cs t frozen
  | o => o
/-- A world for the witness: the settled one, both tables holding what their initialisers lay. -/
noncomputable def laidWorld (os : Os) : World :=
  let w0 := World.holding Tryz.prog os ⟨#[], #[], []⟩
  { w0 with heap := (w0.heap.modify 4 (reCell (wv kNums))).modify 3 (reCell (wv hNums)) }
end Go.Proofs.YteigldfdaciopaaGreatDoor

namespace Go.Proofs.YteigldfdaciopaaGreatDoor
open Go.RowKit
set_option linter.unusedVariables false
set_option linter.unusedSimpArgs false

theorem mapM_all {α β : Type} {f : α → Option β} : ∀ {l : List α} {r : List β}, l.mapM f = some r → ∀ x ∈ l, ∃ y, f x = some y
  | [], _, _, x, hx => by cases hx
  | a :: l, r, h, x, hx => by
    rw [List.mapM_cons] at h
    cases ha : f a with
    | none => rw [ha] at h; simp at h
    | some b =>
      rw [ha] at h
      cases hl : l.mapM f with
      | none => rw [hl] at h; simp at h
      | some bs =>
        rcases List.mem_cons.1 hx with rfl | hx
        · exact ⟨b, ha⟩
        · exact mapM_all hl x hx
def byteOf : Option Value → UInt8
  | some (.int .u8 n) => UInt8.ofNat n.toNat
  | _ => 0
theorem cells_digest : Tryz.prog.cellsOf 69 = 32 := by kernel_rfl
theorem cells_byte : Tryz.prog.cellsOf 5 = 1 := by kernel_rfl
set_option maxRecDepth 100000 in
theorem open_digest {H : Type} {enc : TypeId × Value → H} {W : World} {base b0 : Nat} {sp : Nat → Bool} {hd : Bool} {v : Value} {d : DataW H} {ps : List MemPlace}
    (hval : Value.okWide Tryz.prog W .any b0 69 v) (h : DataW.Trod enc Tryz.prog W base sp hd 69 v d ps) : ∃ x : List UInt8, v = .agg (bvA x) ∧ x.length = 32 := by
  unfold Value.okWide at hval
  simp only [digest_und] at hval
  obtain ⟨cs, rfl, hcs, _⟩ := hval
  rw [cells_digest] at hcs
  obtain ⟨fuel, hf⟩ := h
  cases fuel with
  | zero => simp [DataW.trod] at hf
  | succ fuel =>
    have hu := digest_und
    unfold DataW.trod at hf
    simp only [hu, Value.cells] at hf
    rw [if_pos (by rw [cells_digest, Array.length_toList]; exact hcs)] at hf
    simp only [Option.map_eq_some_iff] at hf
    obtain ⟨xs, hx, _⟩ := hf
    have hall : ∀ i (hi : i < 32), ∃ n : Int, cs.toList[i]? = some (.int .u8 n) ∧ (Lit.int .u8 n).wf = true := by
      intro i hi
      obtain ⟨y, hy⟩ := mapM_all hx i (by simpa using hi)
      rw [cells_byte] at hy
      obtain ⟨n, h1, _, h2⟩ := DataW.trod_int Tryz.underlying5 hy
      refine ⟨n, ?_, h2⟩
      have := congrArg (fun l : List Value => l[0]?) h1
      simpa [List.getElem?_take, List.getElem?_drop] using this
    refine ⟨(List.range 32).map fun i => byteOf cs.toList[i]?, ?_, by simp⟩
    congr 1
    apply Array.ext
    · rw [bvA_size]; simp [hcs]
    · intro i h1 h2
      rw [hcs] at h1
      obtain ⟨n, hn, hw⟩ := hall i h1
      have hc : cs[i]? = some (.int .u8 n) := by simpa using hn
      have hg := bvA_get ((List.range 32).map fun i => byteOf cs.toList[i]?) i (by simpa using h1)
      have h3 : cs[i] = .int .u8 n := by have := Array.getElem?_eq_getElem (xs := cs) (i := i) (by omega); rw [this] at hc; injection hc
      rw [h3]
      have h4 := Array.getElem?_eq_getElem (xs := bvA ((List.range 32).map fun i => byteOf cs.toList[i]?)) (i := i) h2
      rw [h4] at hg
      injection hg with hg
      rw [hg]
      simp only [List.getElem_map, List.getElem_range, hn, bv, byteOf]
      rw [byte_of hw]
end Go.Proofs.YteigldfdaciopaaGreatDoor
