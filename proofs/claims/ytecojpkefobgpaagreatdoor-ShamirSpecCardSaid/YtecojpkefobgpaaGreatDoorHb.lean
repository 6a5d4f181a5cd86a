/-
  Slices of shares: what a world must hold of one that is read, of one that the call owns; appending to one.
-/
import Derived.Test.YtecojpkefobgpaaGreatDoorHa
import Derived.Test.YtecojpkefobgpaaGreatDoorPkC
namespace Go.Proofs.YtecojpkefobgpaaGreatDoor
open Go.RowKit
set_option linter.unusedVariables false
set_option linter.unusedSimpArgs false

/-- A share as a value; the cells of shares. -/
def shV (s : Sh) : Value := .agg #[.int .i64 s.1, .int .i64 s.2]
def shs : List Sh → List Value
  | [] => []
  | s :: l => .int .i64 s.1 :: .int .i64 s.2 :: shs l
theorem shs_len : ∀ l : List Sh, (shs l).length = l.length * 2
  | [] => rfl
  | s :: l => by simp only [shs, List.length_cons, shs_len l]; omega
theorem shs_app : ∀ k l : List Sh, shs (k ++ l) = shs k ++ shs l
  | [], l => rfl
  | s :: k, l => by simp only [shs, List.cons_append, shs_app k l]
theorem shs_at : ∀ (l : List Sh) (j : Nat) (h : j < l.length), (shs l)[j * 2]? = some (.int .i64 l[j].1) ∧ (shs l)[j * 2 + 1]? = some (.int .i64 l[j].2)
  | s :: l, 0, _ => ⟨rfl, rfl⟩
  | s :: l, j + 1, h => by
    have ih := shs_at l j (by simpa using h)
    rw [show (j + 1) * 2 = j * 2 + 1 + 1 by omega]
    simp only [shs, List.getElem?_cons_succ, List.getElem_cons_succ]
    exact ih
theorem shs_one : ∀ (l : List Sh), ∀ u ∈ shs l, u.oneCell' = true
  | s :: l, u, h => by
    simp only [shs, List.mem_cons] at h
    rcases h with rfl | rfl | h
    · rfl
    · rfl
    · exact shs_one l u h

/-- The slice .slice a l.length cap holds the shares l, below block B. -/
def RdS (B : Nat) (w : World) (a : Option Addr) (l : List Sh) : Prop :=
  l.length ≤ maxLen ∧ (l = [] ∨ ∃ b o, a = some ⟨b, o, none⟩ ∧ b < B ∧ ∀ j (h : j < l.length), w.cell? ⟨b, o + j * 2, none⟩ = some (.int .i64 l[j].1) ∧ w.cell? ⟨b, o + j * 2 + 1, none⟩ = some (.int .i64 l[j].2))
theorem RdS.nil (B : Nat) (w : World) (a : Option Addr) : RdS B w a [] := ⟨Nat.zero_le _, .inl rfl⟩
theorem RdS.below {B : Nat} {w w' : World} {a : Option Addr} {l : List Sh} (h : RdS B w a l) (hb : Below B w w') : RdS B w' a l := by
  refine ⟨h.1, h.2.imp_right ?_⟩
  rintro ⟨b, o, e, hB, hc⟩
  exact ⟨b, o, e, hB, fun j hj => ⟨(hb.cell (p := ⟨b, o + j * 2, none⟩) hB).trans (hc j hj).1, (hb.cell (p := ⟨b, o + j * 2 + 1, none⟩) hB).trans (hc j hj).2⟩⟩
theorem RdS.mono {B B' : Nat} {w : World} {a : Option Addr} {l : List Sh} (h : RdS B w a l) (hB : B ≤ B') : RdS B' w a l := by
  refine ⟨h.1, h.2.imp_right ?_⟩
  rintro ⟨b, o, e, hb, hc⟩
  exact ⟨b, o, e, by omega, hc⟩
/-- What is read in a world is read in a later one. -/
theorem RdS.call {w w' : World} {a : Option Addr} {l : List Sh} (h : RdS w.heap.size w a l) (hb : Below w.heap.size w w') : RdS w'.heap.size w' a l := (h.below hb).mono hb.size
theorem RdS.at_ {B : Nat} {w : World} {a : Option Addr} {l : List Sh} (h : RdS B w a l) (h0 : 0 < l.length) : ∃ b o, a = some ⟨b, o, none⟩ ∧ b < B ∧ ∀ j (h : j < l.length), w.cell? ⟨b, o + j * 2, none⟩ = some (.int .i64 l[j].1) ∧ w.cell? ⟨b, o + j * 2 + 1, none⟩ = some (.int .i64 l[j].2) := by
  rcases h.2 with e | e
  · rw [e] at h0; cases h0
  · exact e
theorem RdS.take {B : Nat} {w : World} {a : Option Addr} {l : List Sh} (h : RdS B w a l) (k : Nat) : RdS B w a (l.take k) := by
  refine ⟨by rw [List.length_take]; have := h.1; omega, ?_⟩
  rcases h.2 with h2 | ⟨b, o, ha, hb, hc⟩
  · left; rw [h2]; simp
  · exact .inr ⟨b, o, ha, hb, fun j hj => by rw [List.length_take] at hj; rw [List.getElem_take]; exact hc j (by omega)⟩
/-- l[k:]. -/
def tailSh (a : Option Addr) (len cap k : Nat) : Value := .slice (if cap = k then a else a.map (·.add (k * 2))) (len - k) (cap - k)
theorem RdS.drop {B : Nat} {w : World} {a : Option Addr} {l : List Sh} (h : RdS B w a l) {cap : Nat} (hcap : l.length ≤ cap) (k : Nat) : RdS B w (if cap = k then a else a.map (·.add (k * 2))) (l.drop k) := by
  refine ⟨by rw [List.length_drop]; have := h.1; omega, ?_⟩
  rcases h.2 with h2 | ⟨b, o, ha, hb, hc⟩
  · left; rw [h2]; simp
  · by_cases e : cap = k
    · left; exact List.drop_eq_nil_of_le (by omega)
    · right
      refine ⟨b, o + k * 2, by rw [if_neg e, ha]; simp [addr_add], hb, fun j hj => ?_⟩
      rw [List.length_drop] at hj
      rw [List.getElem_drop, show o + k * 2 + j * 2 = o + (k + j) * 2 by omega]
      exact hc (k + j) (by omega)
theorem sliceSh_from (a : Option Addr) (len cap k : Nat) (h : k ≤ len) (W : World) : (Instr.slice 22 (.slice a len cap) (some (.int .i64 (k : Int))) none none).run Tryz.prog W = .ok (tailSh a len cap k) W := by
  rw [run_slice_l (P := Tryz.prog) W 22 a len cap (by kernel_rfl) .i64 (k : Int) (by omega) (by omega)]
  have hz : (sizeOf (Tryz.prog.elem 22)).run Tryz.prog W = .ok 2 W := by kernel_rfl
  rw [hz]
  simp [Result.andThen, sliced, tailSh]
theorem sliceSh_to (a : Option Addr) (len cap k : Nat) (h : k ≤ cap) (W : World) : (Instr.slice 22 (.slice a len cap) none (some (.int .i64 (k : Int))) none).run Tryz.prog W = .ok (.slice a k cap) W := by
  rw [run_slice_h (P := Tryz.prog) W 22 a len cap (by kernel_rfl) .i64 (k : Int) (by omega) (by omega)]
  have hz : (sizeOf (Tryz.prog.elem 22)).run Tryz.prog W = .ok 2 W := by kernel_rfl
  rw [hz]
  simp [Result.andThen, sliced]
  intro _
  cases a <;> simp [Addr.add]

/-- The slice value v owns the shares l. -/
def OwnS (B : Nat) (w : World) (v : Value) (l : List Sh) : Prop := w.ownsRow B 40 2 v l.length (shs l)
theorem OwnS.nil (B : Nat) (w : World) : OwnS B w (.slice none 0 0) [] := World.ownsRow_nil _ _ _ _
theorem OwnS.below {B : Nat} {w w' : World} {v : Value} {l : List Sh} (h : OwnS B w v l) (hb : Below w.heap.size w w') : OwnS B w' v l := by
  refine ⟨h.1, ?_⟩
  rcases h.2 with h2 | ⟨g, cap, cur, hv, hg, hh, r⟩
  · exact .inl h2
  · exact .inr ⟨g, cap, cur, hv, hg, by rw [hb.block g (Array.getElem?_eq_some_iff.1 hh).1]; exact hh, r⟩
theorem OwnS.mono {B B' : Nat} {w : World} {v : Value} {l : List Sh} (h : OwnS B w v l) (hB : B' ≤ B) : OwnS B' w v l := by
  refine ⟨h.1, ?_⟩
  rcases h.2 with h2 | ⟨g, cap, cur, hv, hg, r⟩
  · exact .inl h2
  · exact .inr ⟨g, cap, cur, hv, by omega, r⟩
theorem OwnS.alloc {B : Nat} {w : World} {v : Value} {l : List Sh} (h : OwnS B w v l) (o : Obj) : OwnS B (w.alloc o) v l := World.ownsRow.alloc h o
theorem OwnS.drew {B : Nat} {w : World} {v : Value} {l : List Sh} (h : OwnS B w v l) : OwnS B w.drew v l := h
theorem OwnS.drewN {B : Nat} {w : World} {v : Value} {l : List Sh} (h : OwnS B w v l) (n : Nat) : OwnS B (w.drewN n) v l := h
theorem OwnS.base {B : Nat} {w : World} {v : Value} {l : List Sh} (h : OwnS B w v l) : ∀ k, v.ownBlock = some k → B ≤ k := fun k hk => (World.ownsRow.lt h k hk).1
theorem OwnS.lt {B : Nat} {w : World} {v : Value} {l : List Sh} (h : OwnS B w v l) : ∀ k, v.ownBlock = some k → k < w.heap.size := fun k hk => (World.ownsRow.lt h k hk).2
/-- The form of an owned slice of shares. -/
theorem OwnS.form {B : Nat} {w : World} {v : Value} {l : List Sh} (h : OwnS B w v l) : ∃ a cap, v = .slice a l.length cap ∧ l.length ≤ cap ∧ cap ≤ maxLen ∧ (a = none → cap = 0) ∧ RdS w.heap.size w a l := by
  have hc := @World.ownsRow.cells w B _ 2 v l.length (shs l) h
  rcases h.2 with ⟨rfl, h0⟩ | ⟨g, cap, cur, rfl, hg, hh, h3, h4, r⟩
  · have : l = [] := List.eq_nil_of_length_eq_zero h0
    subst this
    exact ⟨none, 0, rfl, Nat.le_refl _, Nat.zero_le _, fun _ => rfl, RdS.nil _ _ _⟩
  · have hg2 := (Array.getElem?_eq_some_iff.1 hh).1
    refine ⟨some ⟨g, 0, none⟩, cap, rfl, h3, h4, (fun e => by cases e), by omega, .inr ⟨g, 0, rfl, hg2, fun j hj => ?_⟩⟩
    have h5 := hc (g := g) rfl (j * 2) _ (shs_at l j hj).1
    have h6 := hc (g := g) rfl (j * 2 + 1) _ (shs_at l j hj).2
    rw [addr_add] at h5 h6
    exact ⟨h5, by rw [← h6]; congr 1⟩
theorem OwnS.empty {B : Nat} {w : World} (hB : B ≤ w.heap.size) : OwnS B (w.alloc (.cells #[] 40)) (.slice (some ⟨w.heap.size, 0, none⟩) 0 0) [] :=
  ⟨rfl, .inr ⟨w.heap.size, 0, #[], rfl, hB, heap_alloc_new w _, Nat.le_refl _, Nat.zero_le _, rfl, rfl⟩⟩
theorem OwnS.built {B : Nat} {w : World} (s : Sh) (hB : B ≤ w.heap.size) : OwnS B (w.alloc (.cells #[.int .i64 s.1, .int .i64 s.2] 40)) (.slice (some ⟨w.heap.size, 0, none⟩) 1 1) [s] :=
  ⟨rfl, .inr ⟨w.heap.size, 1, #[.int .i64 s.1, .int .i64 s.2], rfl, hB, heap_alloc_new w _, Nat.le_refl _, by unfold maxLen; omega, rfl, rfl⟩⟩
theorem RdS.one {w : World} (s : Sh) : RdS (w.heap.size + 1) (w.alloc (.cells #[.int .i64 s.1, .int .i64 s.2] 40)) (some ⟨w.heap.size, 0, none⟩) [s] := by
  obtain ⟨a, cap, e, h1, h2, h3, h4⟩ := (OwnS.built (B := w.heap.size) (w := w) s (Nat.le_refl _)).form
  injection e with e1 e2 e3
  rw [World.size_alloc, ← e1] at h4
  exact h4

theorem shareInfo : (Tryz.prog.info? 40).map (fun i => (i.zero, i.size, i.bytes)) = some (some (.agg #[.int .i64 0, .int .i64 0]), 2, 16) := by kernel_rfl
theorem RdS.news {w : World} {B : Nat} {ad : Addr} {l : List Sh} (h : RdS B w (some ad) l) : ∀ j u, (shs l)[j]? = some u → w.cell? (ad.add j) = some u := by
  intro j u hu
  have hj : j < l.length * 2 := by
    have := (List.getElem?_eq_some_iff.1 hu).1
    rw [shs_len] at this; exact this
  rcases h.2 with h2 | ⟨b, o, ha, _, hc⟩
  · subst h2; simp at hj
  · injection ha with ha
    subst ha
    obtain ⟨c0, c1⟩ := hc (j / 2) (by omega)
    obtain ⟨d0, d1⟩ := shs_at l (j / 2) (by omega)
    rw [addr_add]
    rcases Nat.mod_two_eq_zero_or_one j with e | e
    · have ej : j / 2 * 2 = j := by omega
      rw [ej] at c0 d0
      rw [c0, ← d0, hu]
    · have ej : j / 2 * 2 + 1 = j := by omega
      rw [ej] at d1
      rw [show o + j / 2 * 2 + 1 = o + j by omega] at c1
      rw [c1, ← d1, hu]
/-- append(own, xs...), xs a slice of shares that is read. -/
theorem wp_appShr {o : Oper} {a : Act} {w : World} {K : Act → World → Prop} {Q : Exit → Act → World → Prop} (s x : Operand)
    (ho : o.op = .call { callee := .builtin .append, args := #[s, x], argTypes := #[22, 22] })
    (B : Nat) (v : Value) (l l' : List Sh) (ad : Option Addr) (cap : Nat) (hs : a.eval s = v) (hown : OwnS B w v l) (hx : a.eval x = .slice ad l'.length cap) (hr : RdS w.heap.size w ad l') (hnil : ad = none → cap = 0)
    (hlen : (l.length + l'.length) * 16 ≤ 140737488355328) (hB : B ≤ w.heap.size)
    (h : ∀ v' w', OwnS B w' v' (l ++ l') → Grew w v w' v' → K (a.put o.dst v') w') : o.wp Tryz.prog a w K Q := by
  obtain ⟨i0, hi, hz0, hz1, hz2⟩ := info_parts shareInfo
  cases ad with
  | none =>
    have hl : l' = [] := by
      rcases hr.2 with h2 | ⟨b, o, ha, _⟩
      · exact h2
      · cases ha
    subst hl
    rw [hnil rfl] at hx
    have hrun := run_append_owned_none (P := Tryz.prog) (w := w) B 22 o.type 40 i0 2 Tryz.underlying22 hi v l.length (shs l) hown
    unfold Oper.wp
    simp only [List.length_nil] at hx
    simp [execOp, ho, resolve, invoke, builtin, hs, hx, hrun, Result.andThen]
    exact h _ _ (by simpa using hown) (Grew.refl _ _)
  | some ad =>
    obtain ⟨v', w', hrun, h2, h3, _, h5⟩ := run_append_own_at (P := Tryz.prog) (w := w) B 22 o.type 40 i0 (.agg #[.int .i64 0, .int .i64 0]) 2 16 Tryz.underlying22 hi hz0 hz1 hz2 rfl (by decide) v l.length (shs l) hown ad l'.length cap (shs l') (shs_len l') hr.news (shs_one l') (by unfold maxLen; omega) hlen hB
    unfold Oper.wp execOp
    simp only [ho, resolve, invoke, builtin, Sem.run_bind, Sem.run_pure, Result.andThen_ok, List.map_toArray, List.map_cons, List.map_nil, hs, hx, hrun]
    refine h v' w' (by unfold OwnS; rw [List.length_append, shs_app]; exact h2) ⟨h3, fun k hk => ?_⟩
    rcases h5 with h5 | h5
    · exact .inl (h5 ▸ hk)
    · rw [h5] at hk; cases hk; exact .inr (Nat.le_refl _)
theorem wpList_appShr {ops : Array Oper} {rest : List Oper} {o : Oper} {a : Act} {w : World} {Q : Exit → Act → World → Prop} (hgd : o.guard = none) (s x : Operand)
    (ho : o.op = .call { callee := .builtin .append, args := #[s, x], argTypes := #[22, 22] })
    (B : Nat) (v : Value) (l l' : List Sh) (ad : Option Addr) (cap : Nat) (hs : a.eval s = v) (hown : OwnS B w v l) (hx : a.eval x = .slice ad l'.length cap) (hr : RdS w.heap.size w ad l') (hnil : ad = none → cap = 0)
    (hlen : (l.length + l'.length) * 16 ≤ 140737488355328) (hB : B ≤ w.heap.size)
    (h : ∀ v' w', OwnS B w' v' (l ++ l') → Grew w v w' v' → wpList Tryz.prog ops Q rest (a.put o.dst v') w') : wpList Tryz.prog ops Q (o :: rest) a w :=
  wpList_plain hgd fun _ hK => wp_appShr s x ho B v l l' ad cap hs hown hx hr hnil hlen hB fun v' w' h2 h3 => hK _ _ (h v' w' h2 h3)
/-- append(own, one), behind a share that has just been built. -/
theorem wpList_appShr1 {ops : Array Oper} {rest : List Oper} {o : Oper} {a : Act} {w : World} {Q : Exit → Act → World → Prop} (hgd : o.guard = none) (s x : Operand)
    (ho : o.op = .call { callee := .builtin .append, args := #[s, x], argTypes := #[22, 22] })
    (B : Nat) (v : Value) (l : List Sh) (t : Sh) (w0 : World) (g : Nat) (hs : a.eval s = v) (hown : OwnS B w0 v l) (hx : a.eval x = .slice (some ⟨g, 0, none⟩) 1 1) (hg : g = w0.heap.size)
    (hw : w = w0.alloc (.cells #[.int .i64 t.1, .int .i64 t.2] 40)) (hlen : l.length ≤ 1000000) (hB : B ≤ w0.heap.size)
    (h : ∀ v' w', OwnS B w' v' (l ++ [t]) → Below B w0 w' → wpList Tryz.prog ops Q rest (a.put o.dst v') w') : wpList Tryz.prog ops Q (o :: rest) a w := by
  subst hg
  subst hw
  refine wpList_appShr hgd s x ho B v l [t] (some ⟨w0.heap.size, 0, none⟩) 1 hs (hown.alloc _) hx (by rw [World.size_alloc]; exact RdS.one t) (fun e => by cases e) (by simp only [List.length_singleton]; omega) (le_alloc hB _) fun v' w' h2 h3 => h v' w' h2 ?_
  exact ((Below.refl _ _).alloc hB _).trans (h3.below hown.base (le_alloc hB _))

/-- Block B is just a share. -/
def SH (w : World) (B : Nat) (s : Sh) : Prop := w.heap[B]? = some (.cells #[.int .i64 s.1, .int .i64 s.2] 40 (0, 0))
theorem SH.new (w : World) (s : Sh) : SH (w.alloc (.cells #[.int .i64 s.1, .int .i64 s.2] 40)) w.heap.size s := heap_alloc_new w _
theorem SH.lt {w : World} {B : Nat} {s : Sh} (h : SH w B s) : B < w.heap.size := (Array.getElem?_eq_some_iff.1 h).1
theorem SH.below {w w' : World} {B C : Nat} {s : Sh} (h : SH w B s) (hb : Below C w w') (hB : B < C) : SH w' B s := (hb.block B hB).trans h
theorem SH.call {w w' : World} {B : Nat} {s : Sh} (h : SH w B s) (hb : Below w.heap.size w w') : SH w' B s := h.below hb h.lt
theorem SH.alloc {w : World} {B : Nat} {s : Sh} (h : SH w B s) (o : Obj) : SH (w.alloc o) B s := (Below.heap_alloc w o B h.lt).trans h
theorem SH.cell0 {w : World} {B : Nat} {s : Sh} (h : SH w B s) : w.cell? ⟨B, 0, none⟩ = some (.int .i64 s.1) := by rw [cell_of_row w B 0 _ _ (0, 0) h]; rfl
theorem SH.cell1 {w : World} {B : Nat} {s : Sh} (h : SH w B s) : w.cell? ⟨B, 1, none⟩ = some (.int .i64 s.2) := by rw [cell_of_row w B 1 _ _ (0, 0) h]; rfl
end Go.Proofs.YtecojpkefobgpaaGreatDoor
