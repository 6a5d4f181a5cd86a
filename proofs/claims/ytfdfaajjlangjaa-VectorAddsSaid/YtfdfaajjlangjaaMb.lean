/-
  Slices of dots: what a world must hold of one that is read, of one that the call owns; appending to one.
-/
import Derived.Test.YtfdfaajjlangjaaMa
import Derived.Test.YtfdfaajjlangjaaByt
namespace Go.Proofs.Ytfdfaajjlangjaa
open Go.RowKit
set_option linter.unusedVariables false
set_option linter.unusedSimpArgs false

/-- A dot as a value; the cells of dots. -/
def dtV (s : Dt) : Value := .agg #[.int .i64 s.1, .int .i64 s.2]
def dts : List Dt → List Value
  | [] => []
  | s :: l => .int .i64 s.1 :: .int .i64 s.2 :: dts l
theorem dts_len : ∀ l : List Dt, (dts l).length = l.length * 2
  | [] => rfl
  | s :: l => by simp only [dts, List.length_cons, dts_len l]; omega
theorem dts_app : ∀ k l : List Dt, dts (k ++ l) = dts k ++ dts l
  | [], l => rfl
  | s :: k, l => by simp only [dts, List.cons_append, dts_app k l]
theorem dts_at : ∀ (l : List Dt) (j : Nat) (h : j < l.length), (dts l)[j * 2]? = some (.int .i64 l[j].1) ∧ (dts l)[j * 2 + 1]? = some (.int .i64 l[j].2)
  | s :: l, 0, _ => ⟨rfl, rfl⟩
  | s :: l, j + 1, h => by
    have ih := dts_at l j (by simpa using h)
    rw [show (j + 1) * 2 = j * 2 + 1 + 1 by omega]
    simp only [dts, List.getElem?_cons_succ, List.getElem_cons_succ]
    exact ih
theorem dts_one : ∀ (l : List Dt), ∀ u ∈ dts l, u.oneCell' = true
  | s :: l, u, h => by
    simp only [dts, List.mem_cons] at h
    rcases h with rfl | rfl | h
    · rfl
    · rfl
    · exact dts_one l u h

/-- The slice .slice a l.length cap holds the dots l, below block B. -/
def RdDt (B : Nat) (w : World) (a : Option Addr) (l : List Dt) : Prop :=
  l.length ≤ maxLen ∧ (l = [] ∨ ∃ b o, a = some ⟨b, o, none⟩ ∧ b < B ∧ ∀ j (h : j < l.length), w.cell? ⟨b, o + j * 2, none⟩ = some (.int .i64 l[j].1) ∧ w.cell? ⟨b, o + j * 2 + 1, none⟩ = some (.int .i64 l[j].2))
theorem RdDt.nil (B : Nat) (w : World) (a : Option Addr) : RdDt B w a [] := ⟨Nat.zero_le _, .inl rfl⟩
theorem RdDt.below {B : Nat} {w w' : World} {a : Option Addr} {l : List Dt} (h : RdDt B w a l) (hb : Below B w w') : RdDt B w' a l := by
  refine ⟨h.1, h.2.imp_right ?_⟩
  rintro ⟨b, o, e, hB, hc⟩
  exact ⟨b, o, e, hB, fun j hj => ⟨(hb.cell (p := ⟨b, o + j * 2, none⟩) hB).trans (hc j hj).1, (hb.cell (p := ⟨b, o + j * 2 + 1, none⟩) hB).trans (hc j hj).2⟩⟩
theorem RdDt.mono {B B' : Nat} {w : World} {a : Option Addr} {l : List Dt} (h : RdDt B w a l) (hB : B ≤ B') : RdDt B' w a l := by
  refine ⟨h.1, h.2.imp_right ?_⟩
  rintro ⟨b, o, e, hb, hc⟩
  exact ⟨b, o, e, by omega, hc⟩
/-- What is read in a world is read in a later one. -/
theorem RdDt.call {w w' : World} {a : Option Addr} {l : List Dt} (h : RdDt w.heap.size w a l) (hb : Below w.heap.size w w') : RdDt w'.heap.size w' a l := (h.below hb).mono hb.size
theorem RdDt.at_ {B : Nat} {w : World} {a : Option Addr} {l : List Dt} (h : RdDt B w a l) (h0 : 0 < l.length) : ∃ b o, a = some ⟨b, o, none⟩ ∧ b < B ∧ ∀ j (h : j < l.length), w.cell? ⟨b, o + j * 2, none⟩ = some (.int .i64 l[j].1) ∧ w.cell? ⟨b, o + j * 2 + 1, none⟩ = some (.int .i64 l[j].2) := by
  rcases h.2 with e | e
  · rw [e] at h0; cases h0
  · exact e
theorem RdDt.take {B : Nat} {w : World} {a : Option Addr} {l : List Dt} (h : RdDt B w a l) (k : Nat) : RdDt B w a (l.take k) := by
  refine ⟨by rw [List.length_take]; have := h.1; omega, ?_⟩
  rcases h.2 with h2 | ⟨b, o, ha, hb, hc⟩
  · left; rw [h2]; simp
  · exact .inr ⟨b, o, ha, hb, fun j hj => by rw [List.length_take] at hj; rw [List.getElem_take]; exact hc j (by omega)⟩
/-- l[k:]. -/
def tailDt (a : Option Addr) (len cap k : Nat) : Value := .slice (if cap = k then a else a.map (·.add (k * 2))) (len - k) (cap - k)
theorem RdDt.drop {B : Nat} {w : World} {a : Option Addr} {l : List Dt} (h : RdDt B w a l) {cap : Nat} (hcap : l.length ≤ cap) (k : Nat) : RdDt B w (if cap = k then a else a.map (·.add (k * 2))) (l.drop k) := by
  refine ⟨by rw [List.length_drop]; have := h.1; omega, ?_⟩
  rcases h.2 with h2 | ⟨b, o, ha, hb, hc⟩
  · left; rw [h2]; simp
  · by_cases e : cap = k
    · left; exact List.drop_eq_nil_of_le (by omega)
    · right
      refine ⟨b, o + k * 2, by rw [if_neg e, ha]; simp [addr_add], hb, fun j hj => ?_⟩
      rw [List.length_drop] at hj
      rw [List.getElem_drop, show o + k * 2 + j * 2 = o + (k + j) * 2 by omega]
      exact hc (k + j) (by omega)
theorem sliceDt_from (a : Option Addr) (len cap k : Nat) (h : k ≤ len) (W : World) : (Instr.slice 22 (.slice a len cap) (some (.int .i64 (k : Int))) none none).run Try.prog W = .ok (tailDt a len cap k) W := by
  rw [run_slice_l (P := Try.prog) W 22 a len cap (by kernel_rfl) .i64 (k : Int) (by omega) (by omega)]
  have hz : (sizeOf (Try.prog.elem 22)).run Try.prog W = .ok 2 W := by kernel_rfl
  rw [hz]
  simp [Result.andThen, sliced, tailDt]
theorem sliceDt_to (a : Option Addr) (len cap k : Nat) (h : k ≤ cap) (W : World) : (Instr.slice 22 (.slice a len cap) none (some (.int .i64 (k : Int))) none).run Try.prog W = .ok (.slice a k cap) W := by
  rw [run_slice_h (P := Try.prog) W 22 a len cap (by kernel_rfl) .i64 (k : Int) (by omega) (by omega)]
  have hz : (sizeOf (Try.prog.elem 22)).run Try.prog W = .ok 2 W := by kernel_rfl
  rw [hz]
  simp [Result.andThen, sliced]
  intro _
  cases a <;> simp [Addr.add]

/-- The slice value v owns the dots l. -/
def OwnDt (B : Nat) (w : World) (v : Value) (l : List Dt) : Prop := w.ownsRow B 24 2 v l.length (dts l)
theorem OwnDt.nil (B : Nat) (w : World) : OwnDt B w (.slice none 0 0) [] := World.ownsRow_nil _ _ _ _
theorem OwnDt.below {B : Nat} {w w' : World} {v : Value} {l : List Dt} (h : OwnDt B w v l) (hb : Below w.heap.size w w') : OwnDt B w' v l := by
  refine ⟨h.1, ?_⟩
  rcases h.2 with h2 | ⟨g, cap, cur, hv, hg, hh, r⟩
  · exact .inl h2
  · exact .inr ⟨g, cap, cur, hv, hg, by rw [hb.block g (Array.getElem?_eq_some_iff.1 hh).1]; exact hh, r⟩
theorem OwnDt.mono {B B' : Nat} {w : World} {v : Value} {l : List Dt} (h : OwnDt B w v l) (hB : B' ≤ B) : OwnDt B' w v l := by
  refine ⟨h.1, ?_⟩
  rcases h.2 with h2 | ⟨g, cap, cur, hv, hg, r⟩
  · exact .inl h2
  · exact .inr ⟨g, cap, cur, hv, by omega, r⟩
theorem OwnDt.alloc {B : Nat} {w : World} {v : Value} {l : List Dt} (h : OwnDt B w v l) (o : Obj) : OwnDt B (w.alloc o) v l := World.ownsRow.alloc h o
theorem OwnDt.drew {B : Nat} {w : World} {v : Value} {l : List Dt} (h : OwnDt B w v l) : OwnDt B w.drew v l := h
theorem OwnDt.drewN {B : Nat} {w : World} {v : Value} {l : List Dt} (h : OwnDt B w v l) (n : Nat) : OwnDt B (w.drewN n) v l := h
theorem OwnDt.base {B : Nat} {w : World} {v : Value} {l : List Dt} (h : OwnDt B w v l) : ∀ k, v.ownBlock = some k → B ≤ k := fun k hk => (World.ownsRow.lt h k hk).1
theorem OwnDt.lt {B : Nat} {w : World} {v : Value} {l : List Dt} (h : OwnDt B w v l) : ∀ k, v.ownBlock = some k → k < w.heap.size := fun k hk => (World.ownsRow.lt h k hk).2
/-- The form of an owned slice of dots. -/
theorem OwnDt.form {B : Nat} {w : World} {v : Value} {l : List Dt} (h : OwnDt B w v l) : ∃ a cap, v = .slice a l.length cap ∧ l.length ≤ cap ∧ cap ≤ maxLen ∧ (a = none → cap = 0) ∧ RdDt w.heap.size w a l := by
  have hc := @World.ownsRow.cells w B _ 2 v l.length (dts l) h
  rcases h.2 with ⟨rfl, h0⟩ | ⟨g, cap, cur, rfl, hg, hh, h3, h4, r⟩
  · have : l = [] := List.eq_nil_of_length_eq_zero h0
    subst this
    exact ⟨none, 0, rfl, Nat.le_refl _, Nat.zero_le _, fun _ => rfl, RdDt.nil _ _ _⟩
  · have hg2 := (Array.getElem?_eq_some_iff.1 hh).1
    refine ⟨some ⟨g, 0, none⟩, cap, rfl, h3, h4, (fun e => by cases e), by omega, .inr ⟨g, 0, rfl, hg2, fun j hj => ?_⟩⟩
    have h5 := hc (g := g) rfl (j * 2) _ (dts_at l j hj).1
    have h6 := hc (g := g) rfl (j * 2 + 1) _ (dts_at l j hj).2
    rw [addr_add] at h5 h6
    exact ⟨h5, by rw [← h6]; congr 1⟩
theorem OwnDt.empty {B : Nat} {w : World} (hB : B ≤ w.heap.size) : OwnDt B (w.alloc (.cells #[] 24)) (.slice (some ⟨w.heap.size, 0, none⟩) 0 0) [] :=
  ⟨rfl, .inr ⟨w.heap.size, 0, #[], rfl, hB, heap_alloc_new w _, Nat.le_refl _, Nat.zero_le _, rfl, rfl⟩⟩
theorem OwnDt.built {B : Nat} {w : World} (s : Dt) (hB : B ≤ w.heap.size) : OwnDt B (w.alloc (.cells #[.int .i64 s.1, .int .i64 s.2] 24)) (.slice (some ⟨w.heap.size, 0, none⟩) 1 1) [s] :=
  ⟨rfl, .inr ⟨w.heap.size, 1, #[.int .i64 s.1, .int .i64 s.2], rfl, hB, heap_alloc_new w _, Nat.le_refl _, by unfold maxLen; omega, rfl, rfl⟩⟩
theorem RdDt.one {w : World} (s : Dt) : RdDt (w.heap.size + 1) (w.alloc (.cells #[.int .i64 s.1, .int .i64 s.2] 24)) (some ⟨w.heap.size, 0, none⟩) [s] := by
  obtain ⟨a, cap, e, h1, h2, h3, h4⟩ := (OwnDt.built (B := w.heap.size) (w := w) s (Nat.le_refl _)).form
  injection e with e1 e2 e3
  rw [World.size_alloc, ← e1] at h4
  exact h4

theorem dotInfo : (Try.prog.info? 24).map (fun i => (i.zero, i.size, i.bytes)) = some (some (.agg #[.int .i64 0, .int .i64 0]), 2, 16) := by kernel_rfl
theorem RdDt.news {w : World} {B : Nat} {ad : Addr} {l : List Dt} (h : RdDt B w (some ad) l) : ∀ j u, (dts l)[j]? = some u → w.cell? (ad.add j) = some u := by
  intro j u hu
  have hj : j < l.length * 2 := by
    have := (List.getElem?_eq_some_iff.1 hu).1
    rw [dts_len] at this; exact this
  rcases h.2 with h2 | ⟨b, o, ha, _, hc⟩
  · subst h2; simp at hj
  · injection ha with ha
    subst ha
    obtain ⟨c0, c1⟩ := hc (j / 2) (by omega)
    obtain ⟨d0, d1⟩ := dts_at l (j / 2) (by omega)
    rw [addr_add]
    rcases Nat.mod_two_eq_zero_or_one j with e | e
    · have ej : j / 2 * 2 = j := by omega
      rw [ej] at c0 d0
      rw [c0, ← d0, hu]
    · have ej : j / 2 * 2 + 1 = j := by omega
      rw [ej] at d1
      rw [show o + j / 2 * 2 + 1 = o + j by omega] at c1
      rw [c1, ← d1, hu]
/-- append(own, xs...), xs a slice of dots that is read. -/
theorem wp_appDt {o : Oper} {a : Act} {w : World} {K : Act → World → Prop} {Q : Exit → Act → World → Prop} (s x : Operand)
    (ho : o.op = .call { callee := .builtin .append, args := #[s, x], argTypes := #[22, 22] })
    (B : Nat) (v : Value) (l l' : List Dt) (ad : Option Addr) (cap : Nat) (hs : a.eval s = v) (hown : OwnDt B w v l) (hx : a.eval x = .slice ad l'.length cap) (hr : RdDt w.heap.size w ad l') (hnil : ad = none → cap = 0)
    (hlen : (l.length + l'.length) * 16 ≤ 140737488355328) (hB : B ≤ w.heap.size)
    (h : ∀ v' w', OwnDt B w' v' (l ++ l') → Grew w v w' v' → K (a.put o.dst v') w') : o.wp Try.prog a w K Q := by
  obtain ⟨i0, hi, hz0, hz1, hz2⟩ := info_parts dotInfo
  cases ad with
  | none =>
    have hl : l' = [] := by
      rcases hr.2 with h2 | ⟨b, o, ha, _⟩
      · exact h2
      · cases ha
    subst hl
    rw [hnil rfl] at hx
    have hrun := run_append_owned_none (P := Try.prog) (w := w) B 22 o.type 24 i0 2 Try.underlying22 hi v l.length (dts l) hown
    unfold Oper.wp
    simp only [List.length_nil] at hx
    simp [execOp, ho, resolve, invoke, builtin, hs, hx, hrun, Result.andThen]
    exact h _ _ (by simpa using hown) (Grew.refl _ _)
  | some ad =>
    obtain ⟨v', w', hrun, h2, h3, _, h5⟩ := run_append_own_at (P := Try.prog) (w := w) B 22 o.type 24 i0 (.agg #[.int .i64 0, .int .i64 0]) 2 16 Try.underlying22 hi hz0 hz1 hz2 rfl (by decide) v l.length (dts l) hown ad l'.length cap (dts l') (dts_len l') hr.news (dts_one l') (by unfold maxLen; omega) hlen hB
    unfold Oper.wp execOp
    simp only [ho, resolve, invoke, builtin, Sem.run_bind, Sem.run_pure, Result.andThen_ok, List.map_toArray, List.map_cons, List.map_nil, hs, hx, hrun]
    refine h v' w' (by unfold OwnDt; rw [List.length_append, dts_app]; exact h2) ⟨h3, fun k hk => ?_⟩
    rcases h5 with h5 | h5
    · exact .inl (h5 ▸ hk)
    · rw [h5] at hk; cases hk; exact .inr (Nat.le_refl _)
theorem wpList_appDt {ops : Array Oper} {rest : List Oper} {o : Oper} {a : Act} {w : World} {Q : Exit → Act → World → Prop} (hgd : o.guard = none) (s x : Operand)
    (ho : o.op = .call { callee := .builtin .append, args := #[s, x], argTypes := #[22, 22] })
    (B : Nat) (v : Value) (l l' : List Dt) (ad : Option Addr) (cap : Nat) (hs : a.eval s = v) (hown : OwnDt B w v l) (hx : a.eval x = .slice ad l'.length cap) (hr : RdDt w.heap.size w ad l') (hnil : ad = none → cap = 0)
    (hlen : (l.length + l'.length) * 16 ≤ 140737488355328) (hB : B ≤ w.heap.size)
    (h : ∀ v' w', OwnDt B w' v' (l ++ l') → Grew w v w' v' → wpList Try.prog ops Q rest (a.put o.dst v') w') : wpList Try.prog ops Q (o :: rest) a w :=
  wpList_plain hgd fun _ hK => wp_appDt s x ho B v l l' ad cap hs hown hx hr hnil hlen hB fun v' w' h2 h3 => hK _ _ (h v' w' h2 h3)
/-- append(own, one), behind a dot that has just been built. -/
theorem wpList_appDt1 {ops : Array Oper} {rest : List Oper} {o : Oper} {a : Act} {w : World} {Q : Exit → Act → World → Prop} (hgd : o.guard = none) (s x : Operand)
    (ho : o.op = .call { callee := .builtin .append, args := #[s, x], argTypes := #[22, 22] })
    (B : Nat) (v : Value) (l : List Dt) (t : Dt) (w0 : World) (g : Nat) (hs : a.eval s = v) (hown : OwnDt B w0 v l) (hx : a.eval x = .slice (some ⟨g, 0, none⟩) 1 1) (hg : g = w0.heap.size)
    (hw : w = w0.alloc (.cells #[.int .i64 t.1, .int .i64 t.2] 24)) (hlen : l.length ≤ 1000000) (hB : B ≤ w0.heap.size)
    (h : ∀ v' w', OwnDt B w' v' (l ++ [t]) → Below B w0 w' → wpList Try.prog ops Q rest (a.put o.dst v') w') : wpList Try.prog ops Q (o :: rest) a w := by
  subst hg
  subst hw
  refine wpList_appDt hgd s x ho B v l [t] (some ⟨w0.heap.size, 0, none⟩) 1 hs (hown.alloc _) hx (by rw [World.size_alloc]; exact RdDt.one t) (fun e => by cases e) (by simp only [List.length_singleton]; omega) (le_alloc hB _) fun v' w' h2 h3 => h v' w' h2 ?_
  exact ((Below.refl _ _).alloc hB _).trans (h3.below hown.base (le_alloc hB _))

/-- Block B is just a dot. -/
def DB (w : World) (B : Nat) (s : Dt) : Prop := w.heap[B]? = some (.cells #[.int .i64 s.1, .int .i64 s.2] 24 (0, 0))
theorem DB.new (w : World) (s : Dt) : DB (w.alloc (.cells #[.int .i64 s.1, .int .i64 s.2] 24)) w.heap.size s := heap_alloc_new w _
theorem DB.lt {w : World} {B : Nat} {s : Dt} (h : DB w B s) : B < w.heap.size := (Array.getElem?_eq_some_iff.1 h).1
theorem DB.below {w w' : World} {B C : Nat} {s : Dt} (h : DB w B s) (hb : Below C w w') (hB : B < C) : DB w' B s := (hb.block B hB).trans h
theorem DB.call {w w' : World} {B : Nat} {s : Dt} (h : DB w B s) (hb : Below w.heap.size w w') : DB w' B s := h.below hb h.lt
theorem DB.alloc {w : World} {B : Nat} {s : Dt} (h : DB w B s) (o : Obj) : DB (w.alloc o) B s := (Below.heap_alloc w o B h.lt).trans h
theorem DB.cell0 {w : World} {B : Nat} {s : Dt} (h : DB w B s) : w.cell? ⟨B, 0, none⟩ = some (.int .i64 s.1) := by rw [cell_of_row w B 0 _ _ (0, 0) h]; rfl
theorem DB.cell1 {w : World} {B : Nat} {s : Dt} (h : DB w B s) : w.cell? ⟨B, 1, none⟩ = some (.int .i64 s.2) := by rw [cell_of_row w B 1 _ _ (0, 0) h]; rfl
end Go.Proofs.Ytfdfaajjlangjaa
