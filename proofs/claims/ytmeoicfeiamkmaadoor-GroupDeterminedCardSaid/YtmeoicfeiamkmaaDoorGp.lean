/-
  Package group's powers.
-/
import Derived.Test.YtmeoicfeiamkmaaDoorGi
namespace Go.Proofs.YtmeoicfeiamkmaaDoor
open Go.RowKit Go.Shelf
set_option linter.unusedVariables false
set_option linter.unusedSimpArgs false
attribute [local go_sem] Oper.semAt_some

theorem box_other {W : World} {B b : Nat} {t : TypeId} {v : Value} (h : Boxed W B t v) (u : Value) (hne : B ≠ b) : Boxed (W.setCell ⟨b, 0, none⟩ u) B t v := (heap_set u hne).trans h
theorem box_drew {W : World} {B : Nat} {t : TypeId} {v : Value} (h : Boxed W B t v) (k : Nat) : Boxed (W.drewN k) B t v := h
/-- What the loop's boxes hold: the base, squared; what has been multiplied. -/
structure GSt (B a c : Nat) (W : World) : Prop where
  base : Boxed W B 3 (.int .i64 a)
  acc : Boxed W (B + 1) 3 (.int .i64 c)
theorem GSt.kept {B a c : Nat} {W W' : World} {row : Option Nat} (h : GSt B a c W) (hg : W.grownBy W' row) (hr : ∀ r, row = some r → ∃ o : Obj, W.heap[r]? = some o ∧ o.isCells = false) : GSt B a c W' := by
  have key : ∀ {b : Nat} {v : Value}, Boxed W b 3 v → some b ≠ row := fun hb e => by
    obtain ⟨o, ho, hc⟩ := hr _ e.symm
    rw [show W.heap[_]? = _ from hb] at ho
    injection ho with ho
    subst ho
    cases hc
  exact ⟨h.base.kept hg (key h.base), h.acc.kept hg (key h.acc)⟩
theorem GSt.other {B a c b : Nat} {W : World} (h : GSt B a c W) (v : Value) (h1 : B + 1 < b) : GSt B a c (W.setCell ⟨b, 0, none⟩ v) := ⟨box_other h.base v (by omega), box_other h.acc v (by omega)⟩

/-- What the bits that have come make of the base. -/
theorem acc_step (a : Nat) (pre : List Bool) (b : Bool) : (if b then (a ^ valL pre % 4611686018427377339) * (a ^ 2 ^ pre.length % 4611686018427377339) % 4611686018427377339 else a ^ valL pre % 4611686018427377339) = a ^ valL (pre ++ [b]) % 4611686018427377339 := by
  rw [valL_snoc]
  cases b
  · simp
  · rw [if_pos rfl, ← Nat.mul_mod, ← Nat.pow_add]; simp
theorem base_step (a : Nat) (pre : List Bool) (b : Bool) : (a ^ 2 ^ pre.length % 4611686018427377339) * (a ^ 2 ^ pre.length % 4611686018427377339) % 4611686018427377339 = a ^ 2 ^ (pre ++ [b]).length % 4611686018427377339 := by
  rw [← Nat.mul_mod, ← Nat.pow_add]
  congr 2
  simp [Nat.pow_succ]; omega

set_option maxRecDepth 100000 in
set_option maxHeartbeats 2000000 in
theorem gpow_any (a n : Nat) (ha : a < 4611686018427377339) (hn : n < 9223372036854775808) (w : World) :
    Calls Tryd.prog 24 #[.int .i64 a, .int .i64 n] w fun e w' => e = .returned (.int .i64 ((a ^ n % 4611686018427377339 : Nat) : Int)) ∧ Below w.heap.size w w' := by
  obtain ⟨G, hG⟩ : ∃ G, a ^ n % 4611686018427377339 = G := ⟨_, rfl⟩
  rw [hG]
  have HG : Hid (∀ j, n / 2 ^ j = 0 → a ^ valL (loB n j) % 4611686018427377339 = G) := Lib.hid (fun j h => by rw [valL_all h]; exact hG)
  have HA : Hid (a = a ^ 2 ^ ([] : List Bool).length % 4611686018427377339) := Lib.hid (by rw [List.length_nil, Nat.pow_zero, Nat.pow_one, Nat.mod_eq_of_lt ha])
  clear hG
  have HM := Lib.hid (fun (p q : Nat) (hp : p < 4611686018427377339) (hq : q < 4611686018427377339) w => gprod_any p q hp hq w)
  refine (callsIn_wide (n := 5)).1 ?_
  refine callsIn_of_wp_marks Tryd.func24 rfl trivial ?_ rfl
  simp only [Tryd.ntmps24, List.size_toArray, List.length_cons, List.length_nil, Nat.reduceAdd, Nat.reduceSub, Array.replicate_succ, Array.replicate_zero, List.push_toArray, List.append_toArray, List.nil_append, List.cons_append]
  gi_wp2_with (refine ⟨trivial, ?_⟩; gi_at_call 36; refine (callsIn_wide.2 (gbinary_any _ _)).mono ?_; rintro e w' ⟨rfl, rfl⟩)
  generalize hW0 : (((w.alloc (Obj.cells #[Value.int IntKind.i64 (a : Int)] 3)).alloc (Obj.cells #[Value.int IntKind.i64 1] 3)).alloc (Obj.cells #[Value.int IntKind.i64 (n : Int)] 3)) = W0
  have hB0 : Below w.heap.size w W0 := by
    rw [← hW0]
    exact (((Below.refl _ w).alloc (Nat.le_refl _) _).alloc (by simp) _).alloc (by simp; omega) _
  have hsz : W0.heap.size = w.heap.size + 1 + 1 + 1 := by rw [← hW0]; simp
  have hst : GSt w.heap.size a 1 W0 := by
    rw [← hW0]
    have c1 := Boxed.new (w.alloc (Obj.cells #[Value.int IntKind.i64 (a : Int)] 3)) 3 (.int .i64 1)
    rw [World.size_alloc] at c1
    exact ⟨((Boxed.new _ _ _).alloc _).alloc _, c1.alloc _⟩
  have hbn : Boxed W0 (w.heap.size + 1 + 1) 3 (.int .i64 n) := by
    rw [← hW0]
    have c1 := Boxed.new ((w.alloc (Obj.cells #[Value.int IntKind.i64 (a : Int)] 3)).alloc (Obj.cells #[Value.int IntKind.i64 1] 3)) 3 (.int .i64 n)
    rw [World.size_alloc, World.size_alloc] at c1
    exact c1
  clear hW0
  refine range_box rfl (by decide) (gf := 42) (lb := #[.pointer (some ⟨w.heap.size + 1 + 1, 0, none⟩)]) rfl trivial (enters_of Tryd.func42 (by kernel_rfl) rfl)
    (gbin1 (w.heap.size + 1 + 1) n hn) (fun _ => rfl) hbn
    (fun pre W => GSt w.heap.size (a ^ 2 ^ pre.length % 4611686018427377339) (a ^ valL pre % 4611686018427377339) W ∧ Below w.heap.size w W)
    (OwnFrom.and (Own.from (fun s A B row hs hg hr => hs.kept hg hr) _) (ownFrom_below (Nat.le_refl _) (by omega)))
    (fun pre W v h => ⟨h.1.other v (by omega), h.2.setCell (p := ⟨w.heap.size + 1 + 1, 0, none⟩) (by simp; omega) v⟩)
    ⟨by rw [show a ^ valL [] % 4611686018427377339 = 1 from rfl, ← HA.out]; exact hst, hB0⟩
    (fun x => { tmps := #[.int .i64 a, .int .i64 n, .pointer (some ⟨w.heap.size, 0, none⟩), undef, .int .i64 0, .pointer (some ⟨w.heap.size + 1, 0, none⟩), .bool x, .int .i64 n, .func (.func 42) #[] #[.pointer (some ⟨w.heap.size + 1 + 1, 0, none⟩)], .bool x, undef, undef, undef, undef, undef, undef, undef, undef], defers := [] }) ?assign ?body ?done
  case assign =>
    intro l x W K hK
    gi_wp2
    exact hK
  case body =>
    rintro l pre x W ⟨hs, hB⟩ _
    have hp : a ^ 2 ^ pre.length % 4611686018427377339 < 4611686018427377339 := Nat.mod_lt _ (by decide)
    have hc : a ^ valL pre % 4611686018427377339 < 4611686018427377339 := Nat.mod_lt _ (by decide)
    have H1 := Lib.hid (acc_step a pre x)
    have H2 := Lib.hid (base_step a pre x)
    generalize a ^ 2 ^ pre.length % 4611686018427377339 = p at *
    generalize a ^ valL pre % 4611686018427377339 = c at *
    generalize a ^ 2 ^ (pre ++ [x]).length % 4611686018427377339 = p2 at *
    generalize a ^ valL (pre ++ [x]) % 4611686018427377339 = c2 at *
    have K1 := fun w => HM.out c p hc hp w
    have K2 := fun w => HM.out p p hp hp w
    clear HM
    have k1 := hs.base.cell
    have k2 := hs.acc.cell
    have k3 := hs.base.frozen
    have k4 := hs.acc.frozen
    rw [H2.out] at K2
    cases x
    · have e2 : c = c2 := H1.out
      clear H1 H2 K1 hc hp
      subst e2
      gi_wp2_with (refine ⟨trivial, ?_⟩; gi_at_call 19; refine (CallsIn.inRound l (callsIn_wide.2 (K2 _))).mono ?_; rintro e W1 ⟨rfl, k, rfl⟩)
      exact ⟨(KeepsOthers.drewN W k).trans (KeepsOthers.setCell _ _ _), fun v hv => box_other (box_drew hv k) _ (by omega), ⟨(box_drew hs.base k).set _, box_other (box_drew hs.acc k) _ (by omega)⟩, (below_drewN hB k).setCell (p := ⟨w.heap.size, 0, none⟩) (Nat.le_refl _) _⟩
    · have e2 : c * p % 4611686018427377339 = c2 := H1.out
      rw [e2] at K1
      clear H1 H2 hc hp e2
      gi_wp2_with (first
        | (refine ⟨trivial, ?_⟩; gi_at_call 19; with_reducible refine (CallsIn.inRound l (callsIn_wide.2 (K1 _))).mono ?_; clear K1; rintro e W1 ⟨rfl, k, rfl⟩)
        | (refine ⟨trivial, ?_⟩; gi_at_call 19; with_reducible refine (CallsIn.inRound l (callsIn_wide.2 (K2 _))).mono ?_; rintro e W1 ⟨rfl, k', rfl⟩))
      exact ⟨(((KeepsOthers.drewN W k).trans (KeepsOthers.setCell _ _ _)).trans (KeepsOthers.drewN _ k')).trans (KeepsOthers.setCell _ _ _),
        fun v hv => box_other (box_drew (box_other (box_drew hv k) _ (by omega)) k') _ (by omega),
        ⟨(box_drew (box_other (box_drew hs.base k) _ (by omega)) k').set _, box_other (box_drew ((box_drew hs.acc k).set _) k') _ (by omega)⟩,
        (below_drewN ((below_drewN hB k).setCell (p := ⟨w.heap.size + 1, 0, none⟩) (by simp) _) k').setCell (p := ⟨w.heap.size, 0, none⟩) (Nat.le_refl _) _⟩
  case done =>
    rintro D ys W hD ⟨j, rfl, hj⟩ ⟨hs, hB⟩ hK
    rw [HG.out j hj] at hs
    have c1 := hs.acc.cell
    gi_wp2
    refine ⟨by simp, .inl ⟨_, _, rfl, run_takeDeferred hK, ?_⟩⟩
    exact ⟨_, results_tmp rfl _ _ _, rfl, hB.trans (belowK_b (w := w) (Nat.le_refl _) W D _ _ (by omega) hK rfl rfl)⟩
end Go.Proofs.YtmeoicfeiamkmaaDoor
