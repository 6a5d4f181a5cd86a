/-
  Vectors made from devices in order: the reference's Join and Meet as lists.
-/
import Derived.Test.YtfdfaajjlangjaaMh
namespace Go.Proofs.Ytfdfaajjlangjaa
open Go.RowKit
set_option linter.unusedVariables false
set_option linter.unusedSimpArgs false

/-- Strictly increasing devices. -/
def incD : List Int → Prop
  | [] => True
  | k :: r => (0 ≤ k ∧ k < 512) ∧ (∀ x ∈ r, k < x) ∧ incD r
theorem dvV_mem : ∀ (a b : List Dt) (k : Int), k ∈ dvV a b ↔ (∃ d ∈ a, d.1 = k) ∨ ∃ d ∈ b, d.1 = k
  | [], b, k => by unfold dvV; simp
  | d :: r, [], k => by unfold dvV; simp [eq_comm]
  | d :: r, e :: s, k => by
    unfold dvV
    split
    · rw [List.mem_cons, dvV_mem r (e :: s) k]; simp [List.mem_cons, eq_comm, or_assoc]
    · split
      · rw [List.mem_cons, dvV_mem (d :: r) s k]
        simp only [List.mem_cons, exists_eq_or_imp]
        rw [show (k = e.1) = (e.1 = k) from propext eq_comm]
        constructor
        · rintro (h | h | h)
          · exact .inr (.inl h)
          · exact .inl h
          · exact .inr (.inr h)
        · rintro (h | h | h)
          · exact .inr (.inl h)
          · exact .inl h
          · exact .inr (.inr h)
      · next h1 h2 =>
        have hde : d.1 = e.1 := by omega
        rw [List.mem_cons, dvV_mem r s k]
        simp only [List.mem_cons, exists_eq_or_imp]
        rw [← hde, show (k = d.1) = (d.1 = k) from propext eq_comm]
        constructor
        · rintro (h | h | h)
          · exact .inl (.inl h)
          · exact .inl (.inr h)
          · exact .inr (.inr h)
        · rintro ((h | h) | (h | h))
          · exact .inl h
          · exact .inr (.inl h)
          · exact .inl h
          · exact .inr (.inr h)
termination_by a b => a.length + b.length
theorem dvV_inc : ∀ (a b : List Dt), okV a → okV b → incD (dvV a b)
  | [], [], _, _ => by unfold dvV; trivial
  | [], e :: s, ha, hb => by
    rw [dvV_r]
    refine ⟨⟨hb.1.1, hb.1.2.1⟩, fun x hx => ?_, dvV_inc [] s trivial hb.2.2⟩
    rcases (dvV_mem [] s x).1 hx with ⟨y, h1, h2⟩ | ⟨y, h1, h2⟩
    · cases h1
    · have := hb.2.1 y h1; omega
  | d :: r, [], ha, _ => by
    rw [dvV_l]
    refine ⟨⟨ha.1.1, ha.1.2.1⟩, fun x hx => ?_, dvV_inc r [] ha.2.2 trivial⟩
    rcases (dvV_mem r [] x).1 hx with ⟨y, h1, h2⟩ | ⟨y, h1, h2⟩
    · have := ha.2.1 y h1; omega
    · cases h1
  | d :: r, e :: s, ha, hb => by
    rcases Int.lt_trichotomy d.1 e.1 with hl | hl | hl
    · rw [dvV_lt _ _ hl]
      refine ⟨⟨ha.1.1, ha.1.2.1⟩, fun x hx => ?_, dvV_inc r (e :: s) ha.2.2 hb⟩
      rcases (dvV_mem r (e :: s) x).1 hx with ⟨y, h1, h2⟩ | ⟨y, h1, h2⟩
      · have := ha.2.1 y h1; omega
      · rcases List.mem_cons.1 h1 with rfl | h1
        · omega
        · have := hb.2.1 y h1; omega
    · rw [dvV_eq _ _ hl]
      refine ⟨⟨ha.1.1, ha.1.2.1⟩, fun x hx => ?_, dvV_inc r s ha.2.2 hb.2.2⟩
      rcases (dvV_mem r s x).1 hx with ⟨y, h1, h2⟩ | ⟨y, h1, h2⟩
      · have := ha.2.1 y h1; omega
      · have := hb.2.1 y h1; omega
    · rw [dvV_gt _ _ hl]
      refine ⟨⟨hb.1.1, hb.1.2.1⟩, fun x hx => ?_, dvV_inc (d :: r) s ha hb.2.2⟩
      rcases (dvV_mem (d :: r) s x).1 hx with ⟨y, h1, h2⟩ | ⟨y, h1, h2⟩
      · rcases List.mem_cons.1 h1 with rfl | h1
        · omega
        · have := ha.2.1 y h1; omega
      · have := hb.2.1 y h1; omega
termination_by a b => a.length + b.length
/-- The dots of devices with a number above 0. -/
def mkV (g : Int → Int) (ks : List Int) : List Dt := ks.filterMap fun k => if 0 < g k then some (k, g k) else none
theorem mkV_cons (g : Int → Int) (k : Int) (r : List Int) : mkV g (k :: r) = if 0 < g k then (k, g k) :: mkV g r else mkV g r := by
  unfold mkV
  rw [List.filterMap_cons]
  split <;> split at * <;> simp_all
theorem mkV_dev {g : Int → Int} {ks : List Int} {x : Dt} (h : x ∈ mkV g ks) : x.1 ∈ ks := by
  unfold mkV at h
  rw [List.mem_filterMap] at h
  obtain ⟨k, h1, h2⟩ := h
  split at h2
  · injection h2 with h2; subst h2; exact h1
  · cases h2
theorem mkV_ok (g : Int → Int) (hg : ∀ k, g k ≤ 1048576) : ∀ ks, incD ks → okV (mkV g ks)
  | [], _ => trivial
  | k :: r, h => by
    have ih := mkV_ok g hg r h.2.2
    rw [mkV_cons]
    split
    · exact ⟨⟨h.1.1, h.1.2, by show 1 ≤ g k; omega, hg k⟩, fun x hx => h.2.1 _ (mkV_dev hx), ih⟩
    · exact ih
theorem mkV_at (g : Int → Int) : ∀ ks, incD ks → ∀ k, atV (mkV g ks) k = if k ∈ ks ∧ 0 < g k then g k else 0
  | [], _, k => by simp [mkV, atV]
  | j :: r, h, k => by
    have ih := mkV_at g r h.2.2 k
    rw [mkV_cons]
    by_cases hjk : j = k
    · subst hjk
      split
      · next hp => rw [atV_cons, if_pos rfl, if_pos ⟨List.mem_cons_self .., hp⟩]
      · next hp =>
        rw [atV_out (fun e he => by have := h.2.1 _ (mkV_dev he); omega), if_neg (fun h2 => hp h2.2)]
    · have hm : (k ∈ j :: r ∧ 0 < g k) = (k ∈ r ∧ 0 < g k) := by
        apply propext
        rw [List.mem_cons]
        constructor
        · rintro ⟨h1 | h1, h2⟩
          · exact absurd h1.symm hjk
          · exact ⟨h1, h2⟩
        · rintro ⟨h1, h2⟩; exact ⟨.inr h1, h2⟩
      simp only [hm]
      split
      · rw [atV_cons, if_neg (by exact hjk), ih]
      · rw [ih]
/-- What the reference's Join and Meet make. -/
theorem join_mk {a b : List Dt} (ha : okV a) (hb : okV b) : mkV (fun k => max (atV a k) (atV b k)) (dvV a b) = jnV a b := by
  refine okV_ext (mkV_ok _ (fun k => by have := (atV_range ha k).2; have := (atV_range hb k).2; omega) _ (dvV_inc a b ha hb)) (jnV_ok a b ha hb) fun k => ?_
  rw [mkV_at _ _ (dvV_inc a b ha hb), jnV_at a b ha hb]
  split
  · rfl
  · next h =>
    have h1 := (atV_range ha k).1
    have h2 := (atV_range hb k).1
    by_cases h0 : max (atV a k) (atV b k) = 0
    · rw [h0]
    · exfalso
      refine h ⟨(dvV_mem a b k).2 ?_, by show 0 < max _ _; omega⟩
      by_cases h3 : atV a k = 0
      · obtain ⟨d, hd, e1, -⟩ := atV_pos (v := b) (k := k) (by omega)
        exact .inr ⟨d, hd, e1⟩
      · obtain ⟨d, hd, e1, -⟩ := atV_pos h3
        exact .inl ⟨d, hd, e1⟩
theorem meet_mk {a b : List Dt} (ha : okV a) (hb : okV b) : mkV (fun k => min (atV a k) (atV b k)) (dvV a b) = mtV a b := by
  refine okV_ext (mkV_ok _ (fun k => by have := (atV_range ha k).2; have := (atV_range hb k).2; omega) _ (dvV_inc a b ha hb)) (mtV_ok a b ha hb) fun k => ?_
  rw [mkV_at _ _ (dvV_inc a b ha hb), mtV_at a b ha hb]
  split
  · rfl
  · next h =>
    have h1 := (atV_range ha k).1
    have h2 := (atV_range hb k).1
    by_cases h0 : min (atV a k) (atV b k) = 0
    · rw [h0]
    · exfalso
      refine h ⟨(dvV_mem a b k).2 ?_, by show 0 < min _ _; omega⟩
      obtain ⟨d, hd, e1, -⟩ := atV_pos (v := a) (k := k) (by omega)
      exact .inl ⟨d, hd, e1⟩
theorem mkV_app (g : Int → Int) (ks : List Int) (k : Int) : mkV g (ks ++ [k]) = if 0 < g k then mkV g ks ++ [(k, g k)] else mkV g ks := by
  unfold mkV
  rw [List.filterMap_append]
  by_cases h : 0 < g k
  · simp [h]
  · simp [h]
theorem mkV_len (g : Int → Int) (ks : List Int) : (mkV g ks).length ≤ ks.length := List.length_filterMap_le ..
end Go.Proofs.Ytfdfaajjlangjaa
