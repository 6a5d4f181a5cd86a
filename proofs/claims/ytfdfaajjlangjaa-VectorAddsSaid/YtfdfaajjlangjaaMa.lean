/-
  Package vector, as lists of pairs: numbers of devices, valid vectors, joined, met, compared.
-/
import Derived.Below
namespace Go.Proofs.Ytfdfaajjlangjaa
set_option linter.unusedVariables false
set_option linter.unusedSimpArgs false

/-- A dot: device and number. -/
abbrev Dt := Int × Int
def dotP (d : Dt) : Prop := 0 ≤ d.1 ∧ d.1 < 512 ∧ 1 ≤ d.2 ∧ d.2 ≤ 1048576
instance (d : Dt) : Decidable (dotP d) := by unfold dotP; infer_instance
/-- A valid vector. -/
def okV : List Dt → Prop
  | [] => True
  | d :: r => dotP d ∧ (∀ e ∈ r, d.1 < e.1) ∧ okV r
instance decOkV : (v : List Dt) → Decidable (okV v)
  | [] => .isTrue trivial
  | d :: r => by
    have := decOkV r
    unfold okV
    infer_instance
/-- The number of a device. -/
def atV : List Dt → Int → Int
  | [], _ => 0
  | d :: r, k => if d.1 = k then d.2 else atV r k
theorem atV_lo : ∀ {v : List Dt} {k : Int}, (∀ e ∈ v, k < e.1) → atV v k = 0
  | [], _, _ => rfl
  | d :: r, k, h => by
    unfold atV
    rw [if_neg (by have := h d (List.mem_cons_self ..); omega)]
    exact atV_lo fun e he => h e (List.mem_cons_of_mem _ he)
theorem atV_out : ∀ {v : List Dt} {k : Int}, (∀ e ∈ v, e.1 ≠ k) → atV v k = 0
  | [], _, _ => rfl
  | d :: r, k, h => by
    unfold atV
    rw [if_neg (h d (List.mem_cons_self ..))]
    exact atV_out fun e he => h e (List.mem_cons_of_mem _ he)
theorem okV_dot : ∀ {v : List Dt}, okV v → ∀ d ∈ v, dotP d
  | [], _, _, h => by cases h
  | e :: r, h, d, hd => by
    rcases List.mem_cons.1 hd with rfl | hd
    · exact h.1
    · exact okV_dot h.2.2 d hd
theorem atV_mem : ∀ {v : List Dt}, okV v → ∀ d ∈ v, atV v d.1 = d.2
  | [], _, _, h => by cases h
  | e :: r, h, d, hd => by
    unfold atV
    rcases List.mem_cons.1 hd with rfl | hd
    · rw [if_pos rfl]
    · have := h.2.1 d hd
      rw [if_neg (by omega)]
      exact atV_mem h.2.2 d hd
theorem atV_range : ∀ {v : List Dt}, okV v → ∀ k, 0 ≤ atV v k ∧ atV v k ≤ 1048576
  | [], _, k => by unfold atV; omega
  | d :: r, h, k => by
    unfold atV
    split
    · have := h.1; unfold dotP at this; omega
    · exact atV_range h.2.2 k
/-- A device with a number stands in the list. -/
theorem atV_pos : ∀ {v : List Dt} {k : Int}, atV v k ≠ 0 → ∃ d ∈ v, d.1 = k ∧ d.2 = atV v k
  | [], k, h => absurd rfl h
  | d :: r, k, h => by
    unfold atV at h ⊢
    split at h
    · next e => exact ⟨d, List.mem_cons_self .., e, by rw [if_pos e]⟩
    · next e =>
      obtain ⟨x, hx, h1, h2⟩ := atV_pos h
      exact ⟨x, List.mem_cons_of_mem _ hx, h1, by rw [if_neg e]; exact h2⟩
/-- Valid vectors with the same numbers are the same. -/
theorem okV_ext : ∀ {a b : List Dt}, okV a → okV b → (∀ k, atV a k = atV b k) → a = b
  | [], [], _, _, _ => rfl
  | [], e :: s, _, hb, h => by
    have h1 := h e.1
    unfold atV at h1
    rw [if_pos rfl] at h1
    have := hb.1; unfold dotP at this; omega
  | d :: r, [], ha, _, h => by
    have h1 := h d.1
    unfold atV at h1
    rw [if_pos rfl] at h1
    have := ha.1; unfold dotP at this; omega
  | d :: r, e :: s, ha, hb, h => by
    have hd := ha.1
    have he := hb.1
    unfold dotP at hd he
    have h1 := h d.1
    have h2 := h e.1
    unfold atV at h1 h2
    rw [if_pos rfl] at h1 h2
    have e1 : d.1 = e.1 := by
      rcases Int.lt_trichotomy d.1 e.1 with hl | hl | hl
      · rw [if_neg (by omega), atV_lo (fun x hx => by have := hb.2.1 x hx; omega)] at h1; omega
      · exact hl
      · rw [if_neg (by omega), atV_lo (fun x hx => by have := ha.2.1 x hx; omega)] at h2; omega
    rw [if_pos e1.symm] at h1
    have e2 : d = e := Prod.ext e1 h1
    subst e2
    rw [okV_ext ha.2.2 hb.2.2 fun k => ?_]
    have h3 := h k
    unfold atV at h3
    by_cases hk : d.1 = k
    · subst hk
      rw [atV_lo ha.2.1, atV_lo hb.2.1]
    · rw [if_neg hk, if_neg hk] at h3; exact h3

/-- Joined. -/
def jnV : List Dt → List Dt → List Dt
  | [], b => b
  | a, [] => a
  | d :: r, e :: s => if d.1 < e.1 then d :: jnV r (e :: s) else if e.1 < d.1 then e :: jnV (d :: r) s else (d.1, max d.2 e.2) :: jnV r s
termination_by a b => a.length + b.length
theorem jnV_mem : ∀ (a b : List Dt) (x : Dt), x ∈ jnV a b → (∃ y ∈ a, y.1 = x.1) ∨ ∃ y ∈ b, y.1 = x.1
  | [], b, x, h => .inr ⟨x, by simpa [jnV] using h, rfl⟩
  | d :: r, [], x, h => .inl ⟨x, by simpa [jnV] using h, rfl⟩
  | d :: r, e :: s, x, h => by
    unfold jnV at h
    split at h
    · rcases List.mem_cons.1 h with rfl | h
      · exact .inl ⟨_, List.mem_cons_self .., rfl⟩
      · rcases jnV_mem r (e :: s) x h with ⟨y, h1, h2⟩ | h1
        · exact .inl ⟨y, List.mem_cons_of_mem _ h1, h2⟩
        · exact .inr h1
    · split at h
      · rcases List.mem_cons.1 h with rfl | h
        · exact .inr ⟨_, List.mem_cons_self .., rfl⟩
        · rcases jnV_mem (d :: r) s x h with h1 | ⟨y, h1, h2⟩
          · exact .inl h1
          · exact .inr ⟨y, List.mem_cons_of_mem _ h1, h2⟩
      · rcases List.mem_cons.1 h with rfl | h
        · exact .inl ⟨_, List.mem_cons_self .., rfl⟩
        · rcases jnV_mem r s x h with ⟨y, h1, h2⟩ | ⟨y, h1, h2⟩
          · exact .inl ⟨y, List.mem_cons_of_mem _ h1, h2⟩
          · exact .inr ⟨y, List.mem_cons_of_mem _ h1, h2⟩
termination_by a b => a.length + b.length
theorem jnV_ok : ∀ (a b : List Dt), okV a → okV b → okV (jnV a b)
  | [], b, _, hb => by unfold jnV; exact hb
  | d :: r, [], ha, _ => by unfold jnV; exact ha
  | d :: r, e :: s, ha, hb => by
    unfold jnV
    split
    · refine ⟨ha.1, fun x hx => ?_, jnV_ok r (e :: s) ha.2.2 hb⟩
      rcases jnV_mem r (e :: s) x hx with ⟨y, h1, h2⟩ | ⟨y, h1, h2⟩
      · have := ha.2.1 y h1; omega
      · rcases List.mem_cons.1 h1 with rfl | h1
        · omega
        · have := hb.2.1 y h1; omega
    · split
      · refine ⟨hb.1, fun x hx => ?_, jnV_ok (d :: r) s ha hb.2.2⟩
        rcases jnV_mem (d :: r) s x hx with ⟨y, h1, h2⟩ | ⟨y, h1, h2⟩
        · rcases List.mem_cons.1 h1 with rfl | h1
          · omega
          · have := ha.2.1 y h1; omega
        · have := hb.2.1 y h1; omega
      · refine ⟨?_, fun x hx => ?_, jnV_ok r s ha.2.2 hb.2.2⟩
        · have h1 := ha.1; have h2 := hb.1; unfold dotP at *; simp only; omega
        · rcases jnV_mem r s x hx with ⟨y, h1, h2⟩ | ⟨y, h1, h2⟩
          · have := ha.2.1 y h1; simp only; omega
          · have := hb.2.1 y h1; simp only; omega
termination_by a b => a.length + b.length
theorem jnV_at : ∀ (a b : List Dt), okV a → okV b → ∀ k, atV (jnV a b) k = max (atV a k) (atV b k)
  | [], b, _, hb, k => by have := (atV_range hb k).1; unfold jnV; rw [show atV [] k = 0 from rfl]; omega
  | d :: r, [], ha, _, k => by have := (atV_range ha k).1; unfold jnV; rw [show atV [] k = 0 from rfl]; omega
  | d :: r, e :: s, ha, hb, k => by
    have hd := ha.1
    have he := hb.1
    unfold dotP at hd he
    unfold jnV
    split
    · next hl =>
      have ih := jnV_at r (e :: s) ha.2.2 hb k
      rw [show atV (d :: jnV r (e :: s)) k = if d.1 = k then d.2 else atV (jnV r (e :: s)) k from rfl, ih, show atV (d :: r) k = if d.1 = k then d.2 else atV r k from rfl]
      split
      · next hk => rw [show atV (e :: s) k = 0 from atV_lo fun x hx => by
          rcases List.mem_cons.1 hx with rfl | hx
          · omega
          · have := hb.2.1 x hx; omega]; omega
      · rfl
    · split
      · next hl =>
        have ih := jnV_at (d :: r) s ha hb.2.2 k
        rw [show atV (e :: jnV (d :: r) s) k = if e.1 = k then e.2 else atV (jnV (d :: r) s) k from rfl, ih, show atV (e :: s) k = if e.1 = k then e.2 else atV s k from rfl]
        split
        · next hk => rw [show atV (d :: r) k = 0 from atV_lo fun x hx => by
            rcases List.mem_cons.1 hx with rfl | hx
            · omega
            · have := ha.2.1 x hx; omega]; omega
        · rfl
      · next h1 h2 =>
        have hde : d.1 = e.1 := by omega
        have ih := jnV_at r s ha.2.2 hb.2.2 k
        rw [show atV ((d.1, max d.2 e.2) :: jnV r s) k = if d.1 = k then max d.2 e.2 else atV (jnV r s) k from rfl, ih, show atV (d :: r) k = if d.1 = k then d.2 else atV r k from rfl, show atV (e :: s) k = if e.1 = k then e.2 else atV s k from rfl]
        by_cases hk : d.1 = k
        · rw [if_pos hk, if_pos hk, if_pos (by omega)]
        · rw [if_neg hk, if_neg hk, if_neg (by omega)]
termination_by a b => a.length + b.length

/-- Met: the devices of both. -/
def mtV (a b : List Dt) : List Dt := a.filterMap fun d => if atV b d.1 = 0 then none else some (d.1, min d.2 (atV b d.1))
theorem mtV_mem {a b : List Dt} {x : Dt} (h : x ∈ mtV a b) : ∃ y ∈ a, y.1 = x.1 ∧ atV b x.1 ≠ 0 ∧ x.2 = min y.2 (atV b x.1) := by
  unfold mtV at h
  rw [List.mem_filterMap] at h
  obtain ⟨y, h1, h2⟩ := h
  split at h2
  · cases h2
  · next h3 =>
    injection h2 with h2
    subst h2
    exact ⟨y, h1, rfl, h3, rfl⟩
theorem mtV_ok : ∀ (a b : List Dt), okV a → okV b → okV (mtV a b)
  | [], b, _, _ => trivial
  | d :: r, b, ha, hb => by
    have ih := mtV_ok r b ha.2.2 hb
    have hr := atV_range hb d.1
    have hd := ha.1
    unfold dotP at hd
    unfold mtV at ih ⊢
    rw [List.filterMap_cons]
    split
    · exact ih
    · next x hx =>
      split at hx
      · cases hx
      · injection hx with hx
        subst hx
        refine ⟨by unfold dotP; simp only; omega, fun x hx => ?_, ih⟩
        obtain ⟨y, h1, h2, -⟩ := mtV_mem (a := r) (b := b) hx
        have := ha.2.1 y h1
        simp only
        omega
theorem mtV_at : ∀ (a b : List Dt), okV a → okV b → ∀ k, atV (mtV a b) k = min (atV a k) (atV b k)
  | [], b, _, hb, k => by have := (atV_range hb k).1; show (0 : Int) = min 0 _; omega
  | d :: r, b, ha, hb, k => by
    have ih := mtV_at r b ha.2.2 hb k
    have hr := atV_range hb k
    have hd := ha.1
    unfold dotP at hd
    rw [show atV (d :: r) k = if d.1 = k then d.2 else atV r k from rfl]
    unfold mtV at ih ⊢
    rw [List.filterMap_cons]
    by_cases hk : d.1 = k
    · subst hk
      rw [if_pos rfl]
      split
      · next hx =>
        split at hx
        · next h0 =>
          rw [h0]
          have : atV (List.filterMap (fun d => if atV b d.1 = 0 then none else some (d.1, min d.2 (atV b d.1))) r) d.1 = 0 := atV_lo fun x hx => by
            obtain ⟨y, h1, h2, -⟩ := mtV_mem (a := r) (b := b) hx
            have := ha.2.1 y h1
            omega
          rw [this]; omega
        · cases hx
      · next x hx =>
        split at hx
        · cases hx
        · injection hx with hx
          subst hx
          rw [show ∀ l, atV ((d.1, min d.2 (atV b d.1)) :: l) d.1 = min d.2 (atV b d.1) from fun l => by simp [atV]]
    · rw [if_neg hk]
      split
      · exact ih
      · next x hx =>
        split at hx
        · cases hx
        · injection hx with hx
          subst hx
          rw [show ∀ l, atV ((d.1, min d.2 (atV b d.1)) :: l) k = atV l k from fun l => by rw [show atV ((d.1, min d.2 (atV b d.1)) :: l) k = if d.1 = k then _ else atV l k from rfl, if_neg hk]]
          exact ih

/-- Covered. -/
def covV (v : List Dt) (d : Dt) : Prop := 1 ≤ d.2 ∧ d.2 ≤ atV v d.1
instance (v : List Dt) (d : Dt) : Decidable (covV v d) := by unfold covV; infer_instance
theorem covV_join {a b : List Dt} (ha : okV a) (hb : okV b) (d : Dt) : covV (jnV a b) d ↔ covV a d ∨ covV b d := by
  unfold covV; rw [jnV_at a b ha hb]; omega
theorem covV_meet {a b : List Dt} (ha : okV a) (hb : okV b) (d : Dt) : covV (mtV a b) d ↔ covV a d ∧ covV b d := by
  unfold covV; rw [mtV_at a b ha hb]; omega

/-- At most. -/
def leV (a b : List Dt) : Prop := ∀ d ∈ a, d.2 ≤ atV b d.1
instance (a b : List Dt) : Decidable (leV a b) := by unfold leV; infer_instance
theorem leV_iff {a b : List Dt} (ha : okV a) (hb : okV b) : leV a b ↔ ∀ k, atV a k ≤ atV b k := by
  constructor
  · intro h k
    rcases Decidable.em (atV a k = 0) with h0 | h0
    · rw [h0]; exact (atV_range hb k).1
    · obtain ⟨d, hd, e1, e2⟩ := atV_pos h0
      have := h d hd
      rw [e1, e2] at this
      exact this
  · intro h d hd
    rw [← atV_mem ha d hd]
    exact h d.1
theorem leV_anti {a b : List Dt} (ha : okV a) (hb : okV b) (h1 : leV a b) (h2 : leV b a) : a = b :=
  okV_ext ha hb fun k => by have := (leV_iff ha hb).1 h1 k; have := (leV_iff hb ha).1 h2 k; omega
theorem leV_refl {a : List Dt} (ha : okV a) : leV a a := (leV_iff ha ha).2 fun k => Int.le_refl _
/-- What Compare answers. -/
def cmpV (a b : List Dt) : Int := if leV a b then (if leV b a then 0 else -1) else if leV b a then 1 else 2
theorem cmpV_zero {a b : List Dt} (ha : okV a) (hb : okV b) : cmpV a b = 0 ↔ a = b := by
  unfold cmpV
  constructor
  · intro h
    split at h
    · next h1 =>
      split at h
      · next h2 => exact leV_anti ha hb h1 h2
      · omega
    · split at h <;> omega
  · rintro rfl
    rw [if_pos (leV_refl ha), if_pos (leV_refl ha)]
theorem cmpV_most {a b : List Dt} : (cmpV a b = -1 ∨ cmpV a b = 0) ↔ leV a b := by
  unfold cmpV
  by_cases h1 : leV a b <;> by_cases h2 : leV b a <;> simp [h1, h2]
theorem cmpV_least {a b : List Dt} : (cmpV a b = 1 ∨ cmpV a b = 0) ↔ leV b a := by
  unfold cmpV
  by_cases h1 : leV a b <;> by_cases h2 : leV b a <;> simp [h1, h2]
theorem cmpV_turn (a b : List Dt) : (cmpV a b = 2 ∧ cmpV b a = 2) ∨ (cmpV a b ≠ 2 ∧ cmpV b a = - cmpV a b) := by
  unfold cmpV
  by_cases h1 : leV a b <;> by_cases h2 : leV b a <;> simp [h1, h2]
theorem cmpV_range (a b : List Dt) : -1 ≤ cmpV a b ∧ cmpV a b ≤ 2 := by
  unfold cmpV
  by_cases h1 : leV a b <;> by_cases h2 : leV b a <;> simp [h1, h2]
theorem leV_join {a b : List Dt} (ha : okV a) (hb : okV b) : leV a b ↔ jnV a b = b := by
  rw [leV_iff ha hb]
  constructor
  · intro h
    exact okV_ext (jnV_ok a b ha hb) hb fun k => by rw [jnV_at a b ha hb]; have := h k; omega
  · intro h k
    have := jnV_at a b ha hb k
    rw [h] at this; omega
theorem leV_meet {a b : List Dt} (ha : okV a) (hb : okV b) : leV a b ↔ mtV a b = a := by
  rw [leV_iff ha hb]
  constructor
  · intro h
    exact okV_ext (mtV_ok a b ha hb) ha fun k => by rw [mtV_at a b ha hb]; have := h k; omega
  · intro h k
    have := mtV_at a b ha hb k
    rw [h] at this; omega
theorem leV_trans {a b c : List Dt} (ha : okV a) (hb : okV b) (hc : okV c) (h1 : leV a b) (h2 : leV b c) : leV a c :=
  (leV_iff ha hc).2 fun k => Int.le_trans ((leV_iff ha hb).1 h1 k) ((leV_iff hb hc).1 h2 k)
theorem join_least {a b c : List Dt} (ha : okV a) (hb : okV b) (hc : okV c) : leV (jnV a b) c ↔ leV a c ∧ leV b c := by
  rw [leV_iff (jnV_ok a b ha hb) hc, leV_iff ha hc, leV_iff hb hc]
  constructor
  · intro h
    refine ⟨fun k => ?_, fun k => ?_⟩ <;> (have := h k; rw [jnV_at a b ha hb] at this; omega)
  · rintro ⟨h1, h2⟩ k
    rw [jnV_at a b ha hb]; have := h1 k; have := h2 k; omega
theorem meet_most {a b c : List Dt} (ha : okV a) (hb : okV b) (hc : okV c) : leV c (mtV a b) ↔ leV c a ∧ leV c b := by
  rw [leV_iff hc (mtV_ok a b ha hb), leV_iff hc ha, leV_iff hc hb]
  constructor
  · intro h
    refine ⟨fun k => ?_, fun k => ?_⟩ <;> (have := h k; rw [mtV_at a b ha hb] at this; omega)
  · rintro ⟨h1, h2⟩ k
    rw [mtV_at a b ha hb]; have := h1 k; have := h2 k; omega
section
variable {a b c : List Dt} (ha : okV a) (hb : okV b) (hc : okV c)
include ha hb
theorem jn_comm : jnV a b = jnV b a := okV_ext (jnV_ok _ _ ha hb) (jnV_ok _ _ hb ha) fun k => by rw [jnV_at _ _ ha hb, jnV_at _ _ hb ha]; omega
theorem mt_comm : mtV a b = mtV b a := okV_ext (mtV_ok _ _ ha hb) (mtV_ok _ _ hb ha) fun k => by rw [mtV_at _ _ ha hb, mtV_at _ _ hb ha]; omega
theorem mt_absorb : mtV a (jnV a b) = a := okV_ext (mtV_ok _ _ ha (jnV_ok _ _ ha hb)) ha fun k => by rw [mtV_at _ _ ha (jnV_ok _ _ ha hb), jnV_at _ _ ha hb]; omega
theorem jn_absorb : jnV a (mtV a b) = a := okV_ext (jnV_ok _ _ ha (mtV_ok _ _ ha hb)) ha fun k => by rw [jnV_at _ _ ha (mtV_ok _ _ ha hb), mtV_at _ _ ha hb]; omega
include hc
theorem jn_assoc : jnV (jnV a b) c = jnV a (jnV b c) := okV_ext (jnV_ok _ _ (jnV_ok _ _ ha hb) hc) (jnV_ok _ _ ha (jnV_ok _ _ hb hc)) fun k => by
  rw [jnV_at _ _ (jnV_ok _ _ ha hb) hc, jnV_at _ _ ha hb, jnV_at _ _ ha (jnV_ok _ _ hb hc), jnV_at _ _ hb hc]; omega
theorem mt_assoc : mtV (mtV a b) c = mtV a (mtV b c) := okV_ext (mtV_ok _ _ (mtV_ok _ _ ha hb) hc) (mtV_ok _ _ ha (mtV_ok _ _ hb hc)) fun k => by
  rw [mtV_at _ _ (mtV_ok _ _ ha hb) hc, mtV_at _ _ ha hb, mtV_at _ _ ha (mtV_ok _ _ hb hc), mtV_at _ _ hb hc]; omega
end
theorem jn_idem {a : List Dt} (ha : okV a) : jnV a a = a := okV_ext (jnV_ok _ _ ha ha) ha fun k => by rw [jnV_at _ _ ha ha]; omega
theorem mt_idem {a : List Dt} (ha : okV a) : mtV a a = a := okV_ext (mtV_ok _ _ ha ha) ha fun k => by rw [mtV_at _ _ ha ha]; omega
/-- One dot as a vector; With. -/
theorem okV_one {d : Dt} (h : dotP d) : okV [d] := ⟨h, (fun _ h => by cases h), trivial⟩
def wiV (v : List Dt) (d : Dt) : List Dt := jnV v [d]
theorem wiV_at {v : List Dt} (hv : okV v) {d : Dt} (hd : dotP d) (k : Int) : atV (wiV v d) k = if d.1 = k then max (atV v k) d.2 else atV v k := by
  unfold wiV
  rw [jnV_at v [d] hv (okV_one hd), show atV [d] k = if d.1 = k then d.2 else 0 from rfl]
  have := (atV_range hv k).1
  split <;> omega
theorem wiV_cov {v : List Dt} (hv : okV v) {d : Dt} (hd : dotP d) (x : Dt) : covV (wiV v d) x ↔ covV v x ∨ (x.1 = d.1 ∧ 1 ≤ x.2 ∧ x.2 ≤ d.2) := by
  unfold covV
  rw [wiV_at hv hd]
  by_cases h : d.1 = x.1
  · rw [if_pos h]; omega
  · rw [if_neg h]; omega
theorem wiV_own {v : List Dt} (hv : okV v) {d : Dt} (hd : dotP d) : covV (wiV v d) d := (wiV_cov hv hd d).2 (.inr ⟨rfl, hd.2.2.1, Int.le_refl _⟩)
/-- Valid by neighbours (what a loop asks). -/
theorem okV_snoc : ∀ {v : List Dt} {d : Dt}, okV v → dotP d → (∀ e ∈ v, e.1 < d.1) → okV (v ++ [d])
  | [], d, _, hd, _ => okV_one hd
  | e :: r, d, hv, hd, h => ⟨hv.1, fun x hx => by
      rcases List.mem_append.1 hx with hx | hx
      · exact hv.2.1 x hx
      · rw [List.mem_singleton.1 hx]; exact h e (List.mem_cons_self ..), okV_snoc hv.2.2 hd fun x hx => h x (List.mem_cons_of_mem _ hx)⟩
theorem okV_app : ∀ {v r : List Dt}, okV (v ++ r) → okV v
  | [], _, _ => trivial
  | d :: v, r, h => ⟨h.1, fun e he => h.2.1 e (List.mem_append_left _ he), okV_app h.2.2⟩
theorem okV_app2 : ∀ {v r : List Dt}, okV (v ++ r) → okV r
  | [], _, h => h
  | d :: v, r, h => okV_app2 (v := v) h.2.2
theorem okV_last : ∀ {v : List Dt} {e d : Dt}, okV (v ++ [e, d]) → e.1 < d.1
  | [], e, d, h => h.2.1 d (List.mem_cons_self ..)
  | x :: v, e, d, h => okV_last (v := v) h.2.2
theorem okV_top : ∀ {v : List Dt} {e : Dt}, okV (v ++ [e]) → ∀ x ∈ v, x.1 < e.1
  | [], e, _, x, h => by cases h
  | y :: v, e, h, x, hx => by
    rcases List.mem_cons.1 hx with rfl | hx
    · exact h.2.1 e (List.mem_append_right _ (List.mem_cons_self ..))
    · exact okV_top (v := v) h.2.2 x hx
theorem okV_next {v : List Dt} {e d : Dt} : okV (v ++ [e] ++ [d]) ↔ okV (v ++ [e]) ∧ dotP d ∧ e.1 < d.1 := by
  constructor
  · intro h
    refine ⟨okV_app h, okV_dot h d (List.mem_append_right _ (List.mem_cons_self ..)), ?_⟩
    exact okV_top h e (List.mem_append_right _ (List.mem_cons_self ..))
  · rintro ⟨h1, h2, h3⟩
    refine okV_snoc h1 h2 fun x hx => ?_
    rcases List.mem_append.1 hx with hx | hx
    · have := okV_top h1 x hx; omega
    · rw [List.mem_singleton.1 hx]; exact h3
theorem okV_bad {v r : List Dt} (h : ¬ okV v) : ¬ okV (v ++ r) := fun h2 => h (okV_app h2)
end Go.Proofs.Ytfdfaajjlangjaa
