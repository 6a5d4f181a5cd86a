/-
  Polynomials over the scalars: few roots, interpolation.
-/
import Derived.Test.YtecojpkefobgpaaGreatDoorPkN
namespace Go.Proofs.YtecojpkefobgpaaGreatDoor
set_option linter.unusedVariables false

abbrev FQ := Fin 2305843009213688669
/-- The value of a polynomial. -/
def pev (c : List FQ) (x : FQ) : FQ := c.foldr (fun a y => y * x + a) 0
theorem pev_cons (a : FQ) (c : List FQ) (x : FQ) : pev (a :: c) x = pev c x * x + a := rfl
theorem pev_nil (x : FQ) : pev [] x = 0 := rfl
def addL : List FQ → List FQ → List FQ
  | [], d => d
  | c, [] => c
  | a :: c, b :: d => (a + b) :: addL c d
theorem addL_len : ∀ c d : List FQ, (addL c d).length = max c.length d.length
  | [], d => by simp [addL]
  | a :: c, [] => by simp [addL]
  | a :: c, b :: d => by simp only [addL, List.length_cons, addL_len c d]; omega
theorem pev_add (x : FQ) : ∀ c d : List FQ, pev (addL c d) x = pev c x + pev d x
  | [], d => by simp only [addL, pev_nil]; grind
  | a :: c, [] => by simp only [addL, pev_nil]; grind
  | a :: c, b :: d => by
    have h := pev_add x c d
    simp only [addL, pev_cons]
    rw [h]; grind
theorem pev_scale (k x : FQ) : ∀ c : List FQ, pev (c.map (k * ·)) x = k * pev c x
  | [] => by simp only [List.map_nil, pev_nil]; grind
  | a :: c => by
    have h := pev_scale k x c
    simp only [List.map_cons, pev_cons]
    rw [h]; grind
/-- Functions with n coefficients. -/
def Poly (n : Nat) (f : FQ → FQ) : Prop := ∃ c : List FQ, c.length ≤ n ∧ ∀ x, f x = pev c x
theorem Poly.mono {n m : Nat} {f : FQ → FQ} (h : Poly n f) (hm : n ≤ m) : Poly m f := by
  obtain ⟨c, hc, hf⟩ := h; exact ⟨c, by omega, hf⟩
theorem Poly.zero (n : Nat) : Poly n (fun _ => 0) := ⟨[], by simp, fun _ => rfl⟩
theorem Poly.const (k : FQ) : Poly 1 (fun _ => k) := ⟨[k], by simp, fun x => by rw [pev_cons, pev_nil]; grind⟩
theorem Poly.add {n : Nat} {f g : FQ → FQ} (h : Poly n f) (k : Poly n g) : Poly n (fun x => f x + g x) := by
  obtain ⟨c, hc, hf⟩ := h; obtain ⟨d, hd, hg⟩ := k
  exact ⟨addL c d, by rw [addL_len]; omega, fun x => by show f x + g x = _; rw [pev_add, hf, hg]⟩
theorem Poly.scale {n : Nat} {f : FQ → FQ} (h : Poly n f) (k : FQ) : Poly n (fun x => k * f x) := by
  obtain ⟨c, hc, hf⟩ := h
  exact ⟨c.map (k * ·), by simpa using hc, fun x => by show k * f x = _; rw [pev_scale, hf]⟩
theorem Poly.sub {n : Nat} {f g : FQ → FQ} (h : Poly n f) (k : Poly n g) : Poly n (fun x => f x - g x) := by
  have h2 := h.add (k.scale (-1))
  obtain ⟨c, hc, hf⟩ := h2
  exact ⟨c, hc, fun x => by rw [← hf]; grind⟩
theorem Poly.shift {n : Nat} {f : FQ → FQ} (h : Poly n f) (a : FQ) : Poly (n + 1) (fun x => f x * (x - a)) := by
  obtain ⟨c, hc, hf⟩ := h
  have h1 : Poly (n + 1) (fun x => f x * x) := ⟨0 :: c, by simpa using hc, fun x => by show f x * x = _; rw [pev_cons, hf]; grind⟩
  have h2 : Poly (n + 1) (fun x => a * f x) := Poly.mono (Poly.scale ⟨c, hc, hf⟩ a) (by omega)
  obtain ⟨d, hd, hg⟩ := h1.sub h2
  exact ⟨d, hd, fun x => by rw [← hg]; grind⟩
/-- Synthetic division. -/
def sdiv (a : FQ) : List FQ → List FQ
  | [] => []
  | [_] => []
  | _ :: b :: c => pev (b :: c) a :: sdiv a (b :: c)
theorem sdiv_len (a : FQ) : ∀ c : List FQ, (sdiv a c).length = c.length - 1
  | [] => rfl
  | [_] => rfl
  | _ :: b :: c => by simp only [sdiv, List.length_cons, sdiv_len a (b :: c)]; omega
theorem sdiv_eq (a x : FQ) : ∀ c : List FQ, pev c x = (x - a) * pev (sdiv a c) x + pev c a
  | [] => by simp only [sdiv, pev_nil]; grind
  | [b] => by simp only [sdiv, pev_cons, pev_nil]; grind
  | e :: b :: c => by
    have h := sdiv_eq a x (b :: c)
    rw [show sdiv a (e :: b :: c) = pev (b :: c) a :: sdiv a (b :: c) from rfl, pev_cons e (b :: c) x, pev_cons e (b :: c) a, pev_cons (pev (b :: c) a)]
    generalize pev (b :: c) x = u at *
    generalize pev (b :: c) a = v at *
    generalize pev (sdiv a (b :: c)) x = t at *
    rw [h]; grind
theorem fq_zero {u v : FQ} (h : u * v = 0) (hu : u ≠ 0) : v = 0 := by
  have hv : u.val * v.val % 2305843009213688669 = 0 := by
    have := congrArg Fin.val h
    rwa [Fin.val_mul] at this
  rcases eucQ u.val v.val (Nat.dvd_of_mod_eq_zero hv) with h1 | h1
  · exact absurd (Fin.ext (by have := u.isLt; show u.val = 0; omega)) hu
  · exact Fin.ext (by have := v.isLt; show v.val = 0; omega)
theorem fq_sub_ne {a b : FQ} (h : a ≠ b) : a - b ≠ 0 := fun e => h (by grind)
/-- No polynomial with n coefficients but 0 has n roots. -/
theorem roots : ∀ (as : List FQ) (c : List FQ), as.Nodup → c.length ≤ as.length → (∀ a ∈ as, pev c a = 0) → ∀ x, pev c x = 0
  | [], c, _, hl, _, x => by
    have : c = [] := List.eq_nil_of_length_eq_zero (by simpa using hl)
    rw [this]; rfl
  | a :: as, c, hn, hl, hr, x => by
    have ha := hr a (List.mem_cons_self ..)
    rw [sdiv_eq a x c, ha]
    have hd := roots as (sdiv a c) (List.nodup_cons.1 hn).2 (by rw [sdiv_len]; simp only [List.length_cons] at hl; omega) (fun b hb => by
      have h1 := hr b (List.mem_cons_of_mem _ hb)
      rw [sdiv_eq a b c, ha] at h1
      refine fq_zero (u := b - a) (by grind) (fq_sub_ne ?_)
      rintro rfl
      exact (List.nodup_cons.1 hn).1 hb) x
    rw [hd]; grind
theorem Poly.roots {n : Nat} {f : FQ → FQ} (h : Poly n f) (as : List FQ) (hn : as.Nodup) (hl : n ≤ as.length) (hr : ∀ a ∈ as, f a = 0) (x : FQ) : f x = 0 := by
  obtain ⟨c, hc, hf⟩ := h
  rw [hf]
  exact Go.Proofs.YtecojpkefobgpaaGreatDoor.roots as c hn (by omega) (fun a ha => by rw [← hf]; exact hr a ha) x
theorem Poly.same {n : Nat} {f g : FQ → FQ} (h : Poly n f) (k : Poly n g) (as : List FQ) (hn : as.Nodup) (hl : n ≤ as.length) (hr : ∀ a ∈ as, f a = g a) (x : FQ) : f x = g x := by
  have := (h.sub k).roots as hn hl (fun a ha => by rw [hr a ha]; grind) x
  grind

/-- The inverse of a scalar. -/
def finv (u : FQ) : FQ := ⟨u.val ^ (kQ - 1) % 2305843009213688669, Nat.mod_lt _ (by decide)⟩
theorem finv_mul {u : FQ} (h : u ≠ 0) : u * finv u = 1 := by
  apply Fin.ext
  rw [Fin.val_mul]
  show u.val * (u.val ^ (kQ - 1) % 2305843009213688669) % 2305843009213688669 = 1
  have hu : u.val % 2305843009213688669 ≠ 0 := fun e => h (Fin.ext (by have := u.isLt; show u.val = 0; omega))
  have hf := fermatQ u.val hu
  have hk : kQ = (kQ - 1) + 1 := by decide
  rw [hk, Nat.pow_succ, Nat.mul_comm] at hf
  rw [Nat.mul_mod, Nat.mod_mod, ← Nat.mul_mod]; exact hf
theorem finv_ne {u : FQ} (h : u ≠ 0) : finv u ≠ 0 := fun e => by
  have := finv_mul h
  rw [e] at this
  have h2 : (0 : FQ) = 1 := by rw [← this]; grind
  exact absurd h2 (by decide)

/-- The basis polynomial of place a, among the places as, times y. -/
def lbas (as : List FQ) (a x : FQ) (y : FQ) : FQ := as.foldl (fun y b => if b = a then y else y * (x - b) * finv (a - b)) y
theorem lbas_cons (b : FQ) (as : List FQ) (a x y : FQ) : lbas (b :: as) a x y = lbas as a x (if b = a then y else y * (x - b) * finv (a - b)) := rfl
theorem lbas_mul (a x k : FQ) : ∀ (as : List FQ) (y : FQ), lbas as a x (k * y) = k * lbas as a x y
  | [], y => rfl
  | b :: as, y => by
    rw [lbas_cons, lbas_cons]
    by_cases h : b = a
    · rw [if_pos h, if_pos h]; exact lbas_mul a x k as y
    · rw [if_neg h, if_neg h, ← lbas_mul a x k as]; congr 1; grind
theorem lbas_one (as : List FQ) (a x y : FQ) : lbas as a x y = y * lbas as a x 1 := by
  rw [← lbas_mul]; congr 1; grind
/-- At its own place it is y. -/
theorem lbas_self (a y : FQ) : ∀ as : List FQ, lbas as a a y = y
  | [] => rfl
  | b :: as => by
    rw [lbas_cons]
    by_cases h : b = a
    · rw [if_pos h]; exact lbas_self a y as
    · rw [if_neg h]
      have h1 := finv_mul (fq_sub_ne (fun e => h e.symm) : a - b ≠ 0)
      have : y * (a - b) * finv (a - b) = y := by grind
      rw [this]; exact lbas_self a y as
theorem lbas_zero (a x : FQ) : ∀ as : List FQ, lbas as a x 0 = 0
  | [] => rfl
  | b :: as => by
    rw [lbas_cons]
    by_cases h : b = a
    · rw [if_pos h]; exact lbas_zero a x as
    · rw [if_neg h]
      have : (0 : FQ) * (x - b) * finv (a - b) = 0 := by grind
      rw [this]; exact lbas_zero a x as
/-- At the others it is 0. -/
theorem lbas_other (a x y : FQ) (hx : x ≠ a) : ∀ as : List FQ, x ∈ as → lbas as a x y = 0
  | b :: as, h => by
    rw [lbas_cons]
    by_cases hb : b = x
    · subst hb
      rw [if_neg hx]
      have : y * (b - b) * finv (a - b) = 0 := by grind
      rw [this]; exact lbas_zero a b as
    · have hm : x ∈ as := by
        rcases List.mem_cons.1 h with h1 | h1
        · exact absurd h1.symm hb
        · exact h1
      rw [lbas_one, lbas_other a x 1 hx as hm]; grind
theorem lbas_poly (a : FQ) : ∀ (as : List FQ) (n : Nat) (f : FQ → FQ), Poly n f → as.Nodup → Poly (n + as.length - (if a ∈ as then 1 else 0)) (fun x => lbas as a x (f x))
  | [], n, f, h, _ => by
    have e : (fun x => lbas [] a x (f x)) = f := rfl
    rw [e]; exact h.mono (by simp)
  | b :: as, n, f, h, hn => by
    have hn2 := List.nodup_cons.1 hn
    by_cases hb : b = a
    · have h1 := lbas_poly a as n f h hn2.2
      subst hb
      rw [if_neg hn2.1] at h1
      rw [if_pos (List.mem_cons_self ..)]
      refine Poly.mono (f := fun x => lbas (b :: as) b x (f x)) ?_ (m := _) (Nat.le_refl _)
      have e : (fun x => lbas (b :: as) b x (f x)) = fun x => lbas as b x (f x) := by funext x; rw [lbas_cons, if_pos rfl]
      rw [e]
      exact h1.mono (by simp only [List.length_cons]; omega)
    · have h2 : Poly (n + 1) (fun x => f x * (x - b) * finv (a - b)) := by
        obtain ⟨c, hc, hf⟩ := (h.shift b).scale (finv (a - b))
        exact ⟨c, hc, fun x => by rw [← hf]; grind⟩
      have h1 := lbas_poly a as (n + 1) _ h2 hn2.2
      have e : (fun x => lbas (b :: as) a x (f x)) = fun x => lbas as a x (f x * (x - b) * finv (a - b)) := by funext x; rw [lbas_cons, if_neg hb]
      rw [e]
      refine h1.mono ?_
      have hm : (a ∈ b :: as) = (a ∈ as) := propext ⟨fun h => by
        rcases List.mem_cons.1 h with h3 | h3
        · exact absurd h3.symm hb
        · exact h3, fun h => List.mem_cons_of_mem _ h⟩
      simp only [hm, List.length_cons]
      omega

/-- The value at x of the polynomial through shares (place, value). -/
def lval (as : List FQ) (x : FQ) (l : List (FQ × FQ)) : FQ := l.foldl (fun s p => s + lbas as p.1 x p.2) 0
def through (l : List (FQ × FQ)) (x : FQ) : FQ := lval (l.map (·.1)) x l
theorem lval_from (as : List FQ) (x : FQ) : ∀ (l : List (FQ × FQ)) (s : FQ), l.foldl (fun s p => s + lbas as p.1 x p.2) s = s + lval as x l
  | [], s => by show s = s + 0; grind
  | p :: l, s => by
    unfold lval
    rw [List.foldl_cons, List.foldl_cons, lval_from as x l, lval_from as x l (0 + lbas as p.1 x p.2)]; grind
theorem lval_cons (as : List FQ) (x : FQ) (p : FQ × FQ) (l : List (FQ × FQ)) : lval as x (p :: l) = lbas as p.1 x p.2 + lval as x l := by
  show List.foldl _ _ (p :: l) = _
  rw [List.foldl_cons, lval_from]; grind
theorem lval_poly (as : List FQ) (hn : as.Nodup) : ∀ l : List (FQ × FQ), (∀ p ∈ l, p.1 ∈ as) → Poly as.length (fun x => lval as x l)
  | [], _ => Poly.zero _
  | p :: l, h => by
    have h1 := lbas_poly p.1 as 1 _ (Poly.const p.2) hn
    rw [if_pos (h p (List.mem_cons_self ..))] at h1
    have h2 := (h1.mono (m := as.length) (by omega)).add (lval_poly as hn l (fun q hq => h q (List.mem_cons_of_mem _ hq)))
    obtain ⟨c, hc, hf⟩ := h2
    exact ⟨c, hc, fun x => by show lval as x (p :: l) = _; rw [lval_cons, ← hf]⟩
theorem lval_at (as : List FQ) (a : FQ) (ha : a ∈ as) : ∀ l : List (FQ × FQ), (l.map (·.1)).Nodup → (∀ p ∈ l, p.1 ∈ as) → lval as a l = ((l.find? fun p => p.1 = a).map (·.2)).getD 0
  | [], _, _ => rfl
  | p :: l, hn, h => by
    rw [lval_cons, List.find?_cons]
    rw [List.map_cons, List.nodup_cons] at hn
    have ih := lval_at as a ha l hn.2 (fun q hq => h q (List.mem_cons_of_mem _ hq))
    by_cases hp : p.1 = a
    · have hnf : l.find? (fun q => decide (q.1 = a)) = none := by
        rw [List.find?_eq_none]
        intro q hq
        simp only [decide_eq_true_eq]
        intro e
        exact hn.1 (by rw [hp, ← e]; exact List.mem_map_of_mem hq)
      rw [ih, hnf]
      simp only [hp, decide_true]
      rw [lbas_self]
      show p.2 + 0 = p.2
      grind
    · simp only [hp, decide_false]
      rw [lbas_other p.1 a p.2 (fun e => hp e.symm) as ha, ih]
      grind
theorem find_self (p : FQ × FQ) : ∀ l : List (FQ × FQ), (l.map (·.1)).Nodup → p ∈ l → l.find? (fun q => decide (q.1 = p.1)) = some p
  | q :: l, hn, hp => by
    rw [List.map_cons, List.nodup_cons] at hn
    rw [List.find?_cons]
    rcases List.mem_cons.1 hp with rfl | h
    · simp
    · have hq : q.1 ≠ p.1 := fun e => hn.1 (by rw [e]; exact List.mem_map_of_mem h)
      simp only [hq, decide_false]
      exact find_self p l hn.2 h
/-- The polynomial goes through its shares. -/
theorem through_at (l : List (FQ × FQ)) (hn : (l.map (·.1)).Nodup) (p : FQ × FQ) (hp : p ∈ l) : through l p.1 = p.2 := by
  unfold through
  rw [lval_at _ p.1 (List.mem_map_of_mem hp) l hn (fun q hq => List.mem_map_of_mem hq), find_self p l hn hp]
  rfl
theorem through_poly (l : List (FQ × FQ)) (hn : (l.map (·.1)).Nodup) : Poly l.length (through l) := by
  have h := lval_poly (l.map (·.1)) hn l (fun p hp => List.mem_map_of_mem hp)
  rw [List.length_map] at h
  exact h
/-- Shares on a polynomial with no more coefficients than there are shares: it is the one through them. -/
theorem through_eq {n : Nat} {f : FQ → FQ} (hf : Poly n f) (l : List (FQ × FQ)) (hn : (l.map (·.1)).Nodup) (hl : n ≤ l.length) (hon : ∀ p ∈ l, f p.1 = p.2) (x : FQ) : through l x = f x := by
  refine (through_poly l hn).same (hf.mono hl) (l.map (·.1)) hn (by rw [List.length_map]; exact Nat.le_refl _) (fun a ha => ?_) x
  obtain ⟨p, hp, rfl⟩ := List.mem_map.1 ha
  rw [through_at l hn p hp, hon p hp]

/-- Elsewhere a basis polynomial is not 0. -/
theorem lbas_ne (a x : FQ) : ∀ (as : List FQ) (y : FQ), y ≠ 0 → (∀ b ∈ as, x ≠ b) → lbas as a x y ≠ 0
  | [], y, h, _ => h
  | b :: as, y, h, hx => by
    rw [lbas_cons]
    by_cases hb : b = a
    · rw [if_pos hb]; exact lbas_ne a x as y h (fun c hc => hx c (List.mem_cons_of_mem _ hc))
    · rw [if_neg hb]
      refine lbas_ne a x as _ (fun e => ?_) (fun c hc => hx c (List.mem_cons_of_mem _ hc))
      have h1 := finv_ne (fq_sub_ne (fun e => hb e.symm) : a - b ≠ 0)
      have h2 := fq_sub_ne (hx b (List.mem_cons_self ..))
      refine h1 (fq_zero (u := y * (x - b)) e (fun e2 => ?_))
      exact h2 (fq_zero e2 h)
theorem lval_append (as : List FQ) (x : FQ) (p : FQ × FQ) : ∀ l : List (FQ × FQ), lval as x (l ++ [p]) = lval as x l + lbas as p.1 x p.2
  | [] => by rw [List.nil_append, lval_cons]; show _ + (0 : FQ) = 0 + _; grind
  | q :: l => by rw [List.cons_append, lval_cons, lval_cons, lval_append as x p l]; grind
/-- With a further share: a constant, and its value times a number that is not 0. -/
theorem through_more (l : List (FQ × FQ)) (a x y : FQ) : through (l ++ [(a, y)]) x = lval (l.map (·.1) ++ [a]) x l + y * lbas (l.map (·.1) ++ [a]) a x 1 := by
  unfold through
  rw [List.map_append, List.map_singleton, lval_append, lbas_one]
theorem more_ne (l : List (FQ × FQ)) (a x : FQ) (h : ∀ p ∈ l, x ≠ p.1) (ha : x ≠ a) : lbas (l.map (·.1) ++ [a]) a x 1 ≠ 0 := by
  refine lbas_ne a x _ 1 (by decide) (fun b hb => ?_)
  rcases List.mem_append.1 hb with h1 | h1
  · obtain ⟨p, hp, rfl⟩ := List.mem_map.1 h1; exact h p hp
  · rw [List.mem_singleton.1 h1]; exact ha
/-- Exactly one value leads to a secret. -/
theorem more_one {A c s y : FQ} (hc : c ≠ 0) : (A + y * c = s) ↔ y = (s - A) * finv c := by
  have h := finv_mul hc
  constructor
  · intro e
    rw [← e]; grind
  · rintro rfl
    grind

/-- Sums of shares with the same places. -/
def addS (l m : List (FQ × FQ)) : List (FQ × FQ) := List.zipWith (fun p q => (p.1, p.2 + q.2)) l m
theorem addS_fst : ∀ l m : List (FQ × FQ), l.map (·.1) = m.map (·.1) → (addS l m).map (·.1) = l.map (·.1)
  | [], [], _ => rfl
  | [], _ :: _, h => by simp at h
  | _ :: _, [], h => by simp at h
  | p :: l, q :: m, h => by
    rw [List.map_cons, List.map_cons, List.cons.injEq] at h
    have ih := addS_fst l m h.2
    unfold addS at *
    rw [List.zipWith_cons_cons, List.map_cons, List.map_cons, ih]
theorem lval_addS (as : List FQ) (x : FQ) : ∀ l m : List (FQ × FQ), l.map (·.1) = m.map (·.1) → lval as x (addS l m) = lval as x l + lval as x m
  | [], [], _ => by show (0 : FQ) = 0 + 0; grind
  | [], _ :: _, h => by simp at h
  | _ :: _, [], h => by simp at h
  | p :: l, q :: m, h => by
    rw [List.map_cons, List.map_cons, List.cons.injEq] at h
    have ih := lval_addS as x l m h.2
    have e : addS (p :: l) (q :: m) = (p.1, p.2 + q.2) :: addS l m := rfl
    rw [e, lval_cons, lval_cons, lval_cons, ih]
    show lbas as p.1 x (p.2 + q.2) + _ = _
    rw [lbas_one as p.1 x (p.2 + q.2), lbas_one as p.1 x p.2, lbas_one as q.1 x q.2, h.1]
    grind
theorem through_addS (l m : List (FQ × FQ)) (h : l.map (·.1) = m.map (·.1)) (x : FQ) : through (addS l m) x = through l x + through m x := by
  unfold through
  rw [addS_fst l m h, lval_addS _ _ l m h, h]

/-- Whether shares fit a number of coefficients. -/
def fitsF (need : Nat) (l : List (FQ × FQ)) : Bool := (l.drop need).all fun p => through (l.take need) p.1 == p.2
theorem nodup_take {l : List (FQ × FQ)} (hn : (l.map (·.1)).Nodup) (k : Nat) : ((l.take k).map (·.1)).Nodup := by
  rw [List.map_take]; exact hn.sublist (List.take_sublist _ _)
theorem fits_iff (need : Nat) (l : List (FQ × FQ)) (hn : (l.map (·.1)).Nodup) : fitsF need l = true ↔ ∃ f, Poly need f ∧ ∀ p ∈ l, f p.1 = p.2 := by
  unfold fitsF
  rw [List.all_eq_true]
  constructor
  · intro h
    refine ⟨through (l.take need), (through_poly _ (nodup_take hn need)).mono (by rw [List.length_take]; omega), fun p hp => ?_⟩
    rw [← List.take_append_drop need l] at hp
    rcases List.mem_append.1 hp with h1 | h1
    · exact through_at _ (nodup_take hn need) p h1
    · simpa using h p h1
  · rintro ⟨f, hf, hon⟩ p hp
    have hl : need ≤ l.length := by
      rcases Nat.lt_or_ge l.length need with h1 | h1
      · rw [List.drop_eq_nil_of_le (by omega)] at hp; cases hp
      · exact h1
    rw [beq_iff_eq, through_eq hf (l.take need) (nodup_take hn need) (by rw [List.length_take]; omega) (fun q hq => hon q (List.mem_of_mem_take hq))]
    exact hon p (List.mem_of_mem_drop hp)
/-- Of more than need shares that fit, none can be changed. -/
theorem fits_changed (need : Nat) (l : List (FQ × FQ)) (hn : (l.map (·.1)).Nodup) (hl : need < l.length) (hf : fitsF need l = true) (i : Nat) (hi : i < l.length) (y : FQ) :
    fitsF need (l.set i (l[i].1, y)) = decide (y = l[i].2) := by
  have hmap : (l.set i (l[i].1, y)).map (·.1) = l.map (·.1) := by
    rw [List.map_set]
    show (l.map (·.1)).set i l[i].1 = _
    have : l[i].1 = (l.map (·.1))[i]'(by rw [List.length_map]; exact hi) := by rw [List.getElem_map]
    rw [this, List.set_getElem_self]
  rw [Bool.eq_iff_iff, decide_eq_true_eq]
  constructor
  · intro h
    obtain ⟨f, hf1, hf2⟩ := (fits_iff need l hn).1 hf
    obtain ⟨g, hg1, hg2⟩ := (fits_iff need _ (by rw [hmap]; exact hn)).1 h
    have hs : ∀ x, f x = g x := hf1.same hg1 ((l.eraseIdx i).map (·.1)) (hn.sublist ((List.eraseIdx_sublist l i).map _)) (by rw [List.length_map, List.length_eraseIdx_of_lt hi]; omega) (fun a ha => by
      obtain ⟨p, hp, rfl⟩ := List.mem_map.1 ha
      obtain ⟨j, hji, hj⟩ := List.mem_eraseIdx_iff_getElem?.1 hp
      have hjl : j < l.length := (List.getElem?_eq_some_iff.1 hj).1
      rw [hf2 p (List.mem_of_getElem? hj), hg2 p]
      refine List.mem_of_getElem? (i := j) ?_
      rw [List.getElem?_set_ne (Ne.symm hji)]; exact hj)
    have h1 := hf2 l[i] (List.getElem_mem hi)
    have h2 := hg2 (l[i].1, y) (List.mem_of_getElem? (i := i) (by rw [List.getElem?_set_self hi]))
    rw [← h1, hs]; exact h2.symm
  · intro h
    rw [h]
    have e : (l[i].1, l[i].2) = l[i] := rfl
    rw [e, List.set_getElem_self]; exact hf
theorem fits_addS (need : Nat) (l m : List (FQ × FQ)) (hn : (l.map (·.1)).Nodup) (h : l.map (·.1) = m.map (·.1)) (h1 : fitsF need l = true) (h2 : fitsF need m = true) : fitsF need (addS l m) = true := by
  obtain ⟨f, hf1, hf2⟩ := (fits_iff need l hn).1 h1
  obtain ⟨g, hg1, hg2⟩ := (fits_iff need m (h ▸ hn)).1 h2
  refine (fits_iff need _ (by rw [addS_fst l m h]; exact hn)).2 ⟨_, hf1.add hg1, fun p hp => ?_⟩
  obtain ⟨i, hi, rfl⟩ := List.getElem_of_mem hp
  have hlen : l.length = m.length := by have := congrArg List.length h; simpa using this
  have hil : i < l.length := by simp [addS] at hi; omega
  have him : i < m.length := by omega
  have hfst : l[i].1 = m[i].1 := by
    have := congrArg (fun l : List FQ => l[i]?) h
    simpa [hil, him] using this
  simp only [addS, List.getElem_zipWith]
  rw [hf2 l[i] (List.getElem_mem hil), hfst, hg2 m[i] (List.getElem_mem him)]

/-- Numbers as scalars. -/
def toF (n : Nat) : FQ := ⟨n % 2305843009213688669, Nat.mod_lt _ (by decide)⟩
theorem toF_val {n : Nat} (h : n < 2305843009213688669) : (toF n).val = n := Nat.mod_eq_of_lt h
theorem toF_of (u : FQ) : toF u.val = u := Fin.ext (Nat.mod_eq_of_lt u.isLt)
theorem toF_inj {a b : Nat} (ha : a < 2305843009213688669) (hb : b < 2305843009213688669) (h : toF a = toF b) : a = b := by
  have := congrArg Fin.val h
  rwa [toF_val ha, toF_val hb] at this
theorem val_add (a b : FQ) : (a + b).val = (a.val + b.val) % 2305843009213688669 := Fin.val_add a b
theorem val_mul (a b : FQ) : (a * b).val = a.val * b.val % 2305843009213688669 := Fin.val_mul a b
theorem val_sub (a b : FQ) : (a - b).val = (a.val + (2305843009213688669 - b.val)) % 2305843009213688669 := by
  rw [Fin.sub_def]
  show (2305843009213688669 - b.val + a.val) % 2305843009213688669 = _
  rw [Nat.add_comm]
theorem val_inv (u : FQ) : (finv u).val = u.val ^ (kQ - 1) % 2305843009213688669 := rfl
end Go.Proofs.YtecojpkefobgpaaGreatDoor
