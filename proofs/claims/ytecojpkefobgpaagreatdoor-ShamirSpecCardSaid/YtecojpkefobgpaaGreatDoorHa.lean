/-
  Shares as numbers: validity; the products and quotients of the interpolation, and what they are modulo Q.
-/
import Derived.Test.YtecojpkefobgpaaGreatDoorHm
import Derived.Test.YtecojpkefobgpaaGreatDoorPkF
namespace Go.Proofs.YtecojpkefobgpaaGreatDoor
open Go.RowKit
set_option linter.unusedVariables false
set_option linter.unusedSimpArgs false

/-- A share: its place, its value. -/
abbrev Sh := Int × Int
/-- Places that increase from p on, up to 64, with scalars. -/
def chkL : Int → List Sh → Bool
  | _, [] => true
  | p, s :: l => (decide (p < s.1) && decide (s.1 ≤ 64) && scal s.2) && chkL s.1 l
/-- Valid shares. -/
def okS (l : List Sh) : Bool := decide (1 ≤ l.length) && decide (l.length ≤ 64) && chkL 0 l
theorem chkL_nil (p : Int) : chkL p [] = true := rfl
theorem chkL_cons (p : Int) (s : Sh) (l : List Sh) : chkL p (s :: l) = ((decide (p < s.1) && decide (s.1 ≤ 64) && scal s.2) && chkL s.1 l) := rfl
theorem chkL_out {p : Int} {s : Sh} {l : List Sh} (h : chkL p (s :: l) = true) : p < s.1 ∧ s.1 ≤ 64 ∧ scal s.2 = true ∧ chkL s.1 l = true := by
  rw [chkL_cons] at h
  simp only [Bool.and_eq_true, decide_eq_true_eq] at h
  exact ⟨h.1.1.1, h.1.1.2, h.1.2, h.2⟩
theorem chkL_mk {p : Int} {s : Sh} {l : List Sh} (h1 : p < s.1) (h2 : s.1 ≤ 64) (h3 : scal s.2 = true) (h4 : chkL s.1 l = true) : chkL p (s :: l) = true := by
  rw [chkL_cons]
  simp only [Bool.and_eq_true, decide_eq_true_eq]
  exact ⟨⟨⟨h1, h2⟩, h3⟩, h4⟩
theorem chkL_at : ∀ {l : List Sh} {p : Int}, chkL p l = true → ∀ s ∈ l, p < s.1 ∧ s.1 ≤ 64 ∧ scal s.2 = true
  | [], _, _, s, hs => by cases hs
  | t :: l, p, h, s, hs => by
    obtain ⟨h1, h2, h3, h4⟩ := chkL_out h
    rcases List.mem_cons.1 hs with rfl | hs
    · exact ⟨h1, h2, h3⟩
    · obtain ⟨k1, k2, k3⟩ := chkL_at h4 s hs
      exact ⟨by omega, k2, k3⟩
theorem chkL_weak {l : List Sh} {p q : Int} (h : chkL p l = true) (hq : q ≤ p) : chkL q l = true := by
  cases l with
  | nil => rfl
  | cons s l =>
    obtain ⟨h1, h2, h3, h4⟩ := chkL_out h
    exact chkL_mk (by omega) h2 h3 h4
theorem chkL_filter (f : Sh → Bool) : ∀ {l : List Sh} {p : Int}, chkL p l = true → chkL p (l.filter f) = true
  | [], _, _ => rfl
  | t :: l, p, h => by
    obtain ⟨h1, h2, h3, h4⟩ := chkL_out h
    rw [List.filter_cons]
    split
    · exact chkL_mk h1 h2 h3 (chkL_filter f h4)
    · exact chkL_weak (chkL_filter f h4) (by omega)
theorem chkL_sub : ∀ {k l : List Sh} {p : Int}, k.Sublist l → chkL p l = true → chkL p k = true
  | _, [], p, hk, h => by rw [List.sublist_nil.1 hk]; rfl
  | k, s :: l, p, hk, h => by
    obtain ⟨h1, h2, h3, h4⟩ := chkL_out h
    cases hk with
    | cons _ hk => exact chkL_weak (chkL_sub hk h4) (by omega)
    | cons_cons _ hk => exact chkL_mk h1 h2 h3 (chkL_sub hk h4)
/-- The places are different. -/
theorem chkL_nodup : ∀ {l : List Sh} {p : Int}, chkL p l = true → (l.map (·.1)).Nodup
  | [], _, _ => List.nodup_nil
  | t :: l, p, h => by
    obtain ⟨h1, h2, h3, h4⟩ := chkL_out h
    rw [List.map_cons, List.nodup_cons]
    refine ⟨fun hm => ?_, chkL_nodup h4⟩
    obtain ⟨s, hs, he⟩ := List.mem_map.1 hm
    have := (chkL_at h4 s hs).1
    omega

/-- A share modulo Q. -/
def fs (s : Sh) : FQ × FQ := (toF s.1.toNat, toF s.2.toNat)
def fl (l : List Sh) : List (FQ × FQ) := l.map fs
theorem fl_len (l : List Sh) : (fl l).length = l.length := by simp [fl]
theorem place_inj {a b : Int} (ha : 0 < a ∧ a ≤ 64) (hb : 0 < b ∧ b ≤ 64) (h : toF a.toNat = toF b.toNat) : a = b := by
  have := toF_inj (by omega) (by omega) h
  omega
theorem fl_nodup {l : List Sh} (h : chkL 0 l = true) : ((fl l).map (·.1)).Nodup := by
  have h1 := chkL_at h
  have h2 := chkL_nodup h
  clear h
  induction l with
  | nil => exact List.nodup_nil
  | cons s l ih =>
    rw [List.map_cons, List.nodup_cons] at h2
    show ((fs s).1 :: (fl l).map (·.1)).Nodup
    rw [List.nodup_cons]
    refine ⟨fun hm => ?_, ih (fun t ht => h1 t (List.mem_cons_of_mem _ ht)) h2.2⟩
    obtain ⟨q, hq, he⟩ := List.mem_map.1 hm
    obtain ⟨t, ht, rfl⟩ := List.mem_map.1 hq
    have k1 := h1 s (List.mem_cons_self ..)
    have k2 := h1 t (List.mem_cons_of_mem _ ht)
    have := place_inj ⟨k2.1, k2.2.1⟩ ⟨k1.1, k1.2.1⟩ he
    exact h2.1 (this ▸ List.mem_map_of_mem ht)

theorem toF_add (a b : Nat) : toF ((a + b) % 2305843009213688669) = toF a + toF b := by
  apply Fin.ext
  rw [val_add]
  show (a + b) % 2305843009213688669 % 2305843009213688669 = (a % 2305843009213688669 + b % 2305843009213688669) % 2305843009213688669
  rw [Nat.mod_mod, ← Nat.add_mod]
theorem toF_mul (a b : Nat) : toF (a * b % 2305843009213688669) = toF a * toF b := by
  apply Fin.ext
  rw [val_mul]
  show a * b % 2305843009213688669 % 2305843009213688669 = (a % 2305843009213688669) * (b % 2305843009213688669) % 2305843009213688669
  rw [Nat.mod_mod, ← Nat.mul_mod]
theorem toF_dif {a b : Nat} (ha : a < 2305843009213688669) (hb : b < 2305843009213688669) : toF (dif a b) = toF a - toF b := by
  apply Fin.ext
  rw [val_sub, toF_val ha, toF_val hb]
  show dif a b % 2305843009213688669 = _
  unfold dif
  rw [Nat.mod_mod]
theorem toF_inv (a : Nat) : toF (a ^ (kQ - 1) % 2305843009213688669) = finv (toF a) := by
  apply Fin.ext
  rw [val_inv]
  show a ^ (kQ - 1) % 2305843009213688669 % 2305843009213688669 = (a % 2305843009213688669) ^ (kQ - 1) % 2305843009213688669
  rw [Nat.mod_mod, Nat.pow_mod]
theorem toF_ne {a : Nat} (ha : a < 2305843009213688669) (h : toF a ≠ 0) : a ≠ 0 := by
  rintro rfl; exact h rfl
theorem dif_lt (a b : Nat) : dif a b < 2305843009213688669 := Nat.mod_lt _ (by decide)
theorem finv_mul2 (u v : FQ) : finv (u * v) = finv u * finv v := by
  apply Fin.ext
  rw [val_inv, val_mul, val_mul, val_inv, val_inv, ← Nat.pow_mod, Nat.mul_pow, ← Nat.mul_mod]

/-- The product of the differences to places. -/
def pf (bs : List FQ) (x : FQ) : FQ := bs.foldr (fun b c => (x - b) * c) 1
theorem pf_cons (b : FQ) (bs : List FQ) (x : FQ) : pf (b :: bs) x = (x - b) * pf bs x := rfl
theorem pf_nil (x : FQ) : pf [] x = 1 := rfl
theorem pf_ne {x : FQ} : ∀ {bs : List FQ}, (∀ b ∈ bs, x ≠ b) → pf bs x ≠ 0
  | [], _ => by rw [pf_nil]; decide
  | b :: bs, h => by
    rw [pf_cons]
    intro e
    exact pf_ne (fun c hc => h c (List.mem_cons_of_mem _ hc)) (fq_zero e (fq_sub_ne (h b (List.mem_cons_self ..))))
theorem finv_one : finv 1 = 1 := by
  have h := finv_mul (u := (1 : FQ)) (by decide)
  grind
theorem lbas_pf (a x : FQ) : ∀ (bs : List FQ) (y : FQ), lbas bs a x y = y * (pf (bs.filter fun b => decide (b ≠ a)) x * finv (pf (bs.filter fun b => decide (b ≠ a)) a))
  | [], y => by
    show y = y * (pf [] x * finv (pf [] a))
    rw [pf_nil, pf_nil, finv_one]; grind
  | b :: bs, y => by
    rw [lbas_cons, List.filter_cons]
    by_cases h : b = a
    · rw [if_pos h, if_neg (by simp [h])]; exact lbas_pf a x bs y
    · rw [if_neg h, if_pos (by simp [h]), lbas_pf a x bs, pf_cons, pf_cons, finv_mul2]; grind

/-- The same products, of numbers. -/
def prodS (zs : List Sh) (x : Nat) : Nat := zs.foldl (fun c s => c * dif x s.1.toNat % 2305843009213688669) 1
def batS (zs : List Sh) (one x : Nat) : Nat := prodS zs x * (prodS zs one ^ (kQ - 1) % 2305843009213688669) % 2305843009213688669
/-- The shares at other places. -/
def oth (l : List Sh) (a : Int) : List Sh := l.filter fun t => t.1 != a
def thrF (l : List Sh) (x : Nat) (y : Nat) (s : Sh) : Nat := (y + s.2.toNat * batS (oth l s.1) s.1.toNat x % 2305843009213688669) % 2305843009213688669
/-- The value at x of the polynomial through shares. -/
def thrS (l : List Sh) (x : Nat) : Nat := l.foldl (thrF l x) 0
theorem prodS_step (zs : List Sh) (s : Sh) (x : Nat) : prodS (zs ++ [s]) x = prodS zs x * dif x s.1.toNat % 2305843009213688669 := by simp [prodS]
theorem prodS_lt (zs : List Sh) (x : Nat) : prodS zs x < 2305843009213688669 := by
  rcases List.eq_nil_or_concat zs with rfl | ⟨l, s, rfl⟩
  · show 1 < 2305843009213688669; decide
  · rw [List.concat_eq_append, prodS_step]; exact Nat.mod_lt _ (by decide)
theorem batS_lt (zs : List Sh) (one x : Nat) : batS zs one x < 2305843009213688669 := Nat.mod_lt _ (by decide)
theorem thrF_lt (l : List Sh) (x y : Nat) (s : Sh) : thrF l x y s < 2305843009213688669 := Nat.mod_lt _ (by decide)
theorem foldl_lt (l : List Sh) (x : Nat) : ∀ (m : List Sh) (y : Nat), y < 2305843009213688669 → m.foldl (thrF l x) y < 2305843009213688669
  | [], _, h => h
  | s :: m, y, _ => foldl_lt l x m _ (thrF_lt _ _ _ _)
theorem thrS_lt (l : List Sh) (x : Nat) : thrS l x < 2305843009213688669 := foldl_lt l x l 0 (by decide)

theorem prodF_go {x : Nat} (hx : x < 2305843009213688669) : ∀ (zs : List Sh) (c : Nat), (∀ s ∈ zs, 0 < s.1 ∧ s.1 ≤ 64) →
    toF (zs.foldl (fun c s => c * dif x s.1.toNat % 2305843009213688669) c) = toF c * pf (zs.map fun s => toF s.1.toNat) (toF x)
  | [], c, _ => by rw [List.map_nil, pf_nil]; show toF c = _; grind
  | s :: zs, c, h => by
    have hs := h s (List.mem_cons_self ..)
    rw [List.foldl_cons, prodF_go hx zs _ (fun t ht => h t (List.mem_cons_of_mem _ ht)), toF_mul, toF_dif hx (by omega), List.map_cons, pf_cons]
    grind
theorem prodS_F {x : Nat} (hx : x < 2305843009213688669) {zs : List Sh} (h : ∀ s ∈ zs, 0 < s.1 ∧ s.1 ≤ 64) : toF (prodS zs x) = pf (zs.map fun s => toF s.1.toNat) (toF x) := by
  unfold prodS
  rw [prodF_go hx zs 1 h]
  have e : toF 1 = (1 : FQ) := rfl
  rw [e]; grind
theorem oth_map {l : List Sh} {a : Int} (h : ∀ s ∈ l, 0 < s.1 ∧ s.1 ≤ 64) (ha : 0 < a ∧ a ≤ 64) :
    (oth l a).map (fun s => toF s.1.toNat) = ((fl l).map (·.1)).filter fun b => decide (b ≠ toF a.toNat) := by
  induction l with
  | nil => rfl
  | cons s l ih =>
    have ih := ih (fun t ht => h t (List.mem_cons_of_mem _ ht))
    have hs := h s (List.mem_cons_self ..)
    unfold oth at ih ⊢
    show _ = (((fs s).1 :: (fl l).map (·.1))).filter _
    rw [List.filter_cons, List.filter_cons]
    by_cases e : s.1 = a
    · rw [if_neg (by simp [e]), if_neg (by simp [fs, e])]; exact ih
    · have e2 : ¬ (fs s).1 = toF a.toNat := fun k => e (place_inj hs ha k)
      rw [if_pos (by simpa using e), if_pos (by simpa using e2), List.map_cons, ih]; rfl
theorem oth_at {l : List Sh} {a : Int} {p : Sh → Prop} (h : ∀ s ∈ l, p s) : ∀ s ∈ oth l a, p s := fun s hs => h s (List.mem_filter.1 hs).1
/-- The product at a share's own place is not 0. -/
theorem prodS_ne {l : List Sh} {a : Int} (h : ∀ s ∈ l, 0 < s.1 ∧ s.1 ≤ 64) (ha : 0 < a ∧ a ≤ 64) : prodS (oth l a) a.toNat ≠ 0 := by
  refine toF_ne (prodS_lt _ _) ?_
  rw [prodS_F (by omega) (oth_at h), oth_map h ha]
  refine pf_ne fun b hb => ?_
  have := (List.mem_filter.1 hb).2
  intro e
  simp [e] at this
theorem batS_F {l : List Sh} {a : Int} {x : Nat} (hx : x < 2305843009213688669) (h : ∀ s ∈ l, 0 < s.1 ∧ s.1 ≤ 64) (ha : 0 < a ∧ a ≤ 64) (y : FQ) :
    y * toF (batS (oth l a) a.toNat x) = lbas ((fl l).map (·.1)) (toF a.toNat) (toF x) y := by
  unfold batS
  rw [toF_mul, toF_inv, prodS_F hx (oth_at h), prodS_F (by omega) (oth_at h), oth_map h ha, lbas_pf]
theorem thrF_go {l : List Sh} {x : Nat} (hx : x < 2305843009213688669) (h : ∀ s ∈ l, 0 < s.1 ∧ s.1 ≤ 64) : ∀ (m : List Sh) (y : Nat), (∀ s ∈ m, 0 < s.1 ∧ s.1 ≤ 64) →
    toF (m.foldl (thrF l x) y) = toF y + lval ((fl l).map (·.1)) (toF x) (fl m)
  | [], y, _ => by show toF y = toF y + 0; grind
  | s :: m, y, hm => by
    have hs := hm s (List.mem_cons_self ..)
    rw [List.foldl_cons, thrF_go hx h m _ (fun t ht => hm t (List.mem_cons_of_mem _ ht))]
    show _ = _ + lval _ _ (fs s :: fl m)
    rw [lval_cons]
    unfold thrF
    rw [toF_add, toF_mul, batS_F hx h hs]
    show _ = toF y + (lbas _ (toF s.1.toNat) _ (toF s.2.toNat) + _)
    grind
theorem thrS_F {l : List Sh} {x : Nat} (hx : x < 2305843009213688669) (h : chkL 0 l = true) : toF (thrS l x) = through (fl l) (toF x) := by
  have h1 : ∀ s ∈ l, 0 < s.1 ∧ s.1 ≤ 64 := fun s hs => by have := chkL_at h s hs; exact ⟨this.1, this.2.1⟩
  unfold thrS
  rw [thrF_go hx h1 l 0 h1]
  have e : toF 0 = (0 : FQ) := rfl
  rw [e]
  show 0 + lval _ _ _ = lval _ _ _
  grind
theorem thrS_val {l : List Sh} {x : Nat} (hx : x < 2305843009213688669) (h : chkL 0 l = true) : thrS l x = (through (fl l) (toF x)).val := by
  rw [← thrS_F hx h, toF_val (thrS_lt _ _)]

/-- Whether shares fit a number of coefficients. -/
def fitS (l : List Sh) (n : Nat) : Bool := (l.drop n).all fun s => (thrS (l.take n) s.1.toNat : Int) == s.2
theorem fitS_F {l : List Sh} (h : chkL 0 l = true) (n : Nat) : fitS l n = fitsF n (fl l) := by
  have h2 : chkL 0 (l.take n) = true := chkL_sub (List.take_sublist _ _) h
  unfold fitS fitsF fl
  rw [← List.map_drop, ← List.map_take, List.all_map]
  have hs : ∀ s ∈ l.drop n, ((thrS (l.take n) s.1.toNat : Int) == s.2) = (((fun p : FQ × FQ => through ((l.take n).map fs) p.1 == p.2) ∘ fs) s) := fun s hs => by
    obtain ⟨k1, k2, k3⟩ := chkL_at h s (List.mem_of_mem_drop hs)
    obtain ⟨k4, k5⟩ := scal_of k3
    rw [thrS_val (by omega) h2]
    show _ = (through (fl (l.take n)) (toF s.1.toNat) == toF s.2.toNat)
    rw [Bool.eq_iff_iff, beq_iff_eq, beq_iff_eq]
    constructor
    · intro e
      rw [← e, Int.toNat_natCast, toF_of]
    · intro e
      rw [e, toF_val (by omega)]; omega
  rw [Bool.eq_iff_iff, List.all_eq_true, List.all_eq_true]
  exact ⟨fun k s m => by rw [← hs s m]; exact k s m, fun k s m => by rw [hs s m]; exact k s m⟩
end Go.Proofs.YtecojpkefobgpaaGreatDoor
