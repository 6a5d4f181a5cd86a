/-
  Shares on a polynomial, plain: what they are joined to, what they fit; sums, changes, a further share.
-/
import Derived.Test.YtecojpkefobgpaaGreatDoorHj
namespace Go.Proofs.YtecojpkefobgpaaGreatDoor
open Go.RowKit
set_option linter.unusedVariables false
set_option linter.unusedSimpArgs false

/-- Coefficients modulo Q. -/
def cF (c : List Int) : List FQ := c.map fun z => toF z.toNat
theorem cF_len (c : List Int) : (cF c).length = c.length := by simp [cF]
theorem evQ_F (x : Nat) : ∀ c : List Int, toF (evQ x c) = pev (cF c) (toF x)
  | [] => rfl
  | z :: c => by
    rw [evQ_cons, toF_add, toF_mul, evQ_F x c]
    show _ = pev (toF z.toNat :: cF c) (toF x)
    rw [pev_cons]
theorem poly_cF (c : List Int) : Poly c.length (pev (cF c)) := ⟨cF c, by rw [cF_len]; exact Nat.le_refl _, fun _ => rfl⟩
/-- Shares lie on the polynomial with coefficients c. -/
def On (c : List Int) (l : List Sh) : Prop := ∀ s ∈ l, s.2 = ((evQ s.1.toNat c : Nat) : Int)
theorem On.fl {c : List Int} {l : List Sh} (h : On c l) : ∀ p ∈ fl l, pev (cF c) p.1 = p.2 := by
  intro p hp
  obtain ⟨s, hs, rfl⟩ := List.mem_map.1 hp
  show pev (cF c) (toF s.1.toNat) = toF s.2.toNat
  rw [← evQ_F, h s hs, Int.toNat_natCast]
theorem On.sub {c : List Int} {k l : List Sh} (h : On c l) (hk : k.Sublist l) : On c k := fun s hs => h s (hk.subset hs)
theorem thr_on {c : List Int} {l : List Sh} {x : Nat} (hx : x < 2305843009213688669) (hv : chkL 0 l = true) (hc : c.length ≤ l.length) (h : On c l) : thrS l x = evQ x c := by
  rw [thrS_val hx hv, through_eq (poly_cF c) (fl l) (fl_nodup hv) (by rw [fl_len]; exact hc) h.fl, ← evQ_F, toF_val (evQ_lt _ _)]
theorem fit_on {c : List Int} {l : List Sh} {n : Nat} (hv : chkL 0 l = true) (hc : c.length ≤ n) (h : On c l) : fitS l n = true := by
  rw [fitS_F hv]
  exact (fits_iff n (fl l) (fl_nodup hv)).2 ⟨_, (poly_cF c).mono hc, h.fl⟩
theorem evQ_zero (s : Int) (hs : scal s = true) (c : List Int) : ((evQ 0 (s :: c) : Nat) : Int) = s := by
  have := scal_of hs
  rw [evQ_cons, Nat.mul_zero, Nat.zero_mod, Nat.zero_add, Nat.mod_eq_of_lt (by omega)]
  omega
theorem splTo_on (c : List Int) (n : Nat) : On c (splTo c n) := by
  intro s hs
  obtain ⟨i, _, rfl⟩ := List.mem_map.1 hs
  show ((evQ (i + 1) c : Nat) : Int) = ((evQ ((i + 1 : Nat) : Int).toNat c : Nat) : Int)
  rw [Int.toNat_natCast]
theorem chkL_up (f : Nat → Nat) (hf : ∀ i, f i < 2305843009213688669) : ∀ (n k : Nat), k + n ≤ 64 → chkL (k : Int) ((List.range' k n).map fun i => (((i + 1 : Nat) : Int), ((f i : Nat) : Int))) = true
  | 0, k, _ => rfl
  | n + 1, k, h => by
    rw [List.range'_succ, List.map_cons]
    exact chkL_mk (by simp only; omega) (by simp only; omega) (scal_nat (hf k)) (chkL_up f hf n (k + 1) (by omega))
theorem splTo_chk (c : List Int) (n : Nat) (h : n ≤ 64) : chkL 0 (splTo c n) = true := by
  have := chkL_up (fun i => evQ (i + 1) c) (fun i => evQ_lt _ _) n 0 (by omega)
  unfold splTo
  rw [List.range_eq_range']
  exact this

/-- The shares that are chosen. -/
def cho : List Sh → List Bool → List Sh
  | [], _ => []
  | _ :: _, [] => []
  | s :: l, b :: t => if b then s :: cho l t else cho l t
theorem cho_sub : ∀ (l : List Sh) (t : List Bool), (cho l t).Sublist l
  | [], _ => List.nil_sublist _
  | _ :: _, [] => List.nil_sublist _
  | s :: l, b :: t => by
    unfold cho
    cases b
    · exact (cho_sub l t).cons _
    · exact (cho_sub l t).cons_cons _
theorem cho_nil (l : List Sh) : cho l [] = [] := by cases l <;> rfl
theorem cho_snoc : ∀ (l : List Sh) (t : List Bool) (j : Nat) (h : j < l.length), cho (l.take (j + 1)) t = cho (l.take j) t ++ (if t.getD j false then [l[j]] else [])
  | s :: l, [], j, h => by rw [cho_nil, cho_nil]; simp
  | s :: l, b :: t, 0, h => by
    simp only [List.take_succ_cons, List.take_zero, cho, List.getElem_cons_zero, List.getD_cons_zero, List.nil_append]
  | s :: l, b :: t, j + 1, h => by
    have ih := cho_snoc l t j (by simpa using h)
    simp only [List.take_succ_cons, cho, List.getElem_cons_succ, List.getD_cons_succ]
    cases b
    · simpa using ih
    · simp only [if_true, List.cons_append]; rw [ih]

/-! ### Joined, fitting -/
theorem ok_sub {k l : List Sh} (h : okS l = true) (hk : k.Sublist l) (h1 : 1 ≤ k.length) : okS k = true := by
  obtain ⟨a, b, c⟩ := okS_out h
  exact okS_mk h1 (Nat.le_trans hk.length_le b) (chkL_sub hk c)
theorem splTo_ok (c : List Int) (n : Nat) (h1 : 1 ≤ n) (h : n ≤ 64) : okS (splTo c n) = true := okS_mk (by rw [splTo_len]; exact h1) (by rw [splTo_len]; exact h) (splTo_chk c n h)
/-- Enough of the shares of Split are joined to the secret, and fit. -/
theorem restore {K : List UInt8} {secret : Int} {need many : Nat} (hs : scal secret = true) (h1 : 1 ≤ need) (h2 : need ≤ many) (h64 : many ≤ 64) {k : List Sh} (hk : k.Sublist (splTo (coS K secret (need - 1)) many)) (hl : need ≤ k.length) :
    okS k = true ∧ ((joinV k : Nat) : Int) = secret ∧ fitB k (need : Int) = true ∧ fitE k (need : Int) = 0 := by
  have hok := ok_sub (splTo_ok (coS K secret (need - 1)) many (by omega) h64) hk (by omega)
  obtain ⟨_, _, hv⟩ := okS_out hok
  have hon : On (coS K secret (need - 1)) k := (splTo_on _ _).sub hk
  refine ⟨hok, ?_, ?_, (fitB_ok hok h1 (by omega)).2⟩
  · rw [joinV_ok hok, thr_on (by decide) hv (by rw [coS_len]; omega) hon]
    exact evQ_zero secret hs _
  · rw [(fitB_ok hok h1 (by omega)).1]
    exact fit_on hv (by rw [coS_len]; omega) hon

/-- One share has another value. -/
def setY (l : List Sh) (i : Nat) (y : Int) : List Sh := l.set i ((l.getD i (0, 0)).1, y)
theorem chkL_setY : ∀ (l : List Sh) (p : Int) (i : Nat) (y : Int), chkL p l = true → scal y = true → chkL p (setY l i y) = true
  | [], p, i, y, h, hy => rfl
  | s :: l, p, 0, y, h, hy => by
    obtain ⟨h1, h2, h3, h4⟩ := chkL_out h
    exact chkL_mk h1 h2 hy h4
  | s :: l, p, i + 1, y, h, hy => by
    obtain ⟨h1, h2, h3, h4⟩ := chkL_out h
    exact chkL_mk h1 h2 h3 (chkL_setY l s.1 i y h4 hy)
theorem setY_len (l : List Sh) (i : Nat) (y : Int) : (setY l i y).length = l.length := by simp [setY]
/-- Of more than need shares that fit, none can be changed. -/
theorem fit_changed {l : List Sh} {n i : Nat} {y : Int} (hv : chkL 0 l = true) (hn : n < l.length) (hf : fitS l n = true) (hi : i < l.length) (hy : scal y = true) : fitS (setY l i y) n = (y == l[i].2) := by
  rw [fitS_F (chkL_setY l 0 i y hv hy)]
  rw [fitS_F hv] at hf
  have hi2 : i < (fl l).length := by rw [fl_len]; exact hi
  have e : fl (setY l i y) = (fl l).set i ((fl l)[i].1, toF y.toNat) := by
    have hg : (fl l)[i] = fs l[i] := by simp [fl]
    rw [hg]
    unfold setY fl
    have hd : l.getD i (0, 0) = l[i] := by simp [List.getD, hi]
    rw [List.map_set, hd]
    rfl
  rw [e, fits_changed n (fl l) (fl_nodup hv) (by rw [fl_len]; exact hn) hf i hi2]
  have e2 : (fl l)[i].2 = toF l[i].2.toNat := by simp [fl, fs]
  rw [e2, Bool.eq_iff_iff, decide_eq_true_eq, beq_iff_eq]
  obtain ⟨a1, a2⟩ := scal_of hy
  obtain ⟨b1, b2⟩ := scal_of (chkL_at hv _ (List.getElem_mem hi)).2.2
  constructor
  · intro h
    have := toF_inj (by omega) (by omega) h
    omega
  · intro h; rw [h]

/-! ### Sums -/
theorem sumS_chk : ∀ (l m : List Sh) (p : Int), chkL p l = true → chkL p (sumS l m) = true
  | [], _, _, _ => by unfold sumS; simp; rfl
  | _ :: _, [], _, _ => by unfold sumS; simp; rfl
  | s :: l, t :: m, p, h => by
    obtain ⟨h1, h2, h3, h4⟩ := chkL_out h
    exact chkL_mk h1 h2 (scal_nat (Nat.mod_lt _ (by decide))) (sumS_chk l m s.1 h4)
theorem sumS_fl : ∀ (l m : List Sh), fl (sumS l m) = addS (fl l) (fl m)
  | [], _ => by simp [sumS, fl, addS]
  | _ :: _, [] => by simp [sumS, fl, addS]
  | s :: l, t :: m => by
    have ih := sumS_fl l m
    show fs (s.1, _) :: fl (sumS l m) = addS (fs s :: fl l) (fs t :: fl m)
    unfold addS at ih ⊢
    rw [List.zipWith_cons_cons, ih]
    congr 1
    show (toF s.1.toNat, toF ((((s.2.toNat + t.2.toNat) % 2305843009213688669 : Nat) : Int)).toNat) = (toF s.1.toNat, toF s.2.toNat + toF t.2.toNat)
    rw [Int.toNat_natCast, toF_add]
theorem plEq_fl {l m : List Sh} (h : plEq l m = true) : (fl l).map (·.1) = (fl m).map (·.1) := by
  have h := of_decide_eq_true h
  have e : ∀ k : List Sh, (fl k).map (·.1) = (k.map (·.1)).map fun z => toF z.toNat := fun k => by simp [fl, fs]
  rw [e, e, h]
theorem sum_ok {l m : List Sh} (h1 : okS l = true) (h2 : okS m = true) (h3 : plEq l m = true) : okS (sumS l m) = true := by
  obtain ⟨a, b, c⟩ := okS_out h1
  have := plEq_len h3
  exact okS_mk (by rw [sumS_len]; omega) (by rw [sumS_len]; omega) (sumS_chk l m 0 c)
theorem sum_join {l m : List Sh} (h1 : okS l = true) (h2 : okS m = true) (h3 : plEq l m = true) : joinV (sumS l m) = (joinV l + joinV m) % 2305843009213688669 := by
  have h4 := sum_ok h1 h2 h3
  rw [joinV_ok h1, joinV_ok h2, joinV_ok h4]
  refine toF_inj (thrS_lt _ _) (Nat.mod_lt _ (by decide)) ?_
  rw [toF_add, thrS_F (by decide) (okS_out h1).2.2, thrS_F (by decide) (okS_out h2).2.2, thrS_F (by decide) (okS_out h4).2.2, sumS_fl, through_addS _ _ (plEq_fl h3)]
theorem sum_fits {l m : List Sh} {n : Nat} (h1 : okS l = true) (h2 : okS m = true) (h3 : plEq l m = true) (f1 : fitS l n = true) (f2 : fitS m n = true) : fitS (sumS l m) n = true := by
  rw [fitS_F (okS_out h1).2.2] at f1
  rw [fitS_F (okS_out h2).2.2] at f2
  rw [fitS_F (okS_out (sum_ok h1 h2 h3)).2.2, sumS_fl]
  exact fits_addS n _ _ (fl_nodup (okS_out h1).2.2) (plEq_fl h3) f1 f2

/-! ### A further share -/
theorem ok_more {l : List Sh} {p : Int} {y z : Int} (h : okS (l ++ [(p, y)]) = true) (hz : scal z = true) : okS (l ++ [(p, z)]) = true := by
  obtain ⟨a, b, c⟩ := okS_out h
  refine okS_mk (by simp) (by simpa using b) ?_
  have e : setY (l ++ [(p, y)]) l.length z = l ++ [(p, z)] := by
    unfold setY
    rw [List.set_append_right _ _ (Nat.le_refl _)]
    simp [List.getD]
  rw [← e]
  exact chkL_setY _ 0 _ z c hz
/-- Exactly one value leads to a secret. -/
theorem more_join {l : List Sh} {p : Int} (h : okS (l ++ [(p, 0)]) = true) : ∃ A c : FQ, c ≠ 0 ∧ ∀ y : Nat, y < 2305843009213688669 → toF (joinV (l ++ [(p, ((y : Nat) : Int))])) = A + toF y * c := by
  have hv := (okS_out h).2.2
  have h0 : ∀ s ∈ l ++ [(p, (0 : Int))], (0 : FQ) ≠ toF s.1.toNat := fun s hs => by
    obtain ⟨k1, k2, _⟩ := chkL_at hv s hs
    intro e
    have : toF 0 = toF s.1.toNat := e
    have := toF_inj (by decide) (by omega) this
    omega
  refine ⟨lval ((fl l).map (·.1) ++ [toF p.toNat]) 0 (fl l), lbas ((fl l).map (·.1) ++ [toF p.toNat]) (toF p.toNat) 0 1, more_ne (fl l) (toF p.toNat) 0 ?_ (h0 (p, 0) (by simp)), fun y hy => ?_⟩
  · intro q hq
    obtain ⟨s, hs, rfl⟩ := List.mem_map.1 hq
    exact h0 s (by simp [hs])
  · have hok := ok_more h (scal_nat hy)
    rw [joinV_ok hok, thrS_F (by decide) (okS_out hok).2.2]
    have e : fl (l ++ [(p, ((y : Nat) : Int))]) = fl l ++ [(toF p.toNat, toF y)] := by simp [fl, fs]
    rw [e]
    exact through_more (fl l) (toF p.toNat) 0 (toF y)
end Go.Proofs.YtecojpkefobgpaaGreatDoor
