/-
  Package sign: Public and Sign.
-/
import Derived.Test.YtgpcbckpfnhhcaaDoorSc
import Derived.Test.YtgpcbckpfnhhcaaDoorPkC
namespace Go.Proofs.YtgpcbckpfnhhcaaDoor
open Go.RowKit
set_option linter.unusedVariables false
set_option linter.unusedSimpArgs false

/-- A private key. -/
def IsKey (x : Int) : Prop := 1 ≤ x ∧ x < 2305843009213688669
/-- A private key's public key. -/
def pubS (x : Nat) : Nat := 4 ^ x % 4611686018427377339
/-- The R of a signature, its challenge, its S. -/
def rS (x : Nat) (l : List UInt8) : Nat := pubS (nonS x l)
def hS (x : Nat) (l : List UInt8) : Nat := chalS (pubS x) (rS x l) l
def sS (x : Nat) (l : List UInt8) : Nat := sigS (nonS x l) (hS x l) x
theorem pubS_el (x : Nat) : IsEl ((pubS x : Nat) : Int) := pow4_is x
theorem sS_lt (x : Nat) (l : List UInt8) : sS x l < 2305843009213688669 := sigS_lt _ _ _
theorem IsKey.nat {x : Int} (h : IsKey x) : ∃ n : Nat, x = (n : Int) ∧ 1 ≤ n ∧ n < 2305843009213688669 := ⟨x.toNat, by have := h.1; omega, by have := h.1; omega, by have := h.2; have := h.1; omega⟩
theorem base_pub (x : Nat) (h : x < 2305843009213688669) : expR 4 (x : Int) = (((pubS x : Nat) : Int), (0 : Int)) := expR_ok el4N h

theorem public_ok (x : Nat) (h1 : 1 ≤ x) (h2 : x < 2305843009213688669) (w : World) :
    Calls Tryd.prog 12 #[.int .i64 x] w fun e w' => e = .returned (.tuple #[.int .i64 (pubS x : Nat), .int .i64 0]) ∧ Below w.heap.size w w' := by
  have k := fun w => gBase_any x w
  rw [base_pub x h2] at k
  have f1 : decide ((x : Int) < 1) = false := decide_eq_false (by omega)
  have f2 : decide ((2305843009213688669 : Int) ≤ (x : Int)) = false := decide_eq_false (by omega)
  generalize pubS x = p at *
  go_enter Tryd.func12, Tryd.ntmps12
  go_wp2_with (go_at_call 20; with_reducible refine (k _).mono ?_; rintro e w1 ⟨rfl, hb⟩)
  go_ret2
  exact ⟨rfl, hb⟩
theorem public_bad (x : Int) (h : ¬ IsKey x) (w : World) :
    Calls Tryd.prog 12 #[.int .i64 x] w fun e w' => e = .returned (.tuple #[.int .i64 0, .int .i64 50]) ∧ Below w.heap.size w w' := by
  by_cases h1 : x < 1
  · have f1 : decide (x < 1) = true := decide_eq_true h1
    go_enter Tryd.func12, Tryd.ntmps12
    go_wp2_with fail
    go_ret2
    exact ⟨rfl, Below.refl _ _⟩
  · have h2 : 2305843009213688669 ≤ x := by unfold IsKey at h; omega
    have f1 : decide (x < 1) = false := decide_eq_false h1
    have f2 : decide (2305843009213688669 ≤ x) = true := decide_eq_true h2
    go_enter Tryd.func12, Tryd.ntmps12
    go_wp2_with fail
    go_ret2
    exact ⟨rfl, Below.refl _ _⟩

/-- A signature as a value. -/
def sigV (r s : Int) : Value := .agg #[.int .i64 r, .int .i64 s]
/-- Block B is just a signature. -/
def SG (w : World) (B : Nat) (r s : Int) : Prop := w.heap[B]? = some (.cells #[.int .i64 r, .int .i64 s] 30 (0, 0))
theorem SG.new (w : World) (r s : Int) : SG (w.alloc (.cells #[.int .i64 r, .int .i64 s] 30)) w.heap.size r s := heap_alloc_new w _
theorem SG.lt {w : World} {B : Nat} {r s : Int} (h : SG w B r s) : B < w.heap.size := (Array.getElem?_eq_some_iff.1 h).1
theorem SG.below {w w' : World} {B C : Nat} {r s : Int} (h : SG w B r s) (hb : Below C w w') (hB : B < C) : SG w' B r s := (hb.block B hB).trans h
theorem SG.call {w w' : World} {B : Nat} {r s : Int} (h : SG w B r s) (hb : Below w.heap.size w w') : SG w' B r s := h.below hb h.lt
theorem SG.grew {w w' : World} {v v' : Value} {B : Nat} {r s : Int} (h : SG w B r s) (hg : Grew w v w' v') (hne : v.ownBlock ≠ some B) : SG w' B r s := (hg.grown.block B h.lt (Ne.symm hne)).trans h
theorem SG.alloc {w : World} {B : Nat} {r s : Int} (h : SG w B r s) (o : Obj) : SG (w.alloc o) B r s := (Below.heap_alloc w o B h.lt).trans h
theorem SG.cell0 {w : World} {B : Nat} {r s : Int} (h : SG w B r s) : w.cell? ⟨B, 0, none⟩ = some (.int .i64 r) := by rw [cell_of_row w B 0 _ _ (0, 0) h]; rfl
theorem SG.cell1 {w : World} {B : Nat} {r s : Int} (h : SG w B r s) : w.cell? ⟨B, 1, none⟩ = some (.int .i64 s) := by rw [cell_of_row w B 1 _ _ (0, 0) h]; rfl
theorem SG.frozen {w : World} {B : Nat} {r s : Int} (h : SG w B r s) (i : Nat) : w.frozen? ⟨B, i, none⟩ = false := frozen_of_row w B i _ _ h
theorem SG.range {w : World} {B : Nat} {r s : Int} (h : SG w B r s) : w.rangeAt B 0 [.int .i64 r, .int .i64 s] := by
  intro j v hv
  match j, hv with
  | 0, hv => injection hv with hv; subst hv; exact h.cell0
  | 1, hv => injection hv with hv; subst hv; exact h.cell1
theorem SG.set0 {w : World} {B : Nat} {r s : Int} (h : SG w B r s) (v : Int) : SG (w.setCell ⟨B, 0, none⟩ (.int .i64 v)) B v s := by
  unfold SG; rw [heap_setCell_same w B 0 _ _ _ h]; rfl
theorem SG.set1 {w : World} {B : Nat} {r s : Int} (h : SG w B r s) (v : Int) : SG (w.setCell ⟨B, 1, none⟩ (.int .i64 v)) B r v := by
  unfold SG; rw [heap_setCell_same w B 1 _ _ _ h]; rfl

set_option maxRecDepth 100000 in
set_option maxHeartbeats 2000000 in
theorem sign_ok (x : Nat) (h1 : 1 ≤ x) (h2 : x < 2305843009213688669) (a : Option Addr) (cap : Nat) (l : List UInt8) (w : World) (hT : Tab w) (hl : RdB w.heap.size w a l) (hcap : l.length ≤ cap) (hc2 : cap ≤ maxLen) (hnil : a = none → cap = 0) (hn : l.length ≤ 70368744177000) :
    Calls Tryd.prog 14 #[.int .i64 x, .slice a l.length cap] w fun e w' => e = .returned (.tuple #[sigV (rS x l : Nat) (sS x l : Nat), .int .i64 0]) ∧ Below w.heap.size w w' := by
  have k1 := fun w => public_ok x h1 h2 w
  have k2 := fun (w' : World) (h : Below w.heap.size w w') => nonce_any x a cap l w' (hT.below h hT.lt) ((hl.below h).mono h.size) hcap hc2 hnil hn
  have k4 := fun (w' : World) (h : Below w.heap.size w w') => challenge_any (pubS x : Nat) (rS x l : Nat) a cap l w' (hT.below h hT.lt) ((hl.below h).mono h.size) hcap hc2 hnil hn
  have hnb := nonS_bd x l
  have k3 := fun w => gBase_any (nonS x l : Nat) w
  rw [base_pub _ hnb.2] at k3
  have hcb := chalS_bd (pubS x : Nat) (rS x l : Nat) l
  have k5 := fun w => fMul (hS x l) x hcb.2 h2 w
  have hml : hS x l * x % 2305843009213688669 < 2305843009213688669 := Nat.mod_lt _ (by decide)
  have k6 := fun w => fAdd (nonS x l) (hS x l * x % 2305843009213688669) hnb.2 hml w
  rw [show (nonS x l + hS x l * x % 2305843009213688669) % 2305843009213688669 = sS x l from rfl] at k6
  rw [show pubS (nonS x l) = rS x l from rfl] at k3
  have k4' : ∀ (w' : World), Below w.heap.size w w' → Calls Tryd.prog 33 #[.int .i64 (pubS x : Nat), .int .i64 (rS x l : Nat), .slice a l.length cap] w' fun e w'' => e = .returned (.int .i64 (hS x l : Nat)) ∧ Below w'.heap.size w' w'' := k4
  clear k4 hl hT hnil hcb hnb hml
  generalize pubS x = p at *
  generalize hS x l * x % 2305843009213688669 = m at *
  generalize hS x l = h at *
  generalize sS x l = s at *
  generalize rS x l = r at *
  generalize nonS x l = n at *
  generalize l.length = q at *
  have HB0 := Below.refl w.heap.size w
  have HB : Below w.heap.size w (w.alloc (.cells #[.int .i64 0, .int .i64 0] 30)) := HB0.alloc (Nat.le_refl _) _
  have HG := SG.new w 0 0
  go_enter Tryd.func14, Tryd.ntmps14
  go_wp2_with (first
    | (go_at_call 12; with_reducible refine (k1 _).mono ?_; rintro e w1 ⟨rfl, hb⟩; replace HB := HB.trans (hb.mono HB.size); replace HG := HG.call hb; clear hb k1)
    | (go_at_call 32; with_reducible refine (k2 _ HB).mono ?_; rintro e w2 ⟨rfl, hb⟩; replace HB := HB.trans (hb.mono HB.size); replace HG := HG.call hb; clear hb k2)
    | (go_at_call 20; with_reducible refine (k3 _).mono ?_; rintro e w3 ⟨rfl, hb⟩; replace HB := HB.trans (hb.mono HB.size); replace HG := HG.call hb; clear hb k3; have c0 := HG.cell0; have f0 := HG.frozen 0; replace HG := HG.set0 (r : Int); replace HB := HB.setCell (p := ⟨w.heap.size, 0, none⟩) (Nat.le_refl _) (.int .i64 (r : Int)))
    | (go_at_call 33; with_reducible refine (k4' _ HB).mono ?_; rintro e w4 ⟨rfl, hb⟩; replace HB := HB.trans (hb.mono HB.size); replace HG := HG.call hb; clear hb k4')
    | (go_at_call 27; with_reducible refine (k5 _).mono ?_; rintro e w5 ⟨rfl, hb⟩; replace HB := HB.trans (hb.mono HB.size); replace HG := HG.call hb; clear hb k5)
    | (go_at_call 34; with_reducible refine (k6 _).mono ?_; rintro e w6 ⟨rfl, hb⟩; replace HB := HB.trans (hb.mono HB.size); replace HG := HG.call hb; clear hb k6; have c1 := HG.cell1; have f1 := HG.frozen 1; have d0 := HG.cell0; have g0 := HG.frozen 0; replace HG := HG.set1 (s : Int); replace HB := HB.setCell (p := ⟨w.heap.size, 1, none⟩) (Nat.le_refl _) (.int .i64 (s : Int)))
    | (refine wpList_load_row rfl 30 (.tmp 4) rfl w.heap.size rfl _ #[.int .i64 (r : Int), .int .i64 (s : Int)] (0, 0) _ HG Tryd.underlying30 rfl rfl ?_)
    | (refine wpList_storeA rfl 30 (.tmp 4) (.tmp 45) rfl w.heap.size #[.int .i64 (r : Int), .int .i64 (s : Int)] rfl rfl _ _ HG rfl rfl rfl ?_))
  have HG9 := (HG.set0 (r : Int)).set1 (s : Int)
  have HB9 := (HB.setCell (p := ⟨w.heap.size, 0, none⟩) (Nat.le_refl _) (.int .i64 (r : Int))).setCell (p := ⟨w.heap.size, 1, none⟩) (Nat.le_refl _) (.int .i64 (s : Int))
  refine bodyPost_ret (v := .tuple #[sigV r s, .int .i64 0]) ?_ rfl ⟨rfl, HB9⟩
  exact results_cell_tmp rfl _ _ w.heap.size 0 [.int .i64 r, .int .i64 s] _ rfl HG9.range Tryd.underlying30 rfl rfl _ rfl

set_option maxRecDepth 100000 in
theorem sign_bad (x : Int) (h : ¬ IsKey x) (a : Option Addr) (n cap : Nat) (w : World) :
    Calls Tryd.prog 14 #[.int .i64 x, .slice a n cap] w fun e w' => e = .returned (.tuple #[sigV 0 0, .int .i64 50]) ∧ Below w.heap.size w w' := by
  have k1 := fun w => public_bad x h w
  have HB0 := Below.refl w.heap.size w
  have HB : Below w.heap.size w (w.alloc (.cells #[.int .i64 0, .int .i64 0] 30)) := HB0.alloc (Nat.le_refl _) _
  have HG := SG.new w 0 0
  clear h
  go_enter Tryd.func14, Tryd.ntmps14
  go_wp2_with (first
    | (go_at_call 12; with_reducible refine (k1 _).mono ?_; rintro e w1 ⟨rfl, hb⟩; replace HB := HB.trans (hb.mono HB.size); replace HG := HG.call hb; clear hb k1; have c0 := HG.cell0; have f0 := HG.frozen 0; have c1 := HG.cell1; have f1 := HG.frozen 1))
  have HG9 := (HG.set0 0).set1 0
  have HB9 := (HB.setCell (p := ⟨w.heap.size, 0, none⟩) (Nat.le_refl _) (.int .i64 0)).setCell (p := ⟨w.heap.size, 1, none⟩) (Nat.le_refl _) (.int .i64 0)
  refine bodyPost_ret (v := .tuple #[sigV 0 0, .int .i64 50]) ?_ rfl ⟨rfl, HB9⟩
  exact results_cell_tmp rfl _ _ w.heap.size 0 [.int .i64 0, .int .i64 0] _ rfl HG9.range Tryd.underlying30 rfl rfl _ rfl
end Go.Proofs.YtgpcbckpfnhhcaaDoor
