/-
  Package pake: the map of roles, made and looked up; the other role; the functions that order points.
-/
import Derived.Test.YtkpecfhcdechmaaDoorKb
import Derived.Maps.Keyed
import Derived.Carry
import Derived.ChangeMaps5
namespace Go.Proofs.YtkpecfhcdechmaaDoor
open Go.RowKit Go.ChangeMaps
set_option linter.unusedVariables false
set_option linter.unusedSimpArgs false

def rolV (s : ByteArray) (F : FuncId) : Value := .agg #[.string s, .func (.func F) #[] #[]]
def sHost : ByteArray := ⟨#[104, 111, 115, 116]⟩
def sGuest : ByteArray := ⟨#[103, 117, 101, 115, 116]⟩
def hostV : Value := .agg #[.string sHost, .func (.func 61) #[] #[]]
def guestV : Value := .agg #[.string sGuest, .func (.func 62) #[] #[]]
def noneV : Value := .agg #[.string ⟨#[]⟩, .nilFunc]
def roleV (r : Int) : Value := if r = 1 then hostV else if r = 2 then guestV else noneV
theorem run_fld (s : ByteArray) (F : FuncId) (w : World) : (Instr.field 59 (.agg #[.string s, .func (.func F) #[] #[]]) 1).run Tryd.prog w = .ok (.func (.func F) #[] #[]) w := by kernel_rfl
/-- Block b is the map of roles. -/
def RM (w : World) (b : Nat) : Prop := w.heap[b]? = some (.map #[⟨.int .i64 1, hostV, 0⟩, ⟨.int .i64 2, guestV, 1⟩] 2)
theorem RM.lt {w : World} {b : Nat} (h : RM w b) : b < w.heap.size := (Array.getElem?_eq_some_iff.1 h).1
theorem RM.call {w w' : World} {b : Nat} (h : RM w b) (hb : Below w.heap.size w w') : RM w' b := (hb.block b h.lt).trans h
theorem RM.drew {w : World} {b : Nat} (h : RM w b) : RM w.drew b := h

theorem zero_role (w : World) : (zeroValue 59).run Tryd.prog w = .ok noneV w := by kernel_rfl
theorem map_und : Tryd.prog.underlying 60 = some (.map 3 59) := Tryd.underlying60
theorem check_int (em : Bool) (n : Nat) (r : Int) (w : World) : (Instr.checkKey em (n + 1) 3 (.int .i64 r)).run Tryd.prog w = .ok () w := by
  have hi := run_underlying (P := Tryd.prog) Tryd.underlying3 w
  unfold Instr.checkKey
  simp [hi, Result.andThen]
theorem check_key (em : Bool) (r : Int) (w : World) : (Instr.checkKey em 10000 3 (.int .i64 r)).run Tryd.prog w = .ok () w := check_int em 9999 r w
theorem run_put0 (w : World) (b : Nat) (h : w.heap[b]? = some (.map #[] 0)) (v : Value) :
    (Instr.mapUpdate 60 (.map (some b)) (.int .i64 1) v).run Tryd.prog w = .ok () (setBlock w b (.map #[⟨.int .i64 1, v, 0⟩] 1)) := by
  have hi := run_underlying (P := Tryd.prog) Tryd.underlying3 w
  simp [Instr.mapUpdate, run_underlying map_und, MapKept.run_getObj_map h, check_key, Instr.findKey, Instr.findNow, hi, MapKept.run_setObj_map _ h, Result.andThen, setBlock]
theorem run_put1 (w : World) (b : Nat) (u : Value) (h : w.heap[b]? = some (.map #[⟨.int .i64 1, u, 0⟩] 1)) (v : Value) :
    (Instr.mapUpdate 60 (.map (some b)) (.int .i64 2) v).run Tryd.prog w = .ok () (setBlock w b (.map #[⟨.int .i64 1, u, 0⟩, ⟨.int .i64 2, v, 1⟩] 2)) := by
  have hi := run_underlying (P := Tryd.prog) Tryd.underlying3 w
  simp [Instr.mapUpdate, run_underlying map_und, MapKept.run_getObj_map h, check_key, Instr.findKey, Instr.findNow, Instr.sameNow, hi, MapKept.run_setObj_map _ h, Result.andThen, setBlock]
theorem run_look (w : World) (b : Nat) (h : RM w b) (r : Int) :
    (Instr.lookup 60 (.map (some b)) (.int .i64 r) false).run Tryd.prog w = .ok (roleV r) w := by
  have hi := run_underlying (P := Tryd.prog) Tryd.underlying3 w
  unfold roleV
  by_cases h1 : r = 1
  · subst h1
    simp [Instr.lookup, run_underlying map_und, MapKept.run_getObj_map h, check_key, Instr.findKey, Instr.findNow, Instr.sameNow, hi, Result.andThen]
  · have g1 : (r == 1) = false := beq_eq_false_iff_ne.2 h1
    by_cases h2 : r = 2
    · subst h2
      simp [Instr.lookup, run_underlying map_und, MapKept.run_getObj_map h, check_key, Instr.findKey, Instr.findNow, Instr.sameNow, hi, Result.andThen]
    · have g2 : (r == 2) = false := beq_eq_false_iff_ne.2 h2
      simp [Instr.lookup, run_underlying map_und, MapKept.run_getObj_map h, check_key, Instr.findKey, Instr.findNow, Instr.sameNow, hi, Result.andThen, g1, g2, h1, h2, zero_role w]
theorem run_lookOk (w : World) (b : Nat) (h : RM w b) (r : Int) :
    (Instr.lookup 60 (.map (some b)) (.int .i64 r) true).run Tryd.prog w = .ok (.tuple #[roleV r, .bool (decide (1 ≤ r ∧ r ≤ 2))]) w := by
  have hi := run_underlying (P := Tryd.prog) Tryd.underlying3 w
  unfold roleV
  by_cases h1 : r = 1
  · subst h1
    simp [Instr.lookup, run_underlying map_und, MapKept.run_getObj_map h, check_key, Instr.findKey, Instr.findNow, Instr.sameNow, hi, Result.andThen]
  · have g1 : (r == 1) = false := beq_eq_false_iff_ne.2 h1
    by_cases h2 : r = 2
    · subst h2
      simp [Instr.lookup, run_underlying map_und, MapKept.run_getObj_map h, check_key, Instr.findKey, Instr.findNow, Instr.sameNow, hi, Result.andThen]
    · have g2 : (r == 2) = false := beq_eq_false_iff_ne.2 h2
      have g3 : decide (1 ≤ r ∧ r ≤ 2) = false := decide_eq_false (by omega)
      rw [g3]
      simp [Instr.lookup, run_underlying map_und, MapKept.run_getObj_map h, check_key, Instr.findKey, Instr.findNow, Instr.sameNow, hi, Result.andThen, g1, g2, h1, h2, zero_role w]

set_option maxRecDepth 100000 in
theorem roles_any (w : World) :
    Calls Tryd.prog 35 #[] w fun e w' => e = .returned (.map (some w.heap.size)) ∧ RM w' w.heap.size ∧ Below w.heap.size w w' := by
  have hmm := run_makeMap (P := Tryd.prog) 60 w
  have h0 : (w.alloc (.map #[] 0)).heap[w.heap.size]? = some (.map #[] 0) := (MapKept.heap_alloc w _).1
  have hp0 := run_put0 _ _ h0 hostV
  have h1 := heap_setBlock_same h0 (.map #[⟨.int .i64 1, hostV, 0⟩] 1)
  have hp1 := run_put1 _ _ _ h1 guestV
  have h2 := heap_setBlock_same h1 (.map #[⟨.int .i64 1, hostV, 0⟩, ⟨.int .i64 2, guestV, 1⟩] 2)
  have hb : Below w.heap.size w (setBlock (setBlock (w.alloc (.map #[] 0)) w.heap.size (.map #[⟨.int .i64 1, hostV, 0⟩] 1)) w.heap.size (.map #[⟨.int .i64 1, hostV, 0⟩, ⟨.int .i64 2, guestV, 1⟩] 2)) := by
    have b0 : Below w.heap.size w (w.alloc (.map #[] 0)) := (Below.refl _ _).alloc (Nat.le_refl _) _
    have b1 : Below w.heap.size (w.alloc (.map #[] 0)) (setBlock (w.alloc (.map #[] 0)) w.heap.size (.map #[⟨.int .i64 1, hostV, 0⟩] 1)) := ⟨rfl, rfl, rfl, by simp [setBlock], fun k hk => heap_setBlock_other h0 _ (by omega)⟩
    have b2 : Below w.heap.size (setBlock (w.alloc (.map #[] 0)) w.heap.size (.map #[⟨.int .i64 1, hostV, 0⟩] 1)) (setBlock (setBlock (w.alloc (.map #[] 0)) w.heap.size (.map #[⟨.int .i64 1, hostV, 0⟩] 1)) w.heap.size (.map #[⟨.int .i64 1, hostV, 0⟩, ⟨.int .i64 2, guestV, 1⟩] 2)) := ⟨rfl, rfl, rfl, by simp [setBlock], fun k hk => heap_setBlock_other h1 _ (by omega)⟩
    exact (b0.trans b1).trans b2
  have H2 := Lib.hid h2
  have HB := Lib.hid hb
  clear h2 hb h1 h0
  unfold hostV at hp0 hp1
  unfold guestV at hp1
  unfold sHost at hp0 hp1
  unfold sGuest at hp1
  go_enter Tryd.func35, Tryd.ntmps35
  go_wp2_with fail
  go_ret
  exact ⟨rfl, H2.out, HB.out⟩

theorem roles_ex (w : World) :
    Calls Tryd.prog 35 #[] w fun e w' => ∃ b, e = .returned (.map (some b)) ∧ RM w' b ∧ Below w.heap.size w w' :=
  (roles_any w).mono fun e w' h => ⟨_, h⟩

theorem other_any (r : Int) (h : 1 ≤ r ∧ r ≤ 2) (w : World) :
    Calls Tryd.prog 46 #[.int .i64 r] w fun e w' => e = .returned (.int .i64 (3 - r)) ∧ w' = w := by
  have h1 : 1 ≤ 3 - r := by omega
  have h2 : 3 - r ≤ 2 := by omega
  go_enter Tryd.func46, Tryd.ntmps46
  go_wp2_with fail
  go_ret
  exact ⟨by go_num, rfl⟩
theorem order1_any (a b : Int) (w : World) :
    Calls Tryd.prog 61 #[.int .i64 a, .int .i64 b] w fun e w' => e = .returned (.tuple #[.int .i64 a, .int .i64 b]) ∧ w' = w := by
  go_enter Tryd.func61, Tryd.ntmps61
  go_wp2_with fail
  go_ret2
  exact ⟨rfl, rfl⟩
theorem order2_any (a b : Int) (w : World) :
    Calls Tryd.prog 62 #[.int .i64 a, .int .i64 b] w fun e w' => e = .returned (.tuple #[.int .i64 b, .int .i64 a]) ∧ w' = w := by
  go_enter Tryd.func62, Tryd.ntmps62
  go_wp2_with fail
  go_ret2
  exact ⟨rfl, rfl⟩
end Go.Proofs.YtkpecfhcdechmaaDoor
