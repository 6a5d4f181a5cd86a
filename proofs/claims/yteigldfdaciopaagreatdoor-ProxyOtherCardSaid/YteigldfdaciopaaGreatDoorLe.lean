/-
  Package proxy: the directions and their functions.
-/
import Derived.Test.YteigldfdaciopaaGreatDoorLd
import Derived.Deep.RegionHeld3
namespace Go.Proofs.YteigldfdaciopaaGreatDoor
open Go.RowKit
set_option linter.unusedVariables false
set_option linter.unusedSimpArgs false

theorem results_tmp_row {P : Program} {fn : Func} {p u : Tmp} {ty : TypeId} (h : fn.results = #[.tmp u, .cell p ty]) (tmps : Array Value) (w : World) (g : Nat) (t : TypeId) (cs : Array Value) (fr : Nat × Nat) (d : TypeDesc)
    (hp : tmps.getD p undef = .pointer (some ⟨g, 0, none⟩)) (hg : w.heap[g]? = some (.cells cs t fr))
    (hu : P.underlying ty = some d) (hd : (match d with | .struct _ | .array _ _ => true | _ => false) = true) (hi : (P.info? ty).map (·.size) = some cs.size) (v : Value) (hv : tmps.getD u undef = v) :
    (results fn tmps).run P w = .ok (.tuple #[v, .agg cs]) w := by
  have hp' : tmps[p]?.getD undef = .pointer (some ⟨g, 0, none⟩) := by simpa using hp
  have hv' : tmps[u]?.getD undef = v := by simpa using hv
  simp [results, h, hp', hv', asAddr, run_loadVar_row w g t ty cs fr d hg hu hd hi]
theorem four4P : IsEl ((4 : Nat) : Int) := isEl_of (by decide) El4
theorem gBase_okP (n : Nat) (hn : n < 2305843009213688669) (w : World) : Calls Tryz.prog 18 #[.int .i64 n] w fun e w' => e = .returned (.tuple #[.int .i64 ((4 ^ n % 4611686018427377339 : Nat) : Int), .int .i64 0]) ∧ Below w.heap.size w w' := by
  have k := gBase_any (n : Int) w
  rw [show (4 : Int) = ((4 : Nat) : Int) from rfl, expR_ok four4P hn] at k
  exact k
theorem inv_isP {a : Nat} (h : El a) : IsEl ((a ^ (oQ - 1) % 4611686018427377339 : Nat) : Int) := isEl_of (Nat.mod_lt _ (by decide)) (h.pow _)
theorem pow_isP {a : Nat} (h : El a) (k : Nat) : IsEl ((a ^ k % 4611686018427377339 : Nat) : Int) := isEl_of (Nat.mod_lt _ (by decide)) (h.pow _)
theorem IsEl.el {a : Nat} (h : IsEl (a : Int)) : El a := by
  obtain ⟨n, hn, hE⟩ := h.nat
  have e1 : a = n := by exact_mod_cast hn
  subst e1
  exact hE.2.2
theorem mul_isP {a b : Nat} (ha : IsEl (a : Int)) (hb : IsEl (b : Int)) : IsEl ((a * b % 4611686018427377339 : Nat) : Int) := isEl_of (Nat.mod_lt _ (by decide)) (ha.el.mul hb.el)

theorem dir_und : Tryz.prog.underlying 52 = some (.struct (Tryz.prog.fieldsOf 52)) := by kernel_rfl
/-- The direction of who locks: its box and its two functions. -/
def lockV (g : Nat) : Value := .agg #[.func (.func 55) #[] #[.pointer (some ⟨g, 0, none⟩)], .func (.func 56) #[] #[]]
def openV (g g2 : Nat) : Value := .agg #[.func (.func 68) #[] #[.pointer (some ⟨g, 0, none⟩), .pointer (some ⟨g2, 0, none⟩)], .func (.func 69) #[] #[]]
set_option maxRecDepth 100000 in
theorem locking_any (r : Int) (w : World) :
    Calls Tryz.prog 27 #[.int .i64 r] w fun e w' => e = .returned (lockV w.heap.size) ∧ CB w' w.heap.size 3 #[.int .i64 r] ∧ Below w.heap.size w w' := by
  have hmf : ∀ (fn : Fn) (first cap : Array Value) (w : World), (Instr.makeFunc fn first cap).run Tryz.prog w = .ok (.func fn first cap) w := fun _ _ _ _ => rfl
  go_enter Tryz.func27, Tryz.ntmps27
  go_wp2_with fail
  have h1 := (CB.new w 3 #[.int .i64 r])
  have h2 := CB.new (w.alloc (.cells #[.int .i64 r] 3)) 52 #[.func (.func 55) #[] #[.pointer (some ⟨w.heap.size, 0, none⟩)], .func (.func 56) #[] #[]]
  have hs : (w.alloc (.cells #[.int .i64 r] 3)).heap.size = w.heap.size + 1 := by simp
  rw [hs] at h2
  refine bodyPost_ret (v := lockV w.heap.size) ?_ rfl ⟨rfl, h1.alloc _, ((Below.refl _ _).alloc (Nat.le_refl _) _).alloc (by omega) _⟩
  exact results_cell_row rfl _ _ (w.heap.size + 1) 52 _ (0, 0) _ rfl h2 dir_und rfl (by kernel_rfl)
set_option maxRecDepth 100000 in
theorem opening_any (x a : Int) (w : World) :
    Calls Tryz.prog 39 #[.int .i64 x, .int .i64 a] w fun e w' => e = .returned (openV (w.heap.size + 1) w.heap.size) ∧ CB w' w.heap.size 3 #[.int .i64 x] ∧ CB w' (w.heap.size + 1) 3 #[.int .i64 a] ∧ Below w.heap.size w w' := by
  have hmf : ∀ (fn : Fn) (first cap : Array Value) (w : World), (Instr.makeFunc fn first cap).run Tryz.prog w = .ok (.func fn first cap) w := fun _ _ _ _ => rfl
  go_enter Tryz.func39, Tryz.ntmps39
  go_wp2_with fail
  have h1 := (CB.new w 3 #[.int .i64 x])
  have h2 := CB.new (w.alloc (.cells #[.int .i64 x] 3)) 3 #[.int .i64 a]
  have h3 := CB.new ((w.alloc (.cells #[.int .i64 x] 3)).alloc (.cells #[.int .i64 a] 3)) 52 #[.func (.func 68) #[] #[.pointer (some ⟨w.heap.size + 1, 0, none⟩), .pointer (some ⟨w.heap.size, 0, none⟩)], .func (.func 69) #[] #[]]
  have hs : (w.alloc (.cells #[.int .i64 x] 3)).heap.size = w.heap.size + 1 := by simp
  have hs2 : ((w.alloc (.cells #[.int .i64 x] 3)).alloc (.cells #[.int .i64 a] 3)).heap.size = w.heap.size + 1 + 1 := by simp
  rw [hs] at h2
  rw [hs2] at h3
  refine bodyPost_ret (v := openV (w.heap.size + 1) w.heap.size) ?_ rfl ⟨rfl, (h1.alloc _).alloc _, h2.alloc _, (((Below.refl _ _).alloc (Nat.le_refl _) _).alloc (by omega) _).alloc (by omega) _⟩
  exact results_cell_row rfl _ _ (w.heap.size + 1 + 1) 52 _ (0, 0) _ rfl h3 dir_und rfl (by kernel_rfl)
theorem lockH_any (a b : Int) (w : World) : Calls Tryz.prog 56 #[.int .i64 a, .int .i64 b] w fun e w' => e = .returned (.int .i64 a) ∧ w' = w := by
  go_enter Tryz.func56, Tryz.ntmps56
  go_wp2_with fail
  go_ret
  exact ⟨rfl, rfl⟩
theorem openH_any (a b : Int) (w : World) : Calls Tryz.prog 69 #[.int .i64 a, .int .i64 b] w fun e w' => e = .returned (.int .i64 b) ∧ w' = w := by
  go_enter Tryz.func69, Tryz.ntmps69
  go_wp2_with fail
  go_ret
  exact ⟨rfl, rfl⟩
theorem lockF_any (g r : Nat) (hr : r < 2305843009213688669) (w : World) (hc : w.cell? ⟨g, 0, none⟩ = some (.int .i64 r)) :
    Calls Tryz.prog 55 #[.pointer (some ⟨g, 0, none⟩)] w fun e w' => e = .returned (.int .i64 ((4 ^ r % 4611686018427377339 : Nat) : Int)) ∧ Below w.heap.size w w' := by
  have k1 := gBase_okP r hr w
  clear hr
  generalize 4 ^ r % 4611686018427377339 = z at *
  have k2 := fun W => must_ok (z : Int) W
  go_enter Tryz.func55, Tryz.ntmps55
  go_wp2_with (first
    | (go_at_call 18; with_reducible refine k1.mono ?_; rintro e w1 ⟨rfl, hb⟩)
    | (go_at_call 26; with_reducible refine (k2 _).mono ?_; rintro e w2 ⟨rfl, hw⟩; rw [hw]; clear hw))
  go_ret
  exact ⟨rfl, hb⟩
set_option maxRecDepth 100000 in
set_option maxHeartbeats 1600000 in
theorem openF_any (ga gx a x : Nat) (ha : IsEl (a : Int)) (hx : PkQ x) (w : World) (ca : w.cell? ⟨ga, 0, none⟩ = some (.int .i64 a)) (cx : w.cell? ⟨gx, 0, none⟩ = some (.int .i64 x)) (la : ga < w.heap.size) (lx : gx < w.heap.size) :
    Calls Tryz.prog 68 #[.pointer (some ⟨ga, 0, none⟩), .pointer (some ⟨gx, 0, none⟩)] w fun e w' => e = .returned (.int .i64 (((a ^ fvR x % 4611686018427377339) ^ (oQ - 1) % 4611686018427377339 : Nat) : Int)) ∧ Below w.heap.size w w' := by
  have K1 := Lib.hid (fun W => fInv x (by have := hx.1; omega) hx.2 W)
  have K2 := Lib.hid (fun W => gExp_ok a (fvR x) ha (fvR_lt x) W)
  have K3 := Lib.hid (fun W => gInv_ok (a ^ fvR x % 4611686018427377339) (pow_isP ha.el _) W)
  rw [show x ^ (kQ - 1) % 2305843009213688669 = fvR x from rfl] at K1
  obtain ⟨y, hy⟩ : ∃ y, (a ^ fvR x % 4611686018427377339) ^ (oQ - 1) % 4611686018427377339 = y := ⟨_, rfl⟩
  rw [hy] at K3 ⊢
  obtain ⟨z, hz⟩ : ∃ z, a ^ fvR x % 4611686018427377339 = z := ⟨_, rfl⟩
  rw [hz] at K2 K3
  obtain ⟨i, hi⟩ : ∃ i, fvR x = i := ⟨_, rfl⟩
  rw [hi] at K1 K2
  have k4 := fun (n : Nat) W => must_ok (n : Int) W
  have HCA : Hid (∀ W, Below w.heap.size w W → W.cell? ⟨ga, 0, none⟩ = some (.int .i64 a)) := Lib.hid (fun W h => (h.cell (p := ⟨ga, 0, none⟩) la).trans ca)
  have HCX : Hid (∀ W, Below w.heap.size w W → W.cell? ⟨gx, 0, none⟩ = some (.int .i64 x)) := Lib.hid (fun W h => (h.cell (p := ⟨gx, 0, none⟩) lx).trans cx)
  have HB0 : Hid (Below w.heap.size w w.drew) := Lib.hid ((Below.refl _ _).drew)
  clear hx ha hy hz hi
  go_enter Tryz.func68, Tryz.ntmps68
  go_wp2_with fail
  have hS0 : w.drew.cell? ⟨ga, 0, none⟩ = some (.int .i64 a) ∧ w.drew.cell? ⟨gx, 0, none⟩ = some (.int .i64 x) := ⟨ca, cx⟩
  go_region_held3 (fun w' => w'.cell? ⟨ga, 0, none⟩ = some (.int .i64 a) ∧ w'.cell? ⟨gx, 0, none⟩ = some (.int .i64 x))
    (first
      | exact hS2
      | exact hS1
      | exact hS0)
    (first
      | (go_at_call 46
         with_reducible refine (K1.out w.drew).mono ?_
         rintro e w1 ⟨rfl, hb⟩
         have HB1 := Lib.hid (HB0.out.trans (hb.mono HB0.out.size))
         have hS1 : w1.cell? ⟨ga, 0, none⟩ = some (.int .i64 a) ∧ w1.cell? ⟨gx, 0, none⟩ = some (.int .i64 x) := ⟨HCA.out _ HB1.out, HCX.out _ HB1.out⟩
         clear hb)
      | (go_at_call 26
         with_reducible refine (k4 i _).mono ?_
         rintro e wo ⟨rfl, hwo⟩
         rw [hwo]
         clear hwo wo)
      | (go_at_call 29
         with_reducible refine (K2.out w1).mono ?_
         rintro e w2 ⟨rfl, hb⟩
         have HB2 := Lib.hid (HB1.out.trans (hb.mono HB1.out.size))
         have hS2 : w2.cell? ⟨ga, 0, none⟩ = some (.int .i64 a) ∧ w2.cell? ⟨gx, 0, none⟩ = some (.int .i64 x) := ⟨HCA.out _ HB2.out, HCX.out _ HB2.out⟩
         clear hb)
      | (go_at_call 26
         with_reducible refine (k4 z _).mono ?_
         rintro e wo ⟨rfl, hwo⟩
         rw [hwo]
         clear hwo wo))
  all_goals
    go_wp2_with fail
    refine (K3.out _).mono ?_
    rintro e w3 ⟨rfl, hb⟩
    have HB3 := Lib.hid (HB2.out.trans (hb.mono HB2.out.size))
    clear hb
    go_wp2_with (go_at_call 26; with_reducible refine (k4 y _).mono ?_; rintro e wo ⟨rfl, hwo⟩; rw [hwo]; clear hwo wo)
    go_ret
    exact ⟨rfl, HB3.out⟩
end Go.Proofs.YteigldfdaciopaaGreatDoor
