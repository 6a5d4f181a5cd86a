/-
  The reference's scalars and points of bytes; the walks of the two laws about them.
-/
import Derived.Test.YtmeoicfeiamkmaaDoorGh
namespace Go.Proofs.YtmeoicfeiamkmaaDoor
open Go.RowKit
set_option linter.unusedVariables false
set_option linter.unusedSimpArgs false

theorem hScalar (s : ByteArray) (a : Option Addr) (cap : Nat) (l : List UInt8) (w : World) (hl : RdB w.heap.size w a l) (hcap : l.length ≤ cap) (hc2 : cap ≤ maxLen) (hnil : a = none → cap = 0) (hs : s.size ≤ 600) (hn : l.length ≤ 70368744177000) :
    Calls Tryd.prog 7 #[.string s, .slice a l.length cap] w fun e w' => e = .returned (.int .i64 (scalS (tagS s.data.toList l) : Nat)) ∧ Below w.heap.size w w' := by
  have HT := Lib.hid (refTagged s a cap l w hl hcap hc2 hnil hs hn)
  have hx := tagS_len32 s.data.toList l
  have hb := scalS_bd (tagS s.data.toList l)
  have HR : Hid (∀ w, Calls Tryd.prog 17 #[.agg (bvA (tagS s.data.toList l)), .int .i64 2305843009213688668] w fun e w' => e = .returned (.int .i64 (restD 2305843009213688668 (tagS s.data.toList l) : Nat)) ∧ Below w.heap.size w w') := Lib.hid fun w => rest_any 2305843009213688668 (.inr rfl) _ hx w
  have he := scalS_eq (tagS s.data.toList l)
  generalize tagS s.data.toList l = x at *
  generalize restD 2305843009213688668 x = r at *
  generalize scalS x = y at *
  have c1 := wrapI (1 + (r : Int)) (by omega) (by omega)
  have HE : Hid (1 + (r : Int) = (y : Int)) := Lib.hid (by omega)
  clear he hl hnil
  go_enter Tryd.func7, Tryd.ntmps7
  go_wp2_with (first
    | (go_at_call 18; refine HT.out.mono ?_; rintro e w1 ⟨rfl, hb1⟩)
    | (go_at_call 17; refine (HR.out _).mono ?_; rintro e w2 ⟨rfl, hb2⟩))
  go_ret
  exact ⟨by rw [← HE.out]; rfl, belowNext hb1 hb2⟩

theorem hPoint (s : ByteArray) (a : Option Addr) (cap : Nat) (l : List UInt8) (w : World) (hl : RdB w.heap.size w a l) (hcap : l.length ≤ cap) (hc2 : cap ≤ maxLen) (hnil : a = none → cap = 0) (hs : s.size ≤ 600) (hn : l.length ≤ 70368744177000) :
    Calls Tryd.prog 9 #[.string s, .slice a l.length cap] w fun e w' => e = .returned (.int .i64 (ptS (tagS s.data.toList l) : Nat)) ∧ Below w.heap.size w w' := by
  have HT := Lib.hid (refTagged s a cap l w hl hcap hc2 hnil hs hn)
  have hx := tagS_len32 s.data.toList l
  have hb := ptX_bd (tagS s.data.toList l)
  have HR : Hid (∀ w, Calls Tryd.prog 17 #[.agg (bvA (tagS s.data.toList l)), .int .i64 4611686018427377336] w fun e w' => e = .returned (.int .i64 (restD 4611686018427377336 (tagS s.data.toList l) : Nat)) ∧ Below w.heap.size w w') := Lib.hid fun w => rest_any 4611686018427377336 (.inl rfl) _ hx w
  have he := ptX_eq (tagS s.data.toList l)
  have HP := Lib.hid (fun w => grprodP (ptX (tagS s.data.toList l)) (ptX (tagS s.data.toList l)) (by omega) (by omega) w)
  rw [show ptX (tagS s.data.toList l) * ptX (tagS s.data.toList l) % 4611686018427377339 = ptS (tagS s.data.toList l) from rfl] at HP
  generalize tagS s.data.toList l = x at *
  generalize restD 4611686018427377336 x = r at *
  generalize ptX x = y at *
  generalize ptS x = z at *
  have c1 := wrapI (2 + (r : Int)) (by omega) (by omega)
  have HE : Hid (2 + (r : Int) = (y : Int)) := Lib.hid (by omega)
  clear he hl hnil
  go_enter Tryd.func9, Tryd.ntmps9
  go_wp2_with (first
    | (go_at_call 18; refine HT.out.mono ?_; rintro e w1 ⟨rfl, hb1⟩)
    | (go_at_call 17; refine (HR.out _).mono ?_; rintro e w2 ⟨rfl, hb2⟩)
    | (go_at_call 20; rw [HE.out]; refine (HP.out _).mono ?_; rintro e w3 ⟨rfl, hw⟩; rw [hw]; clear hw w3))
  go_ret
  exact ⟨rfl, belowNext hb1 hb2⟩

set_option maxRecDepth 100000 in
set_option maxHeartbeats 4000000 in
theorem hash_walk (s : ByteArray) (a : Option Addr) (cap : Nat) (l : List UInt8) (w : World) (hs : s.size ≤ maxLen) (hT : Tab w) (hl : RdB w.heap.size w a l) (hcap : l.length ≤ cap) (hc2 : cap ≤ maxLen) (hnil : a = none → cap = 0) :
    Calls Tryd.prog 3 #[.string s, .slice a l.length cap] w fun e w' => e = .returned (.bool true) ∧ Below w.heap.size w w' := by
  have hm := hl.1
  unfold maxLen at hm hs
  by_cases h1 : 300 < s.size
  · have f1 : decide (300 < s.size) = true := decide_eq_true h1
    have f2 : decide (300 < (s.size : Int)) = true := decide_eq_true (by omega)
    clear hl hT hnil
    have HB := Below.refl w.heap.size w
    go_enter Tryd.func3, Tryd.ntmps3
    go_wp2_with (first
      | (go_at_call 5; with_reducible refine (gsane_any _).mono ?_; rintro e w1 ⟨rfl, hb⟩; replace HB := belowNext HB hb; clear hb))
    go_ret
    exact ⟨rfl, HB⟩
  have f1 : decide (300 < s.size) = false := decide_eq_false h1
  have f2 : decide (300 < (s.size : Int)) = false := decide_eq_false (by omega)
  by_cases h2 : 1000 < l.length
  · have f3 : decide (1000 < l.length) = true := decide_eq_true h2
    have f4 : decide (1000 < (l.length : Int)) = true := decide_eq_true (by omega)
    clear hl hT hnil hc2
    generalize l.length = n at *
    have HB := Below.refl w.heap.size w
    go_enter Tryd.func3, Tryd.ntmps3
    go_wp2_with (first
      | (go_at_call 5; with_reducible refine (gsane_any _).mono ?_; rintro e w1 ⟨rfl, hb⟩; replace HB := belowNext HB hb; clear hb))
    go_ret
    exact ⟨rfl, HB⟩
  have f3 : decide (1000 < l.length) = false := decide_eq_false h2
  have f4 : decide (1000 < (l.length : Int)) = false := decide_eq_false (by omega)
  have k1 := fun (w' : World) (h : Below w.heap.size w w') => gScalar s a cap l w' (hT.below h hT.lt) ((hl.below h).mono h.size) hcap hc2 (by omega) (by omega)
  have k2 := fun (w' : World) (h : Below w.heap.size w w') => hScalar s a cap l w' ((hl.below h).mono h.size) hcap hc2 hnil (by omega) (by omega)
  have k3 := fun (w' : World) (h : Below w.heap.size w w') => gPoint s a cap l w' (hT.below h hT.lt) ((hl.below h).mono h.size) hcap hc2 (by omega) (by omega)
  have k4 := fun (w' : World) (h : Below w.heap.size w w') => hPoint s a cap l w' ((hl.below h).mono h.size) hcap hc2 hnil (by omega) (by omega)
  generalize scalS (tagS s.data.toList l) = x at *
  generalize ptS (tagS s.data.toList l) = y at *
  clear hl hT hnil hc2 hcap
  generalize l.length = n at *
  have HB := Below.refl w.heap.size w
  go_enter Tryd.func3, Tryd.ntmps3
  go_wp2_with (first
    | (go_at_call 5; with_reducible refine (gsane_any _).mono ?_; rintro e w1 ⟨rfl, hb⟩; replace HB := belowNext HB hb; clear hb)
    | (go_at_call 6; with_reducible refine (k1 _ HB).mono ?_; rintro e w1 ⟨rfl, hb⟩; replace HB := belowNext HB hb; clear hb)
    | (go_at_call 7; with_reducible refine (k2 _ HB).mono ?_; rintro e w1 ⟨rfl, hb⟩; replace HB := belowNext HB hb; clear hb)
    | (go_at_call 8; with_reducible refine (k3 _ HB).mono ?_; rintro e w1 ⟨rfl, hb⟩; replace HB := belowNext HB hb; clear hb)
    | (go_at_call 9; with_reducible refine (k4 _ HB).mono ?_; rintro e w1 ⟨rfl, hb⟩; replace HB := belowNext HB hb; clear hb))
  go_ret
  exact ⟨rfl, HB⟩

set_option maxRecDepth 100000 in
set_option maxHeartbeats 4000000 in
theorem determined_walk (s : ByteArray) (t : ByteArray) (a : Option Addr) (cap : Nat) (l : List UInt8) (b : Option Addr) (cap2 : Nat) (m : List UInt8) (w : World) (hs : s.size < 140737488355328) (ht : t.size < 140737488355328) (hT : Tab w)
    (hl : RdB w.heap.size w a l) (hcap : l.length ≤ cap) (hc2 : cap ≤ maxLen) (hln : l.length < 140737488355328) (hm : RdB w.heap.size w b m) (hcapm : m.length ≤ cap2) (hc2m : cap2 ≤ maxLen) (hmn : m.length < 140737488355328) :
    Calls Tryd.prog 4 #[.string s, .string t, .slice a l.length cap, .slice b m.length cap2] w fun e w' => e = .returned (.bool true) ∧ Below w.heap.size w w' := by
  have c1 := wrapI ((s.size : Int) + t.size) (by omega) (by omega)
  have c2 := wrapI ((l.length : Int) + m.length) (by omega) (by omega)
  by_cases h1 : 300 < s.size + t.size
  · have f2 : decide (300 < (s.size : Int) + t.size) = true := decide_eq_true (by omega)
    clear hl hm hT
    have HB := Below.refl w.heap.size w
    go_enter Tryd.func4, Tryd.ntmps4
    go_wp2_with (first
      | (go_at_call 5; with_reducible refine (gsane_any _).mono ?_; rintro e w1 ⟨rfl, hb⟩; replace HB := belowNext HB hb; clear hb))
    go_ret
    exact ⟨rfl, HB⟩
  have f2 : decide (300 < (s.size : Int) + t.size) = false := decide_eq_false (by omega)
  by_cases h2 : 1000 < l.length + m.length
  · have f4 : decide (1000 < (l.length : Int) + m.length) = true := decide_eq_true (by omega)
    clear hl hm hT hc2 hc2m
    generalize l.length = n at *
    generalize m.length = n2 at *
    have HB := Below.refl w.heap.size w
    go_enter Tryd.func4, Tryd.ntmps4
    go_wp2_with (first
      | (go_at_call 5; with_reducible refine (gsane_any _).mono ?_; rintro e w1 ⟨rfl, hb⟩; replace HB := belowNext HB hb; clear hb))
    go_ret
    exact ⟨rfl, HB⟩
  have f4 : decide (1000 < (l.length : Int) + m.length) = false := decide_eq_false (by omega)
  have k1 := fun (w' : World) (h : Below w.heap.size w w') => gScalar s a cap l w' (hT.below h hT.lt) ((hl.below h).mono h.size) hcap hc2 (by omega) (by omega)
  have k2 := fun (w' : World) (h : Below w.heap.size w w') => gScalar t b cap2 m w' (hT.below h hT.lt) ((hm.below h).mono h.size) hcapm hc2m (by omega) (by omega)
  have k3 := fun (w' : World) (h : Below w.heap.size w w') => gPoint s a cap l w' (hT.below h hT.lt) ((hl.below h).mono h.size) hcap hc2 (by omega) (by omega)
  have k4 := fun (w' : World) (h : Below w.heap.size w w') => gPoint t b cap2 m w' (hT.below h hT.lt) ((hm.below h).mono h.size) hcapm hc2m (by omega) (by omega)
  have k5 := fun (w' : World) (h : Below w.heap.size w w') => Tagged_any s a cap l w' (hT.below h hT.lt) ((hl.below h).mono h.size) hcap hc2 (by omega) (by omega)
  have k6 := fun (w' : World) (h : Below w.heap.size w w') => Tagged_any t b cap2 m w' (hT.below h hT.lt) ((hm.below h).mono h.size) hcapm hc2m (by omega) (by omega)
  have hx1 := tagS_len32 s.data.toList l
  have hx2 := tagS_len32 t.data.toList m
  have hsb := scalS_bd (tagS s.data.toList l)
  have k7 := fun w => gCheck_ok (ptS (tagS s.data.toList l) : Nat) (isEl_of (ptS_lt _) (ptS_el _)) w
  have hp1 := ptS_ne (tagS s.data.toList l)
  clear hl hm hT hc2 hc2m hcap hcapm
  by_cases hxx : tagS s.data.toList l = tagS t.data.toList m
  · rw [← hxx] at k2 k4 k6
    have he := equal_same _ hx1
    clear hxx hx2
    generalize tagS s.data.toList l = x at *
    generalize scalS x = y at *
    generalize ptS x = z at *
    generalize l.length = n at *
    generalize m.length = n2 at *
    have g1 : decide ((y : Int) < 1) = false := decide_eq_false (by omega)
    have g2 : decide ((2305843009213688669 : Int) ≤ (y : Int)) = false := decide_eq_false (by omega)
    have g3 : ((z : Int) == 1) = false := by simp; omega
    have HB := Below.refl w.heap.size w
    go_enter Tryd.func4, Tryd.ntmps4
    go_wp2_with (first
      | (go_at_call 5; with_reducible refine (gsane_any _).mono ?_; rintro e w1 ⟨rfl, hb⟩; replace HB := belowNext HB hb; clear hb)
      | (go_at_call 6; with_reducible refine (k1 _ HB).mono ?_; rintro e w1 ⟨rfl, hb⟩; replace HB := belowNext HB hb; clear hb)
      | (go_at_call 8; with_reducible refine (k3 _ HB).mono ?_; rintro e w1 ⟨rfl, hb⟩; replace HB := belowNext HB hb; clear hb)
      | (go_at_call 10; with_reducible refine (k7 _).mono ?_; rintro e w1 ⟨rfl, hb⟩; replace HB := belowNext HB hb; clear hb)
      | (go_at_call 11; with_reducible refine (k5 _ HB).mono ?_; rintro e w1 ⟨rfl, hb⟩; replace HB := belowNext HB hb; clear hb)
      | (go_at_call 11; with_reducible refine (k6 _ HB).mono ?_; rintro e w1 ⟨rfl, hb⟩; replace HB := belowNext HB hb; clear hb)
      | (go_at_call 6; with_reducible refine (k2 _ HB).mono ?_; rintro e w1 ⟨rfl, hb⟩; replace HB := belowNext HB hb; clear hb)
      | (go_at_call 8; with_reducible refine (k4 _ HB).mono ?_; rintro e w1 ⟨rfl, hb⟩; replace HB := belowNext HB hb; clear hb))
    go_ret
    exact ⟨rfl, HB⟩
  · have he : ∀ W, (Op.equalIn 10000 29 (.agg (bvA (tagS s.data.toList l))) (.agg (bvA (tagS t.data.toList m)))).run Tryd.prog W = .ok false W := fun W => by
      rw [equal_bv _ _ hx1 hx2, show deq (tagS s.data.toList l) (tagS t.data.toList m) = false from by unfold deq; simpa using hxx]
    clear hxx hx1 hx2 k2 k4
    generalize tagS s.data.toList l = x at *
    generalize tagS t.data.toList m = x2 at *
    generalize scalS x = y at *
    generalize ptS x = z at *
    generalize l.length = n at *
    generalize m.length = n2 at *
    have g1 : decide ((y : Int) < 1) = false := decide_eq_false (by omega)
    have g2 : decide ((2305843009213688669 : Int) ≤ (y : Int)) = false := decide_eq_false (by omega)
    have g3 : ((z : Int) == 1) = false := by simp; omega
    have HB := Below.refl w.heap.size w
    go_enter Tryd.func4, Tryd.ntmps4
    go_wp2_with (first
      | (go_at_call 5; with_reducible refine (gsane_any _).mono ?_; rintro e w1 ⟨rfl, hb⟩; replace HB := belowNext HB hb; clear hb)
      | (go_at_call 6; with_reducible refine (k1 _ HB).mono ?_; rintro e w1 ⟨rfl, hb⟩; replace HB := belowNext HB hb; clear hb)
      | (go_at_call 8; with_reducible refine (k3 _ HB).mono ?_; rintro e w1 ⟨rfl, hb⟩; replace HB := belowNext HB hb; clear hb)
      | (go_at_call 10; with_reducible refine (k7 _).mono ?_; rintro e w1 ⟨rfl, hb⟩; replace HB := belowNext HB hb; clear hb)
      | (go_at_call 11; with_reducible refine (k5 _ HB).mono ?_; rintro e w1 ⟨rfl, hb⟩; replace HB := belowNext HB hb; clear hb)
      | (go_at_call 11; with_reducible refine (k6 _ HB).mono ?_; rintro e w1 ⟨rfl, hb⟩; replace HB := belowNext HB hb; clear hb))
    go_ret
    exact ⟨rfl, HB⟩
end Go.Proofs.YtmeoicfeiamkmaaDoor
