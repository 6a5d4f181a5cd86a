/-
  The reference's Reader: what memory holds of it; contracts of next and number.
-/
import Derived.Test.YtihllbblehjhlaaNmw
import Derived.Test.YtihllbblehjhlaaVal
import Derived.BigQuiet
import Derived.Deep.QuietTactic
namespace Go.Proofs.Ytihllbblehjhlaa
open Go.RowKit

/-- The reader at block R: all bytes, the place, whether it is bad. -/
def RS (Bd R : Nat) (w : World) (full : List UInt8) (p : Nat) (bad : Bool) : Prop :=
  Bd ≤ R ∧ (∀ j, w.frozen? ⟨R, j, none⟩ = false) ∧ ∃ a cap, w.cell? ⟨R, 0, none⟩ = some (.slice a full.length cap) ∧ w.cell? ⟨R, 1, none⟩ = some (.int .i64 (p : Int)) ∧ w.cell? ⟨R, 2, none⟩ = some (.bool bad) ∧
    p ≤ full.length ∧ full.length ≤ cap ∧ cap ≤ maxLen ∧ RdB Bd w a full
theorem RS.lt {Bd R : Nat} {w : World} {l : List UInt8} {p : Nat} {bad : Bool} (h : RS Bd R w l p bad) : R < w.heap.size := by
  obtain ⟨h0, h1, a, cap, h2, h3⟩ := h
  exact World.block_lt_of_cell? w _ h2
theorem RS.below {Bd R B : Nat} {w w' : World} {l : List UInt8} {p : Nat} {bad : Bool} (h : RS Bd R w l p bad) (hRB : R < B) (hb : Below B w w') : RS Bd R w' l p bad := by
  obtain ⟨h0, h1, a, cap, h2, h3, h4, h5, h6, h7, h8⟩ := h
  exact ⟨h0, fun j => (hb.frozen (p := ⟨R, j, none⟩) hRB).trans (h1 j), a, cap, (hb.cell (p := ⟨R, 0, none⟩) hRB).trans h2, (hb.cell (p := ⟨R, 1, none⟩) hRB).trans h3, (hb.cell (p := ⟨R, 2, none⟩) hRB).trans h4, h5, h6, h7, h8.below (hb.mono (by omega))⟩
theorem RS.same {Bd R : Nat} {w w' : World} {l : List UInt8} {p : Nat} {bad : Bool} (h : RS Bd R w l p bad) (hb : Below w.heap.size w w') : RS Bd R w' l p bad := h.below h.lt hb
/-- The place is set. -/
theorem RS.setAt {Bd R : Nat} {w : World} {l : List UInt8} {p q : Nat} {bad : Bool} (h : RS Bd R w l p bad) (hq : q ≤ l.length) : RS Bd R (w.setCell ⟨R, 1, none⟩ (.int .i64 (q : Int))) l q bad := by
  obtain ⟨h0, h1, a, cap, h2, h3, h4, h5, h6, h7, h8⟩ := h
  exact ⟨h0, fun j => by simpa using h1 j, a, cap, by simpa [go_sem] using h2, World.cell?_setCell_same _ _ _ h3, by simpa [go_sem] using h4, hq, h6, h7, h8.below ((Below.refl _ _).setCell (by simpa using h0) _)⟩
theorem RS.setBad {Bd R : Nat} {w : World} {l : List UInt8} {p : Nat} {bad : Bool} (h : RS Bd R w l p bad) : RS Bd R (w.setCell ⟨R, 2, none⟩ (.bool true)) l p true := by
  obtain ⟨h0, h1, a, cap, h2, h3, h4, h5, h6, h7, h8⟩ := h
  exact ⟨h0, fun j => by simpa using h1 j, a, cap, by simpa [go_sem] using h2, by simpa [go_sem] using h3, World.cell?_setCell_same _ _ _ h4, h5, h6, h7, h8.below ((Below.refl _ _).setCell (by simpa using h0) _)⟩
theorem RS.drewN {Bd R : Nat} {w : World} {l : List UInt8} {p : Nat} {bad : Bool} (h : RS Bd R w l p bad) (n : Nat) : RS Bd R (w.drewN n) l p bad := h
theorem upd_drewN (R : Nat) (w : World) (n : Nat) : w.grownBy (w.drewN n) (some R) := ⟨rfl, rfl, rfl, Nat.le_refl _, fun _ _ _ => rfl⟩
theorem upd_dN {R : Nat} {w w2 : World} (h : w.grownBy w2 (some R)) (n : Nat) : w.grownBy (w2.drewN n) (some R) := upd_trans h (upd_drewN R w2 n)
theorem upd_R {R j : Nat} {w w2 : World} (h : w.grownBy w2 (some R)) (v : Value) : w.grownBy (w2.setCell ⟨R, j, none⟩ v) (some R) := upd_cell h rfl v

set_option maxRecDepth 100000 in
set_option maxHeartbeats 800000 in
theorem next_end (Bd R : Nat) (l : List UInt8) (w : World) (h : RS Bd R w l l.length false) :
    Calls Try.prog 43 #[.pointer (some ⟨R, 0, none⟩)] w fun e w' => e = .returned (.int .u8 0) ∧ RS Bd R w' l l.length true ∧ w.grownBy w' (some R) := by
  have HR := Lib.hid h
  obtain ⟨h0, h1, a, cap, h2, h3, h4, h5, h6, h7, h8⟩ := h
  clear h8 h5
  unfold maxLen at h7
  have f2 := h1 2
  go_enter Try.func43, Try.ntmps43
  go_wp2_with fail
  go_quiet (fail)
  go_wp2
  go_ret
  exact ⟨rfl, HR.out.drewN _ |>.setBad, upd_R (upd_drewN ..) _⟩

set_option maxRecDepth 100000 in
set_option maxHeartbeats 800000 in
theorem next_some (Bd R p : Nat) (c : UInt8) (l : List UInt8) (w : World) (h : RS Bd R w l p false) (hp : p < l.length) (hc : l[p]? = some c) :
    Calls Try.prog 43 #[.pointer (some ⟨R, 0, none⟩)] w fun e w' => e = .returned (bv c) ∧ RS Bd R w' l (p + 1) false ∧ w.grownBy w' (some R) := by
  have HR := Lib.hid h
  obtain ⟨h0, h1, a, cap, h2, h3, h4, h5, h6, h7, h8⟩ := h
  obtain ⟨b, o, rfl, hb, hcell⟩ : ∃ b o, a = some ⟨b, o, none⟩ ∧ b < Bd ∧ w.cell? ⟨b, o + p, none⟩ = some (bv c) := by
    rcases h8.2 with h9 | ⟨b, o, ha, hb, hcc⟩
    · subst h9; simp at hp
    · refine ⟨b, o, ha, hb, ?_⟩
      rw [hcc p hp]
      rw [List.getElem?_eq_getElem hp] at hc
      injection hc with hc; rw [hc]
  clear h8
  unfold maxLen at h7
  have f1 := h1 1
  go_enter Try.func43, Try.ntmps43
  go_wp2_with fail
  go_quiet (fail)
  go_wp2_with fail
  go_quiet (fail)
  go_wp2
  go_ret
  exact ⟨rfl, ((HR.out.drewN _).setAt (q := p + 1) (by omega)).drewN _, upd_dN (upd_R (upd_drewN ..) _) _⟩

/-- The reader, good, with r left of full. -/
def RL (Bd R : Nat) (w : World) (full r : List UInt8) : Prop := ∃ p, full.drop p = r ∧ p ≤ full.length ∧ RS Bd R w full p false
/-- The reader, bad. -/
def RX (Bd R : Nat) (w : World) (full : List UInt8) : Prop := ∃ p, RS Bd R w full p true
theorem RS.le {Bd R : Nat} {w : World} {l : List UInt8} {p : Nat} {bad : Bool} (h : RS Bd R w l p bad) : p ≤ l.length := by
  obtain ⟨h0, h1, a, cap, h2, h3, h4, h5, h6⟩ := h
  exact h5
theorem RL.lt {Bd R : Nat} {w : World} {l r : List UInt8} (h : RL Bd R w l r) : R < w.heap.size := by
  obtain ⟨p, _, _, h⟩ := h
  exact h.lt
theorem RL.below {Bd R B : Nat} {w w' : World} {l r : List UInt8} (h : RL Bd R w l r) (hRB : R < B) (hb : Below B w w') : RL Bd R w' l r := by
  obtain ⟨p, h1, h2, h⟩ := h
  exact ⟨p, h1, h2, h.below hRB hb⟩
theorem RX.below {Bd R B : Nat} {w w' : World} {l : List UInt8} (h : RX Bd R w l) (hRB : R < B) (hb : Below B w w') : RX Bd R w' l := by
  obtain ⟨p, h⟩ := h
  exact ⟨p, h.below hRB hb⟩

theorem next_bad (Bd R : Nat) (full : List UInt8) (w : World) (h : RL Bd R w full []) :
    Calls Try.prog 43 #[.pointer (some ⟨R, 0, none⟩)] w fun e w' => e = .returned (.int .u8 0) ∧ RX Bd R w' full ∧ w.grownBy w' (some R) := by
  obtain ⟨p, h1, h2, h⟩ := h
  have h3 : full.length ≤ p := by simpa using h1
  obtain rfl : p = full.length := by omega
  refine (next_end Bd R full w h).mono ?_
  rintro e w' ⟨rfl, k1, k2⟩
  exact ⟨rfl, ⟨_, k1⟩, k2⟩
theorem next_ok (Bd R : Nat) (c : UInt8) (full r : List UInt8) (w : World) (h : RL Bd R w full (c :: r)) :
    Calls Try.prog 43 #[.pointer (some ⟨R, 0, none⟩)] w fun e w' => e = .returned (bv c) ∧ RL Bd R w' full r ∧ w.grownBy w' (some R) := by
  obtain ⟨p, h1, h2, h⟩ := h
  have h3 : (full.drop p).length = (c :: r).length := by rw [h1]
  simp only [List.length_drop, List.length_cons] at h3
  have h4 : full[p]? = some c := by
    have h5 : (full.drop p)[0]? = some c := by rw [h1]; rfl
    simpa using h5
  refine (next_some Bd R p c full w h (by omega) h4).mono ?_
  rintro e w' ⟨rfl, k1, k2⟩
  refine ⟨rfl, ⟨p + 1, ?_, by omega, k1⟩, k2⟩
  rw [← List.drop_drop, h1]; rfl

/-- What reading a number comes to. -/
def RnPost (Bd R : Nat) (w : World) (full : List UInt8) (res : Option (Nat × List UInt8)) (e : Ending) (w' : World) : Prop :=
  (∃ y r, res = some (y, r) ∧ e = .returned (.int .u64 (y : Int)) ∧ RL Bd R w' full r ∧ w.grownBy w' (some R)) ∨ (res = none ∧ e = .returned (.int .u64 0) ∧ RX Bd R w' full ∧ w.grownBy w' (some R))
theorem rn_ret {Bd R : Nat} {w w' : World} {full : List UInt8} {res : Option (Nat × List UInt8)} {x : Int} {y : Nat} {r : List UInt8} (h : res = some (y, r)) (hx : x = (y : Int)) (h1 : RL Bd R w' full r) (h2 : w.grownBy w' (some R)) : RnPost Bd R w full res (.returned (.int .u64 x)) w' := by
  subst hx; exact .inl ⟨y, r, h, rfl, h1, h2⟩
theorem add_digit (u d j : Nat) (hu : u < 128 ^ j) (hd : d < 128) (hj : j < 9) :
    IntKind.u64.wrap ((u : Int) + IntKind.u64.wrap ((d : Int) % 128 * 2 ^ (7 * j))) = ((u + 128 ^ j * d : Nat) : Int) := by
  have e : 128 ^ j = 2 ^ (7 * j) := by rw [Nat.pow_mul]
  have h1 : 2 ^ (7 * j) ≤ 2 ^ 56 := Nat.pow_le_pow_right (by decide) (by omega)
  have h2 : d * 2 ^ (7 * j) ≤ 127 * 2 ^ 56 := Nat.mul_le_mul (by omega) h1
  have h3 : ((d : Int) % 128 * 2 ^ (7 * j)) = ((d * 2 ^ (7 * j) : Nat) : Int) := by
    rw [show (d : Int) % 128 = (d : Int) from by omega]; simp
  rw [e] at hu
  rw [h3, e, Nat.mul_comm (2 ^ (7 * j)) d, IntKind.wrap_u64, IntKind.wrap_u64]; omega

/-- The reader's field Bad, as the walk reads it. -/
theorem RL.bad {Bd R : Nat} {w : World} {l r : List UInt8} (h : RL Bd R w l r) : w.cell? ⟨R, 2, none⟩ = some (.bool false) := by
  obtain ⟨p, _, _, _, _, _, _, _, _, h, _⟩ := h; exact h
theorem RX.bad {Bd R : Nat} {w : World} {l : List UInt8} (h : RX Bd R w l) : w.cell? ⟨R, 2, none⟩ = some (.bool true) := by
  obtain ⟨p, _, _, _, _, _, _, h, _⟩ := h; exact h
theorem RX.frozen {Bd R : Nat} {w : World} {l : List UInt8} (h : RX Bd R w l) (j : Nat) : w.frozen? ⟨R, j, none⟩ = false := by
  obtain ⟨p, _, h, _⟩ := h; exact h j
theorem RL.frozen {Bd R : Nat} {w : World} {l r : List UInt8} (h : RL Bd R w l r) (j : Nat) : w.frozen? ⟨R, j, none⟩ = false := by
  obtain ⟨p, _, _, _, h, _⟩ := h; exact h j
theorem RL.setBad {Bd R : Nat} {w : World} {l r : List UInt8} (h : RL Bd R w l r) : RX Bd R (w.setCell ⟨R, 2, none⟩ (.bool true)) l := by
  obtain ⟨p, _, _, h⟩ := h; exact ⟨p, h.setBad⟩
theorem RX.setBad {Bd R : Nat} {w : World} {l : List UInt8} (h : RX Bd R w l) : RX Bd R (w.setCell ⟨R, 2, none⟩ (.bool true)) l := by
  obtain ⟨p, h⟩ := h; exact ⟨p, h.setBad⟩

set_option maxRecDepth 100000 in
set_option maxHeartbeats 800000 in
theorem rnumber_any (Bd R : Nat) (full l : List UInt8) (w : World) (h : RL Bd R w full l) :
    Calls Try.prog 44 #[.pointer (some ⟨R, 0, none⟩)] w (RnPost Bd R w full (dnum l)) := by
  have H0 : Hid (dnAt 0 0 l = dnum l) := by show _ = _; simp [dnAt, dnum]
  have HR := Lib.hid h
  clear h
  go_enter Try.func44, Try.ntmps44
  go_wp2
  go_loopw [4, 3] (fun i x wr => ∃ (j u : Nat) (l' : List UInt8), i = .int .i64 j ∧ x = .int .u64 u ∧ j ≤ 9 ∧ Hid (u < 128 ^ j) ∧ Hid (RL Bd R wr full l') ∧ Hid (dnAt j u l' = dnum l) ∧ w.grownBy wr (some R)) (fun i _ _ => 10 - (intOf i).toNat)
  case atStart => exact ⟨0, 0, l, rfl, rfl, by omega, by show _ < _; simp, HR, H0, ⟨rfl, rfl, rfl, Nat.le_refl _, fun _ _ _ => rfl⟩⟩
  case round =>
    obtain ⟨j, u, l', rfl, rfl, hj, HU, HRd, HD, hg⟩ := hrel
    have HG := Lib.hid hg
    clear hg
    have hbad := HRd.out.bad
    cases l' with
    | nil =>
      have HN : Hid (dnum l = none) := by show _ = _; rw [← HD.out]; unfold dnAt; cases (9 - j) <;> rfl
      by_cases hj0 : 0 < j
      · have hj0' : (0 : Int) < (j : Int) := by omega
        have hd0 : decide ((0 : Int) < (j : Int)) = true := by simpa using hj0'
        go_wp2_with (go_at_call 43; refine (next_bad Bd R full _ HRd.out).mono ?_; rintro e w1 ⟨rfl, hrx, hg1⟩; have HX := Lib.hid hrx; have HG1 := Lib.hid (upd_trans HG.out hg1); have hfz := hrx.frozen 2; have hb2 := hrx.bad; clear hrx hg1)
        all_goals (go_ret; exact .inr ⟨HN.out, rfl, HX.out.setBad, upd_R HG1.out _⟩)
      · obtain rfl : j = 0 := by omega
        obtain rfl : u = 0 := by have := HU.out; omega
        go_wp2_with (go_at_call 43; refine (next_bad Bd R full _ HRd.out).mono ?_; rintro e w1 ⟨rfl, hrx, hg1⟩; have HX := Lib.hid hrx; have HG1 := Lib.hid (upd_trans HG.out hg1); have hfz := hrx.frozen 2; have hb2 := hrx.bad; clear hrx hg1)
        all_goals (go_ret; exact .inr ⟨HN.out, rfl, HX.out, HG1.out⟩)
    | cons c r =>
      have hcl := c.toNat_lt
      by_cases h1 : j = 9 ∧ 1 < c.toNat
      · obtain ⟨h1, h2⟩ := h1
        have HN : Hid (dnum l = none) := by show _ = _; rw [← HD.out]; unfold dnAt; rw [h1]; simp only [Nat.sub_self, dn]; rw [if_pos h2]; rfl
        subst h1
        have hcg : (1 : Int) < (c.toNat : Int) := by omega
        go_wp2_with (go_at_call 43; refine (next_ok Bd R c full r _ HRd.out).mono ?_; rintro e w1 ⟨rfl, hrx, hg1⟩; have HX := Lib.hid hrx; have HG1 := Lib.hid (upd_trans HG.out hg1); have hfz := hrx.frozen 2; have hb2 := hrx.bad; unfold bv; clear hrx hg1)
        all_goals (go_ret; exact .inr ⟨HN.out, rfl, HX.out.setBad, upd_R HG1.out _⟩)
      by_cases h3 : c.toNat < 128
      · by_cases h4 : c.toNat = 0 ∧ 0 < j
        · obtain ⟨h4, h5⟩ := h4
          have HN : Hid (dnum l = none) := by
            show _ = _; rw [← HD.out]; unfold dnAt
            have hb : (j == 0) = false := by simp; omega
            rw [hb]
            cases (9 - j) with
            | zero => simp only [dn]; rw [if_neg (by omega), if_pos ⟨h4, by trivial⟩]; rfl
            | succ f => simp only [dn]; rw [if_pos h3, if_pos ⟨h4, by trivial⟩]; rfl
          have hcg : ((c.toNat : Int)) = 0 := by omega
          have hc0 : ((c.toNat : Int) == 0) = true := by simp [h4]
          have hc1 : ¬ (1 : Int) < (c.toNat : Int) := by omega
          have hj0 : (0 : Int) < (j : Int) := by omega
          have hd0 : decide ((0 : Int) < (j : Int)) = true := by simpa using hj0
          go_wp2_with (go_at_call 43; refine (next_ok Bd R c full r _ HRd.out).mono ?_; rintro e w1 ⟨rfl, hrx, hg1⟩; have HX := Lib.hid hrx; have HG1 := Lib.hid (upd_trans HG.out hg1); have hfz := hrx.frozen 2; have hb2 := hrx.bad; unfold bv; clear hrx hg1)
          all_goals (go_ret; exact .inr ⟨HN.out, rfl, HX.out.setBad, upd_R HG1.out _⟩)
        · have HN : Hid (dnum l = some (u + 128 ^ j * c.toNat, r)) := by
            show _ = _; rw [← HD.out]; unfold dnAt
            have hb : ¬ (c.toNat = 0 ∧ (j == 0) = false) := by
              rintro ⟨x1, x2⟩; exact h4 ⟨x1, by simp at x2; omega⟩
            cases hf : (9 - j) with
            | zero => simp only [dn]; rw [if_neg (by omega), if_neg hb]; rfl
            | succ f => simp only [dn]; rw [if_pos h3, if_neg hb]; rfl
          have hcc : (c.toNat : Int) < 128 := by omega
          by_cases h9 : j = 9
          · subst h9
            have hc1 : ¬ (1 : Int) < (c.toNat : Int) := by omega
            have hc0 : ((c.toNat : Int) == 0) = false := by simp; intro h; exact h4 ⟨by omega, by omega⟩
            go_wp2_with (go_at_call 43; refine (next_ok Bd R c full r _ HRd.out).mono ?_; rintro e w1 ⟨rfl, hrx, hg1⟩; have HX := Lib.hid hrx; have HG1 := Lib.hid (upd_trans HG.out hg1); have hfz := hrx.frozen 2; have hb2 := hrx.bad; unfold bv; clear hrx hg1)
            all_goals
              go_ret
              refine rn_ret HN.out ?_ HX.out HG1.out
              have h1 := HU.out
              rw [IntKind.wrap_u64]
              omega
          · have h9' : ((j : Int) == 9) = false := by simp; omega
            have h4' : 0 < j → ((c.toNat : Int) == 0) = false := by intro h; simp; intro h'; exact h4 ⟨by omega, h⟩
            by_cases hj0 : 0 < j
            · have hc0 := h4' hj0
              go_wp2_with (go_at_call 43; refine (next_ok Bd R c full r _ HRd.out).mono ?_; rintro e w1 ⟨rfl, hrx, hg1⟩; have HX := Lib.hid hrx; have HG1 := Lib.hid (upd_trans HG.out hg1); have hfz := hrx.frozen 2; have hb2 := hrx.bad; unfold bv; clear hrx hg1)
              all_goals
                go_ret
                exact rn_ret HN.out (add_digit u c.toNat j HU.out (by omega) (by omega)) HX.out HG1.out
            · obtain rfl : j = 0 := by omega
              go_wp2_with (go_at_call 43; refine (next_ok Bd R c full r _ HRd.out).mono ?_; rintro e w1 ⟨rfl, hrx, hg1⟩; have HX := Lib.hid hrx; have HG1 := Lib.hid (upd_trans HG.out hg1); have hfz := hrx.frozen 2; have hb2 := hrx.bad; unfold bv; clear hrx hg1)
              all_goals
                go_ret
                refine rn_ret HN.out ?_ HX.out HG1.out
                have h1 := HU.out
                rw [IntKind.wrap_u64]
                omega
      · have hj8 : j < 9 := by omega
        have HN : Hid (dnAt (j + 1) (u + 128 ^ j * (c.toNat - 128)) r = dnum l) := by
          show _ = _; rw [← HD.out]; unfold dnAt
          rw [show 9 - j = (9 - (j + 1)) + 1 from by omega, show (j + 1 == 0) = false from by simp]
          simp only [dn]; rw [if_neg h3]
          cases dn (9 - (j + 1)) false r with
          | none => rfl
          | some x =>
            simp only [Option.map_some]
            congr 2
            rw [Nat.pow_succ, Nat.mul_add, Nat.mul_assoc, Nat.add_assoc]
        have h9' : ((j : Int) == 9) = false := by simp; omega
        have hcc : ¬ (c.toNat : Int) < 128 := by omega
        have HU' : Hid (u + 128 ^ j * (c.toNat - 128) < 128 ^ (j + 1)) := by
          show _ < _
          have h1 := HU.out
          have h2 : 128 ^ j * (c.toNat - 128) ≤ 128 ^ j * 127 := Nat.mul_le_mul (Nat.le_refl _) (by omega)
          rw [Nat.pow_succ]; omega
        have hc00 : ((c.toNat : Int) == 0) = false := by simp; omega
        go_wp2_with (go_at_call 43; refine (next_ok Bd R c full r _ HRd.out).mono ?_; rintro e w1 ⟨rfl, hrx, hg1⟩; have HX := Lib.hid hrx; have HG1 := Lib.hid (upd_trans HG.out hg1); have hfz := hrx.frozen 2; have hb2 := hrx.bad; unfold bv; clear hrx hg1)
        all_goals
          have h1 := add_digit u (c.toNat - 128) j HU.out (by omega) hj8
          rw [show (((c.toNat - 128 : Nat) : Int)) % 128 = (c.toNat : Int) % 128 from by omega] at h1
          exact ⟨⟨j + 1, u + 128 ^ j * (c.toNat - 128), r, by go_num, by rw [h1], by omega, HU', HX, HN, HG1.out⟩, by simp [intOf]; omega⟩
end Go.Proofs.Ytihllbblehjhlaa
