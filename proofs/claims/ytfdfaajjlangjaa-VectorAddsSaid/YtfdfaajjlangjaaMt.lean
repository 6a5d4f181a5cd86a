/-
  Package vector and its reference over slices whose values are letters; what a walk over slices of dots and boxed dots keeps.
-/
import Derived.Test.YtfdfaajjlangjaaMs
import Derived.Test.YtfdfaajjlangjaaMc
namespace Go.Proofs.Ytfdfaajjlangjaa
open Go.RowKit
set_option linter.unusedVariables false
set_option linter.unusedSimpArgs false

theorem RsV.call {w w' : World} {v : Value} {l : List Dt} (h : RsV w.heap.size w v l) (hb : Below w.heap.size w w') : RsV w'.heap.size w' v l := by
  obtain ⟨a, cap, e, hc, hr⟩ := h.form
  exact ⟨a, cap, e, hc, hr.call hb⟩
theorem RsV.nil (w : World) : RsV w.heap.size w (.slice none 0 0) [] := ⟨none, 0, rfl, Nat.le_refl _, RdDt.nil _ _ _⟩
theorem OwnDt.rs {B : Nat} {w : World} {v : Value} {l : List Dt} (h : OwnDt B w v l) : RsV w.heap.size w v l := by
  obtain ⟨a, cap, e, hc, _, _, hr⟩ := h.form
  exact ⟨a, cap, e, hc, hr⟩
theorem IsDts.rs {w : World} {a : Option Addr} {len cap : Nat} {l : List Dt} (h : IsDts w a len cap l) : RsV w.heap.size w (.slice a len cap) l := by
  obtain ⟨rfl, hr, hc, _⟩ := h
  exact ⟨a, cap, rfl, hc, hr⟩
theorem RdDt.lit (w : World) (l : List Dt) (hl : l.length ≤ 1000) : RdDt (w.heap.size + 1) (w.alloc (.cells (dts l).toArray 24)) (some ⟨w.heap.size, 0, none⟩) l := by
  refine ⟨by unfold maxLen; omega, .inr ⟨w.heap.size, 0, rfl, Nat.lt_succ_self _, fun j hj => ?_⟩⟩
  have h := heap_alloc_new w (.cells (dts l).toArray 24)
  obtain ⟨d0, d1⟩ := dts_at l j hj
  refine ⟨?_, ?_⟩
  · rw [cell_of_row _ w.heap.size (0 + j * 2) _ _ (0, 0) h, List.getElem?_toArray, Nat.zero_add]; exact d0
  · rw [cell_of_row _ w.heap.size (0 + j * 2 + 1) _ _ (0, 0) h, List.getElem?_toArray, Nat.zero_add]; exact d1
theorem RsV.lit (w : World) (l : List Dt) (hl : l.length ≤ 1000) : RsV (w.alloc (.cells (dts l).toArray 24)).heap.size (w.alloc (.cells (dts l).toArray 24)) (.slice (some ⟨w.heap.size, 0, none⟩) l.length l.length) l :=
  ⟨_, _, rfl, Nat.le_refl _, by rw [World.size_alloc]; exact RdDt.lit w l hl⟩

/-- Slices that can be read, and boxed dots. -/
structure DX (w0 w : World) (L : List (Value × List Dt)) (D : List (Nat × Dt)) : Prop where
  rd : ∀ v l, (v, l) ∈ L → RsV w.heap.size w v l
  db : ∀ g s, (g, s) ∈ D → DB w g s
  below : Below w0.heap.size w0 w
theorem DX.start (w : World) : DX w w [] [] := ⟨fun _ _ h => (by cases h), fun _ _ h => (by cases h), Below.refl _ _⟩
theorem DX.call {w0 w w' : World} {L : List (Value × List Dt)} {D : List (Nat × Dt)} (h : DX w0 w L D) (hb : Below w.heap.size w w') : DX w0 w' L D :=
  ⟨fun v l hm => (h.rd v l hm).call hb, fun g s hm => (h.db g s hm).call hb, h.below.trans (hb.mono h.below.size)⟩
theorem DX.add {w0 w : World} {L : List (Value × List Dt)} {D : List (Nat × Dt)} (h : DX w0 w L D) {v : Value} {l : List Dt} (hr : RsV w.heap.size w v l) : DX w0 w ((v, l) :: L) D :=
  ⟨fun v' l' hm => by
    rcases List.mem_cons.1 hm with e | hm
    · injection e with e1 e2; rw [e1, e2]; exact hr
    · exact h.rd v' l' hm, h.db, h.below⟩
theorem DX.lit {w0 w : World} {L : List (Value × List Dt)} {D : List (Nat × Dt)} (h : DX w0 w L D) (l : List Dt) (hl : l.length ≤ 1000) (g n : Nat) (hg : w.heap.size = g) (hn : l.length = n) : DX w0 (w.alloc (.cells (dts l).toArray 24)) ((.slice (some ⟨g, 0, none⟩) n n, l) :: L) D := by
  subst hg
  subst hn
  exact (h.call ((Below.refl _ _).alloc (Nat.le_refl _) _)).add (RsV.lit w l hl)
theorem DX.box {w0 w : World} {L : List (Value × List Dt)} {D : List (Nat × Dt)} (h : DX w0 w L D) (s : Dt) (g : Nat) (hg : w.heap.size = g) : DX w0 (w.alloc (.cells #[.int .i64 s.1, .int .i64 s.2] 24)) L ((g, s) :: D) := by
  subst hg
  have h2 := h.call ((Below.refl _ _).alloc (Nat.le_refl _) (.cells #[.int .i64 s.1, .int .i64 s.2] 24))
  refine ⟨h2.rd, fun g' s' hm => ?_, h2.below⟩
  rcases List.mem_cons.1 hm with e | hm
  · injection e with e1 e2; rw [e1, e2]; exact DB.new w s
  · exact h2.db g' s' hm
/-- What the two-valued functions answer, valid or not. -/
def jnR (l m : List Dt) : List Dt := if okV l ∧ okV m then jnV l m else []
def mtR (l m : List Dt) : List Dt := if okV l ∧ okV m then mtV l m else []
def cmR (l m : List Dt) : Int := if okV l ∧ okV m then cmpV l m else 0
def erR (l m : List Dt) : Int := if okV l ∧ okV m then 0 else 120
def wiR (l : List Dt) (d : Dt) : List Dt := if okV l ∧ dotP d then wiV l d else []
def erW (l : List Dt) (d : Dt) : Int := if okV l ∧ dotP d then 0 else 120
theorem FewV {v : Value} {l : List Dt} {w : World} (h : RsV w.heap.size w v l) :
    Calls Try.prog 11 #[v] w fun e w' => e = .returned (.bool (decide (l.length ≤ 600))) ∧ Below w.heap.size w w' := by
  obtain ⟨a, cap, rfl, hp, hr⟩ := h.form
  refine (rFew12_any a l.length cap w).mono ?_
  rintro e w' ⟨he, rfl⟩
  exact ⟨he, Below.refl _ _⟩
theorem rCheckV {v : Value} {l : List Dt} {w : World} (h : RsV w.heap.size w v l) :
    Calls Try.prog 15 #[v] w fun e w' => e = .returned (.int .i64 (chV l)) ∧ Below w.heap.size w w' := by
  obtain ⟨a, cap, rfl, hp, hr⟩ := h.form
  exact rCheck12_any a cap l w hr
theorem CheckV {v : Value} {l : List Dt} {w : World} (h : RsV w.heap.size w v l) :
    Calls Try.prog 14 #[v] w fun e w' => e = .returned (.int .i64 (chV l)) ∧ Below w.heap.size w w' := by
  obtain ⟨a, cap, rfl, hp, hr⟩ := h.form
  exact Check12_any a cap l w hr
theorem rAtV {v : Value} {l : List Dt} {w : World} (h : RsV w.heap.size w v l) (k : Int) :
    Calls Try.prog 17 #[v, .int .i64 k] w fun e w' => e = .returned (.int .i64 (atV l k)) ∧ Below w.heap.size w w' := by
  obtain ⟨a, cap, rfl, hp, hr⟩ := h.form
  refine (rAt12_any a cap l k w hr).mono ?_
  rintro e w' ⟨he, rfl⟩
  exact ⟨he, Below.refl _ _⟩
theorem AtV {v : Value} {l : List Dt} {w : World} (h : RsV w.heap.size w v l) (k : Int) :
    Calls Try.prog 16 #[v, .int .i64 k] w fun e w' => e = .returned (.int .i64 (atV l k)) ∧ Below w.heap.size w w' := by
  obtain ⟨a, cap, rfl, hp, hr⟩ := h.form
  exact At_any a cap l k w hr
theorem rCoversV {v : Value} {l : List Dt} {w : World} (h : RsV w.heap.size w v l) (d : Dt) :
    Calls Try.prog 19 #[v, .agg #[.int .i64 d.1, .int .i64 d.2]] w fun e w' => e = .returned (.bool (decide (covV l d))) ∧ Below w.heap.size w w' := by
  obtain ⟨a, cap, rfl, hp, hr⟩ := h.form
  exact rCovers12_any a cap l d w hr
theorem CoversV {v : Value} {l : List Dt} {w : World} (h : RsV w.heap.size w v l) (d : Dt) :
    Calls Try.prog 18 #[v, .agg #[.int .i64 d.1, .int .i64 d.2]] w fun e w' => e = .returned (.bool (decide (covV l d))) ∧ Below w.heap.size w w' := by
  obtain ⟨a, cap, rfl, hp, hr⟩ := h.form
  exact Covers12_any a cap l d w hr
theorem rIsDotV (d : Dt) (w : World) :
    Calls Try.prog 27 #[.agg #[.int .i64 d.1, .int .i64 d.2]] w fun e w' => e = .returned (.bool (decide (dotP d))) ∧ Below w.heap.size w w' := by
  exact rIsDot12_any d w
theorem SameV {v : Value} {l : List Dt} {v2 : Value} {m : List Dt} {w : World} (h : RsV w.heap.size w v l) (h2 : RsV w.heap.size w v2 m) :
    Calls Try.prog 20 #[v, v2] w fun e w' => e = .returned (.bool (decide (l = m))) ∧ Below w.heap.size w w' := by
  obtain ⟨a, cap, rfl, hp, hr⟩ := h.form
  obtain ⟨a2, cap2, rfl, hp2, hr2⟩ := h2.form
  exact rSame12_any a cap l a2 cap2 m w hr hr2
theorem JoinV {v : Value} {l : List Dt} {v2 : Value} {m : List Dt} {w : World} (h : RsV w.heap.size w v l) (h2 : RsV w.heap.size w v2 m) (hn : l.length ≤ 600) (hn2 : m.length ≤ 601) :
    Calls Try.prog 21 #[v, v2] w fun e w' => ∃ v', e = .returned (.tuple #[v', .int .i64 (erR l m)]) ∧ RsV w'.heap.size w' v' (jnR l m) ∧ Below w.heap.size w w' := by
  obtain ⟨a, cap, rfl, hp, hr⟩ := h.form
  obtain ⟨a2, cap2, rfl, hp2, hr2⟩ := h2.form
  unfold jnR erR
  by_cases hh : okV l ∧ okV m
  · rw [if_pos hh, if_pos hh]
    refine (Join12_ok a cap l a2 cap2 m hh.1 hh.2 hn hn2 hp hp2 w hr hr2).mono ?_
    rintro e w' ⟨v', he, ho, hb⟩
    exact ⟨v', he, ho.rs, hb⟩
  · rw [if_neg hh, if_neg hh]
    refine (Join12_bad a cap l a2 cap2 m hh w hr hr2).mono ?_
    rintro e w' ⟨he, hb⟩
    exact ⟨_, he, RsV.nil _, hb⟩
theorem MeetV {v : Value} {l : List Dt} {v2 : Value} {m : List Dt} {w : World} (h : RsV w.heap.size w v l) (h2 : RsV w.heap.size w v2 m) (hn : l.length ≤ 600) (hn2 : m.length ≤ 601) :
    Calls Try.prog 23 #[v, v2] w fun e w' => ∃ v', e = .returned (.tuple #[v', .int .i64 (erR l m)]) ∧ RsV w'.heap.size w' v' (mtR l m) ∧ Below w.heap.size w w' := by
  obtain ⟨a, cap, rfl, hp, hr⟩ := h.form
  obtain ⟨a2, cap2, rfl, hp2, hr2⟩ := h2.form
  unfold mtR erR
  by_cases hh : okV l ∧ okV m
  · rw [if_pos hh, if_pos hh]
    refine (Meet12_ok a cap l a2 cap2 m hh.1 hh.2 hn hn2 hp hp2 w hr hr2).mono ?_
    rintro e w' ⟨v', he, ho, hb⟩
    exact ⟨v', he, ho.rs, hb⟩
  · rw [if_neg hh, if_neg hh]
    refine (Meet12_bad a cap l a2 cap2 m hh w hr hr2).mono ?_
    rintro e w' ⟨he, hb⟩
    exact ⟨_, he, RsV.nil _, hb⟩
theorem rJoinV {v : Value} {l : List Dt} {v2 : Value} {m : List Dt} {w : World} (h : RsV w.heap.size w v l) (h2 : RsV w.heap.size w v2 m) (hn : l.length ≤ 600) (hn2 : m.length ≤ 601) :
    Calls Try.prog 22 #[v, v2] w fun e w' => ∃ v', e = .returned (.tuple #[v', .int .i64 (erR l m)]) ∧ RsV w'.heap.size w' v' (jnR l m) ∧ Below w.heap.size w w' := by
  obtain ⟨a, cap, rfl, hp, hr⟩ := h.form
  obtain ⟨a2, cap2, rfl, hp2, hr2⟩ := h2.form
  unfold jnR erR
  by_cases hh : okV l ∧ okV m
  · rw [if_pos hh, if_pos hh]
    refine (rJoin12_ok a cap l a2 cap2 m hh.1 hh.2 hn hn2 w hr hr2).mono ?_
    rintro e w' ⟨v', he, ho, hb⟩
    exact ⟨v', he, ho.rs, hb⟩
  · rw [if_neg hh, if_neg hh]
    refine (rJoin12_bad a cap l a2 cap2 m hh w hr hr2).mono ?_
    rintro e w' ⟨he, hb⟩
    exact ⟨_, he, RsV.nil _, hb⟩
theorem rMeetV {v : Value} {l : List Dt} {v2 : Value} {m : List Dt} {w : World} (h : RsV w.heap.size w v l) (h2 : RsV w.heap.size w v2 m) (hn : l.length ≤ 600) (hn2 : m.length ≤ 601) :
    Calls Try.prog 24 #[v, v2] w fun e w' => ∃ v', e = .returned (.tuple #[v', .int .i64 (erR l m)]) ∧ RsV w'.heap.size w' v' (mtR l m) ∧ Below w.heap.size w w' := by
  obtain ⟨a, cap, rfl, hp, hr⟩ := h.form
  obtain ⟨a2, cap2, rfl, hp2, hr2⟩ := h2.form
  unfold mtR erR
  by_cases hh : okV l ∧ okV m
  · rw [if_pos hh, if_pos hh]
    refine (rMeet12_ok a cap l a2 cap2 m hh.1 hh.2 hn hn2 w hr hr2).mono ?_
    rintro e w' ⟨v', he, ho, hb⟩
    exact ⟨v', he, ho.rs, hb⟩
  · rw [if_neg hh, if_neg hh]
    refine (rMeet12_bad a cap l a2 cap2 m hh w hr hr2).mono ?_
    rintro e w' ⟨he, hb⟩
    exact ⟨_, he, RsV.nil _, hb⟩
theorem CompareV {v : Value} {l : List Dt} {v2 : Value} {m : List Dt} {w : World} (h : RsV w.heap.size w v l) (h2 : RsV w.heap.size w v2 m) :
    Calls Try.prog 25 #[v, v2] w fun e w' => e = .returned (.tuple #[.int .i64 (cmR l m), .int .i64 (erR l m)]) ∧ Below w.heap.size w w' := by
  obtain ⟨a, cap, rfl, hp, hr⟩ := h.form
  obtain ⟨a2, cap2, rfl, hp2, hr2⟩ := h2.form
  unfold cmR erR
  by_cases hh : okV l ∧ okV m
  · rw [if_pos hh, if_pos hh]
    exact Compare12_ok a cap l a2 cap2 m hh.1 hh.2 hp hp2 w hr hr2
  · rw [if_neg hh, if_neg hh]
    exact Compare12_bad a cap l a2 cap2 m hh w hr hr2
theorem rCompareV {v : Value} {l : List Dt} {v2 : Value} {m : List Dt} {w : World} (h : RsV w.heap.size w v l) (h2 : RsV w.heap.size w v2 m) :
    Calls Try.prog 26 #[v, v2] w fun e w' => e = .returned (.tuple #[.int .i64 (cmR l m), .int .i64 (erR l m)]) ∧ Below w.heap.size w w' := by
  obtain ⟨a, cap, rfl, hp, hr⟩ := h.form
  obtain ⟨a2, cap2, rfl, hp2, hr2⟩ := h2.form
  unfold cmR erR
  by_cases hh : okV l ∧ okV m
  · rw [if_pos hh, if_pos hh]
    exact rCompare12_ok a cap l a2 cap2 m hh.1 hh.2 w hr hr2
  · rw [if_neg hh, if_neg hh]
    exact rCompare12_bad a cap l a2 cap2 m hh w hr hr2
theorem WithV {v : Value} {l : List Dt} {w : World} (h : RsV w.heap.size w v l) (hn : l.length ≤ 600) (d : Dt) :
    Calls Try.prog 12 #[v, .agg #[.int .i64 d.1, .int .i64 d.2]] w fun e w' => ∃ v', e = .returned (.tuple #[v', .int .i64 (erW l d)]) ∧ RsV w'.heap.size w' v' (wiR l d) ∧ Below w.heap.size w w' := by
  obtain ⟨a, cap, rfl, hp, hr⟩ := h.form
  unfold wiR erW
  by_cases hh : okV l ∧ dotP d
  · rw [if_pos hh, if_pos hh]
    refine (With12_ok a cap l d hh.1 hh.2 hn hp w hr).mono ?_
    rintro e w' ⟨v', he, ho, hb⟩
    exact ⟨v', he, ho.rs, hb⟩
  · rw [if_neg hh, if_neg hh]
    refine (With12_bad a cap l d hh w hr).mono ?_
    rintro e w' ⟨he, hb⟩
    exact ⟨_, he, RsV.nil _, hb⟩
theorem rWithV {v : Value} {l : List Dt} {w : World} (h : RsV w.heap.size w v l) (hn : l.length ≤ 600) (d : Dt) :
    Calls Try.prog 13 #[v, .agg #[.int .i64 d.1, .int .i64 d.2]] w fun e w' => ∃ v', e = .returned (.tuple #[v', .int .i64 (erW l d)]) ∧ RsV w'.heap.size w' v' (wiR l d) ∧ Below w.heap.size w w' := by
  obtain ⟨a, cap, rfl, hp, hr⟩ := h.form
  unfold wiR erW
  by_cases hh : okV l ∧ dotP d
  · rw [if_pos hh, if_pos hh]
    refine (rWith12_ok a cap l d hh.1 hh.2 hn w hr).mono ?_
    rintro e w' ⟨v', he, ho, hb⟩
    exact ⟨v', he, ho.rs, hb⟩
  · rw [if_neg hh, if_neg hh]
    refine (rWith12_bad a cap l d hh w hr).mono ?_
    rintro e w' ⟨he, hb⟩
    exact ⟨_, he, RsV.nil _, hb⟩
end Go.Proofs.Ytfdfaajjlangjaa
