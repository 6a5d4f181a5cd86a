/-
  Package cipher: what its functions answer, for all arguments.
-/
import Derived.Test.YtcibbghggfklbaaDoorCo
namespace Go.Proofs.YtcibbghggfklbaaDoor
open Go.RowKit
set_option linter.unusedVariables false
set_option linter.unusedSimpArgs false

/-- Bytes and an error. -/
def AnsO (X : List UInt8) (r : Int) (w : World) (e : Ending) (w' : World) : Prop := ∃ v, e = .returned (.tuple #[v, .int .i64 r]) ∧ OwnB w.heap.size w' v X ∧ Below w.heap.size w w'
def AnsR (X : List UInt8) (r : Int) (w : World) (e : Ending) (w' : World) : Prop := ∃ v, e = .returned (.tuple #[v, .int .i64 r]) ∧ RdV w' v X ∧ Below w.heap.size w w'
theorem AnsO.open {X : List UInt8} {r : Int} {w w' : World} {e : Ending} (h : AnsO X r w e w') : ∃ a c, e = .returned (.tuple #[.slice a X.length c, .int .i64 r]) ∧ OwnB w.heap.size w' (.slice a X.length c) X ∧ Below w.heap.size w w' := by
  obtain ⟨v, rfl, ho, hb⟩ := h
  obtain ⟨a, c, rfl, -, -⟩ := ho.form
  exact ⟨a, c, rfl, ho, hb⟩
theorem AnsR.open {X : List UInt8} {r : Int} {w w' : World} {e : Ending} (h : AnsR X r w e w') : ∃ a c, e = .returned (.tuple #[.slice a X.length c, .int .i64 r]) ∧ RdV w' (.slice a X.length c) X ∧ Below w.heap.size w w' := by
  obtain ⟨v, rfl, ho, hb⟩ := h
  obtain ⟨a, c, rfl, h1, h2⟩ := ho.form
  exact ⟨a, c, rfl, ⟨a, c, rfl, h1, h2⟩, hb⟩
theorem RdV.nil (w : World) : RdV w (.slice none 0 0) [] := ⟨none, 0, rfl, ⟨Nat.zero_le _, .inl rfl⟩, Nat.le_refl _, by unfold maxLen; omega, fun _ => rfl⟩
theorem AnsO.none {r : Int} {w w' : World} (hb : Below w.heap.size w w') : AnsO [] r w (.returned (.tuple #[.slice none 0 0, .int .i64 r])) w' := ⟨_, rfl, OwnB.nil _ _, hb⟩

def blockX (k n : List UInt8) (c : Int) : List UInt8 := if 0 ≤ c ∧ c < 4294967296 then cblock k n c.toNat else []
def blockE (c : Int) : Int := if 0 ≤ c ∧ c < 4294967296 then 0 else 1
def streamX (k n l : List UInt8) : List UInt8 := if l.length ≤ 65536 then cstream k n l else []
def streamE (l : List UInt8) : Int := if l.length ≤ 65536 then 0 else 60
def sealX (k n hd l : List UInt8) : List UInt8 := if l.length ≤ 65536 then sealC k n hd l else []
def openX (k n hd l : List UInt8) : List UInt8 := if opensC k n hd l then openC k n hd l else []
def openE (k n hd l : List UInt8) : Int := if opensC k n hd l then 0 else 60

theorem Block_any (k n : List UInt8) (hk : k.length = 32) (hn : n.length = 12) (c : Int) (w : World) :
    Calls Tryd.prog 12 #[.agg (bvA k), .agg (bvA n), .int .i64 c] w (AnsR (blockX k n c) (blockE c) w) := by
  by_cases h : 0 ≤ c ∧ c < 4294967296
  · unfold blockX blockE
    rw [if_pos h, if_pos h]
    obtain ⟨m, rfl⟩ : ∃ m : Nat, c = (m : Int) := ⟨c.toNat, by omega⟩
    rw [Int.toNat_natCast]
    exact Block_ok k n hk hn m (by omega) w
  · unfold blockX blockE
    rw [if_neg h, if_neg h]
    exact (Block_bad k n c h w).mono fun e w' ⟨he, hb⟩ => ⟨_, he, RdV.nil w', hb⟩
theorem Stream_any (k n : List UInt8) (hk : k.length = 32) (hn : n.length = 12) (l : List UInt8) (a : Option Addr) (q cap : Nat) (w : World) (hl : RdV w (.slice a q cap) l) :
    Calls Tryd.prog 14 #[.agg (bvA k), .agg (bvA n), .slice a q cap] w (AnsO (streamX k n l) (streamE l) w) := by
  obtain ⟨a', cap', e, h1, h2, h3, _⟩ := hl.form
  injection e with e1 e2 e3
  subst e1; subst e2; subst e3
  unfold streamX streamE
  by_cases h : l.length ≤ 65536
  · rw [if_pos h, if_pos h]
    exact Stream_ok k n l hk hn a cap w h1 h2 h3 h
  · rw [if_neg h, if_neg h]
    exact (Stream_bad k n a l.length cap w (by omega)).mono fun e w' ⟨he, hb⟩ => he ▸ AnsO.none hb
theorem Seal_any (k n : List UInt8) (hk : k.length = 32) (hn : n.length = 12) (hd l : List UInt8) (ah : Option Addr) (p ch : Nat) (a : Option Addr) (q cap : Nat) (w : World) (hT : Tab w) (hh : RdV w (.slice ah p ch) hd) (hl : RdV w (.slice a q cap) l) (hhl : hd.length ≤ 70368744100000) :
    Calls Tryd.prog 16 #[.agg (bvA k), .agg (bvA n), .slice ah p ch, .slice a q cap] w (AnsO (sealX k n hd l) (streamE l) w) := by
  obtain ⟨a', cap', e, h1⟩ := hl.form
  injection e with e1 e2 e3
  subst e1; subst e2; subst e3
  obtain ⟨a', cap', e, h2⟩ := hh.form
  injection e with e1 e2 e3
  subst e1; subst e2; subst e3
  unfold sealX streamE
  by_cases h : l.length ≤ 65536
  · rw [if_pos h, if_pos h]
    exact Seal_ok k n hd l hk hn ah ch a cap w hT hh hl hhl h
  · rw [if_neg h, if_neg h]
    exact (Seal_bad k n hk hn _ a l.length cap w (by omega)).mono fun e w' ⟨he, hb⟩ => he ▸ AnsO.none hb
theorem Open_any (k n : List UInt8) (hk : k.length = 32) (hn : n.length = 12) (hd l : List UInt8) (ah : Option Addr) (p ch : Nat) (a : Option Addr) (q cap : Nat) (w : World) (hT : Tab w) (hh : RdV w (.slice ah p ch) hd) (hl : RdV w (.slice a q cap) l) (hhl : hd.length ≤ 70368744100000) :
    Calls Tryd.prog 18 #[.agg (bvA k), .agg (bvA n), .slice ah p ch, .slice a q cap] w (AnsO (openX k n hd l) (openE k n hd l) w) := by
  obtain ⟨a', cap', e, h1, h2, h3, h4⟩ := hl.form
  injection e with e1 e2 e3
  subst e1; subst e2; subst e3
  obtain ⟨a', cap', e, g1⟩ := hh.form
  injection e with e1 e2 e3
  subst e1; subst e2; subst e3
  have hm : l.length ≤ 9223372036854775807 := by have := h1.1; unfold maxLen at this; omega
  unfold openX openE opensC
  by_cases h : 16 ≤ l.length ∧ l.length ≤ 65552
  · rw [decide_eq_true h.1, decide_eq_true h.2, Bool.true_and, Bool.true_and]
    obtain ⟨s, hs⟩ : ∃ s, l.length = s + 16 := ⟨l.length - 16, by omega⟩
    obtain ⟨b, o, rfl, _, _⟩ := h1.at_ (by omega)
    have ho := Open_in k n hd l s hk hn ah ch b o cap w hT hh h1 h2 h3 hhl hs (by omega)
    unfold openC
    rw [hs, Nat.add_sub_cancel]
    refine ho.mono fun e w' hp => ?_
    cases ht : tagged16 k n hd l
    · rw [ht] at hp
      obtain ⟨rfl, hb⟩ := hp
      exact AnsO.none hb
    · rw [ht] at hp
      obtain ⟨⟨v, rfl, ho⟩, hb⟩ := hp
      exact ⟨v, rfl, ho, hb⟩
  · have hx : (decide (16 ≤ l.length) && (decide (l.length ≤ 65552) && tagged16 k n hd l)) = false := by
      by_cases h16 : 16 ≤ l.length
      · rw [decide_eq_false (by omega : ¬ l.length ≤ 65552), Bool.false_and, Bool.and_false]
      · rw [decide_eq_false h16, Bool.false_and]
    rw [hx]
    exact (Open_short k n _ a l.length cap w (by omega) hm).mono fun e w' ⟨he, hb⟩ => he ▸ AnsO.none hb
end Go.Proofs.YtcibbghggfklbaaDoor
