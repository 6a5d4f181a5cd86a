/-
  Trees of hashes: the plain functions, and Tree of package digest.
-/
import Derived.Test.YtmeoicfeiamkmaaDoorNod
import Derived.Test.YtmeoicfeiamkmaaDoorShelf
import Derived.Deep.RegionHeld3
namespace Go.Proofs.YtmeoicfeiamkmaaDoor
open Go.RowKit

/-- The greatest power of 2 less than n, for n from 2 on. -/
def half (n : Nat) : Nat := 2 ^ Nat.log2 (n - 1)
theorem half_bd (n : Nat) (h : 2 ≤ n) : half n < n ∧ n ≤ 2 * half n ∧ 1 ≤ half n := by
  have h0 : n - 1 ≠ 0 := by omega
  have h1 := Nat.log2_self_le h0
  have h2 := @Nat.lt_log2_self (n - 1)
  unfold half
  rw [Nat.pow_succ] at h2
  exact ⟨by omega, by omega, Nat.one_le_two_pow⟩
theorem half_unique (n i : Nat) (h1 : 2 ^ i < n) (h2 : n ≤ 2 ^ (i + 1)) : 2 ^ i = half n := by
  unfold half
  congr 1
  have h0 : n - 1 ≠ 0 := by have := @Nat.one_le_two_pow i; omega
  exact ((Nat.log2_eq_iff h0).2 ⟨by omega, by omega⟩).symm

def treeS (l : List (List UInt8)) : List UInt8 :=
  if h : l.length < 2 then
    match l with
    | [] => tagS [101, 109, 112, 116, 121] []
    | d :: _ => leafS d
  else
    nodeS (treeS (l.take (half l.length))) (treeS (l.drop (half l.length)))
termination_by l.length
decreasing_by
  · have := half_bd l.length (by omega); rw [List.length_take]; omega
  · have := half_bd l.length (by omega); rw [List.length_drop]; omega
theorem treeS_nil : treeS [] = tagS [101, 109, 112, 116, 121] [] := by rw [treeS]; rfl
theorem treeS_one (d : List UInt8) : treeS [d] = leafS d := by rw [treeS]; rfl
theorem treeS_node (l : List (List UInt8)) (h : 2 ≤ l.length) : treeS l = nodeS (treeS (l.take (half l.length))) (treeS (l.drop (half l.length))) := by
  rw [treeS, dif_neg (by omega)]
theorem treeS_len (l : List (List UInt8)) : (treeS l).length = 32 := by
  rw [treeS]
  split
  · split <;> exact tagS_len _ _
  · exact tagS_len _ _

theorem bitLenAux_log : ∀ (f x : Nat), 0 < x → x < 2 ^ f → Lib.bitLenAux f x = Nat.log2 x + 1
  | 0, x, h0, h => by simp at h; omega
  | f + 1, x, h0, h => by
    by_cases h1 : x = 1
    · subst h1
      have : Lib.bitLenAux f 0 = 0 := by cases f <;> simp [Lib.bitLenAux]
      unfold Lib.bitLenAux
      rw [if_neg (by decide), show (1 : Nat) / 2 = 0 from rfl, this]; decide
    · unfold Lib.bitLenAux
      rw [if_neg (by omega), bitLenAux_log f (x / 2) (by omega) (by rw [Nat.pow_succ] at h; omega), Nat.log2_def x, if_pos (by omega)]
      omega
theorem bitLen_log (x : Nat) (h0 : 0 < x) (h : x < 2 ^ 64) : Lib.bitLen x = Nat.log2 x + 1 := bitLenAux_log 64 x h0 h

/-- The slice .slice a l.length cap holds the digests l. -/
def RdD (B : Nat) (w : World) (a : Option Addr) (l : List (List UInt8)) : Prop :=
  l.length ≤ maxLen ∧ (∀ d ∈ l, d.length = 32) ∧ (l = [] ∨ ∃ b o, a = some ⟨b, o, none⟩ ∧ b < B ∧ ∀ j (h : j < l.length), w.rangeAt b (o + j * 32) (l[j].map bv))
theorem RdD.len {B : Nat} {w : World} {a : Option Addr} {l : List (List UInt8)} (h : RdD B w a l) (j : Nat) (hj : j < l.length) : l[j].length = 32 := h.2.1 _ (List.getElem_mem hj)
theorem RdD.below {B : Nat} {w w' : World} {a : Option Addr} {l : List (List UInt8)} (h : RdD B w a l) (hb : Below B w w') : RdD B w' a l := by
  refine ⟨h.1, h.2.1, ?_⟩
  rcases h.2.2 with h2 | ⟨b, o, ha, hB, hc⟩
  · exact .inl h2
  · exact .inr ⟨b, o, ha, hB, fun j hj i v hv => (hb.cell (p := ⟨b, _, none⟩) hB).trans (hc j hj i v hv)⟩
theorem RdD.mono {B B' : Nat} {w : World} {a : Option Addr} {l : List (List UInt8)} (h : RdD B w a l) (hB : B ≤ B') : RdD B' w a l := by
  refine ⟨h.1, h.2.1, ?_⟩
  rcases h.2.2 with h2 | ⟨b, o, ha, hb, hc⟩
  · exact .inl h2
  · exact .inr ⟨b, o, ha, by omega, hc⟩
theorem RdD.at_ {B : Nat} {w : World} {a : Option Addr} {l : List (List UInt8)} (h : RdD B w a l) (h0 : 0 < l.length) : ∃ b o, a = some ⟨b, o, none⟩ ∧ b < B ∧ ∀ j (h : j < l.length), w.rangeAt b (o + j * 32) (l[j].map bv) := by
  rcases h.2.2 with h2 | h2
  · subst h2; simp at h0
  · exact h2
theorem RdD.take {B : Nat} {w : World} {a : Option Addr} {l : List (List UInt8)} (h : RdD B w a l) (k : Nat) : RdD B w a (l.take k) := by
  refine ⟨by rw [List.length_take]; have := h.1; omega, fun d hd => h.2.1 d (List.mem_of_mem_take hd), ?_⟩
  rcases h.2.2 with h2 | ⟨b, o, ha, hb, hc⟩
  · left; rw [h2]; simp
  · exact .inr ⟨b, o, ha, hb, fun j hj => by rw [List.length_take] at hj; rw [List.getElem_take]; exact hc j (by omega)⟩
/-- l[k:]. -/
def tailD (a : Option Addr) (len cap k : Nat) : Value := .slice (if cap = k then a else a.map (·.add (k * 32))) (len - k) (cap - k)
theorem RdD.drop {B : Nat} {w : World} {a : Option Addr} {l : List (List UInt8)} (h : RdD B w a l) {cap : Nat} (hcap : l.length ≤ cap) (k : Nat) : RdD B w (if cap = k then a else a.map (·.add (k * 32))) (l.drop k) := by
  refine ⟨by rw [List.length_drop]; have := h.1; omega, fun d hd => h.2.1 d (List.mem_of_mem_drop hd), ?_⟩
  rcases h.2.2 with h2 | ⟨b, o, ha, hb, hc⟩
  · left; rw [h2]; simp
  · by_cases e : cap = k
    · left; exact List.drop_eq_nil_of_le (by omega)
    · right
      refine ⟨b, o + k * 32, by rw [if_neg e, ha]; simp [addr_add], hb, fun j hj => ?_⟩
      rw [List.length_drop] at hj
      rw [List.getElem_drop, Nat.add_assoc, ← Nat.add_mul]
      exact hc (k + j) (by omega)
theorem grown_setCells {R : Nat} {w : World} : ∀ (vs : List Value) (o : Nat) (w2 : World), w.grownBy w2 (some R) → w.grownBy (w2.setCells R o vs) (some R)
  | [], _, _, h => h
  | v :: r, o, w2, h => by rw [World.setCells]; exact grown_setCells r (o + 1) _ (grown_set h o v)
theorem grown_refl (w : World) (R : Nat) : w.grownBy w (some R) := ⟨rfl, rfl, rfl, Nat.le_refl _, fun _ _ _ => rfl⟩
/-- A result that lies in the midst of a block. -/
theorem results_cell_mid {P : Program} {fn : Func} {p : Tmp} {ty : TypeId} (h : fn.results = #[.cell p ty]) (tmps : Array Value) (w : World) (b o : Nat) (cs : List Value) (d : TypeDesc)
    (hp : tmps.getD p undef = .pointer (some ⟨b, o, none⟩)) (hc : w.rangeAt b o cs) (hu : P.underlying ty = some d) (hd : d.isRow = true) (hi : (P.info? ty).map (·.size) = some cs.length) :
    (results fn tmps).run P w = .ok (.agg cs.toArray) w := by
  have hp' : tmps[p]?.getD undef = .pointer (some ⟨b, o, none⟩) := by simpa using hp
  simp [results, h, hp', asAddr, run_loadVar_mid w b o ty cs d hc hu hd hi]
theorem BB.there {w : World} {g : Nat} {T : TypeId} {l : List UInt8} (h : BB w g T l) : w.there g 0 l.length := fun j hj => by
  rw [Nat.zero_add, h.cell j hj]; exact ⟨rfl, h.frozen j⟩
theorem BB.range {w : World} {g : Nat} {T : TypeId} {l : List UInt8} (h : BB w g T l) : w.rangeAt g 0 (l.map bv) := fun j v hv => by
  rw [Nat.zero_add, cell_of_row w g j _ T (0, 0) h]; simpa [bvA] using hv
theorem there_below {B : Nat} {w w' : World} {g n : Nat} (h : w.there g 0 n) (hb : Below B w w') (hg : g < B) : w'.there g 0 n := fun j hj => by
  rw [hb.cell (p := ⟨g, 0 + j, none⟩) hg, hb.frozen (p := ⟨g, 0 + j, none⟩) hg]; exact h j hj

end Go.Proofs.YtmeoicfeiamkmaaDoor
