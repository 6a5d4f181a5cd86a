/-
  A digest that came in by value.
-/
import Derived.Test.YtndbhmipehpebaaDoorTab
import Derived.Test.YtndbhmipehpebaaDoorTagsW
namespace Go.Proofs.YtndbhmipehpebaaDoor
open Go.RowKit
set_option linter.unusedVariables false
set_option linter.unusedSimpArgs false

theorem mapM_all {α β : Type} {f : α → Option β} : ∀ {l : List α} {r : List β}, l.mapM f = some r → ∀ x ∈ l, ∃ y, f x = some y
  | [], _, _, x, hx => by cases hx
  | a :: l, r, h, x, hx => by
    rw [List.mapM_cons] at h
    cases ha : f a with
    | none => rw [ha] at h; simp at h
    | some b =>
      rw [ha] at h
      cases hl : l.mapM f with
      | none => rw [hl] at h; simp at h
      | some bs =>
        rcases List.mem_cons.1 hx with rfl | hx
        · exact ⟨b, ha⟩
        · exact mapM_all hl x hx
def byteOf : Option Value → UInt8
  | some (.int .u8 n) => UInt8.ofNat n.toNat
  | _ => 0
theorem cells_digest : Tryd.prog.cellsOf 26 = 32 := by kernel_rfl
theorem cells_byte : Tryd.prog.cellsOf 5 = 1 := by kernel_rfl
theorem open_digest {H : Type} {enc : TypeId × Value → H} {W : World} {base b0 : Nat} {sp : Nat → Bool} {hd : Bool} {v : Value} {d : DataW H} {ps : List MemPlace}
    (hval : Value.okWide Tryd.prog W .any b0 26 v) (h : DataW.Trod enc Tryd.prog W base sp hd 26 v d ps) : ∃ x : List UInt8, v = .agg (bvA x) ∧ x.length = 32 := by
  unfold Value.okWide at hval
  simp only [digest_und] at hval
  obtain ⟨cs, rfl, hcs, _⟩ := hval
  rw [cells_digest] at hcs
  obtain ⟨fuel, hf⟩ := h
  cases fuel with
  | zero => simp [DataW.trod] at hf
  | succ fuel =>
    have hu := digest_und
    unfold DataW.trod at hf
    simp only [hu, Value.cells] at hf
    rw [if_pos (by rw [cells_digest, Array.length_toList]; exact hcs)] at hf
    simp only [Option.map_eq_some_iff] at hf
    obtain ⟨xs, hx, _⟩ := hf
    have hall : ∀ i (hi : i < 32), ∃ n : Int, cs.toList[i]? = some (.int .u8 n) ∧ (Lit.int .u8 n).wf = true := by
      intro i hi
      obtain ⟨y, hy⟩ := mapM_all hx i (by simpa using hi)
      rw [cells_byte] at hy
      obtain ⟨n, h1, _, h2⟩ := DataW.trod_int Tryd.underlying5 hy
      refine ⟨n, ?_, h2⟩
      have := congrArg (fun l : List Value => l[0]?) h1
      simpa [List.getElem?_take, List.getElem?_drop] using this
    refine ⟨(List.range 32).map fun i => byteOf cs.toList[i]?, ?_, by simp⟩
    congr 1
    apply Array.ext
    · rw [bvA_size]; simp [hcs]
    · intro i h1 h2
      rw [hcs] at h1
      obtain ⟨n, hn, hw⟩ := hall i h1
      have hc : cs[i]? = some (.int .u8 n) := by simpa using hn
      have hg := bvA_get ((List.range 32).map fun i => byteOf cs.toList[i]?) i (by simpa using h1)
      have h3 : cs[i] = .int .u8 n := by have := Array.getElem?_eq_getElem (xs := cs) (i := i) (by omega); rw [this] at hc; injection hc
      rw [h3]
      have h4 := Array.getElem?_eq_getElem (xs := bvA ((List.range 32).map fun i => byteOf cs.toList[i]?)) (i := i) h2
      rw [h4] at hg
      injection hg with hg
      rw [hg]
      simp only [List.getElem_map, List.getElem_range, hn, bv, byteOf]
      rw [byte_of hw]
end Go.Proofs.YtndbhmipehpebaaDoor
