/-
  A wrap that came in by value, of a size that the memory can hold.
-/
import Derived.Test.YtpnemdhbdncknaaDoorIe
import Derived.Lib.SmallJoins
import Derived.SizedLaws
namespace Go.Proofs.YtpnemdhbdncknaaDoor
open Go.RowKit Go.Joins Go.ChangeShapes Go.WideShapes Go.Deep
set_option linter.unusedVariables false
set_option linter.unusedSimpArgs false

theorem lits_lenW {H : Type} (k : IntKind) (zs : List Int) : (lits (H := H) k zs).length = zs.length := by simp [lits]
set_option maxRecDepth 100000 in
theorem open_wrpS {H : Type} {enc : TypeId × Value → H} {W : World} {base b0 : Nat} {hd : Bool} {v : Value} {d : DataW H} {ps : List MemPlace}
    (hval : Value.okWide Tryd.prog W .any b0 32 v) (h : DataW.Trod enc Tryd.prog W base (fun _ => true) hd 32 v d ps) (hs : ∀ n ∈ d.weights Tryd.prog 32, n ≤ reachBytes) :
    ∃ (u : Int) (a : Option Addr) (len cap : Nat) (zs : List Int), v = wrV u (.slice a len cap) ∧ IsRow W a len cap zs ∧ len < 140737488355328 := by
  obtain ⟨v0, v1, y0, y1, n, rfl, rfl, rfl, h0, h1⟩ := open_agg2 Tryd.underlying32 (by kernel_rfl) (by kernel_rfl) hval h
  obtain ⟨u, hu, _, _⟩ := DataW.trod_int Tryd.underlying3 h0
  simp only [List.cons.injEq, and_true] at hu
  subst hu
  obtain ⟨a, l, c, hs1⟩ := slice_form Tryd.underlying24 h1
  simp only [List.cons.injEq, and_true] at hs1
  subst hs1
  obtain ⟨d1, p1⟩ := y1
  refine ⟨u, a, l, c, ?_⟩
  rcases open_ints Tryd.underlying24 Tryd.underlying5 (by kernel_rfl) h1 with ⟨hcs, _⟩ | ⟨x, l', c', zs, hcs, _, hl, hm, hz, hx, hcell, hwz⟩
  · simp at hcs
    obtain ⟨rfl, rfl, rfl⟩ := hcs
    exact ⟨[], rfl, .inl ⟨rfl, rfl, rfl, rfl⟩, by decide⟩
  · simp at hcs
    obtain ⟨rfl, rfl, rfl⟩ := hcs
    obtain rfl := (Prod.mk.inj hx).1
    have hw := hs (((lits (H := H) .u8 (zs.take l)).length + (lits (H := H) .u8 (zs.drop l)).length) * Tryd.prog.bytesOf 5) (by
      simp [DataW.weights, Tryd.underlying32, DataW.weightsEach, Tryd.underlying24])
    rw [show Tryd.prog.bytesOf 5 = 1 by kernel_rfl, Nat.mul_one, lits_lenW, List.length_take] at hw
    have hr := reachBytes_lt
    refine ⟨zs, rfl, .inr ⟨_, rfl, hl, hm, by simpa using hz, hcell, hwz⟩, ?_⟩
    have h3 : l ≤ zs.length := by rw [hz]; split <;> omega
    omega
end Go.Proofs.YtpnemdhbdncknaaDoor
