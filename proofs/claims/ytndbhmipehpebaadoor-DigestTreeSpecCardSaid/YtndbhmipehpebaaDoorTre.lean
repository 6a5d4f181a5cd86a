/-
  Trees of hashes: the plain functions, and Tree of package digest.
-/
import Derived.Test.YtndbhmipehpebaaDoorNod
import Derived.Test.YtndbhmipehpebaaDoorShelf
import Derived.Deep.RegionHeld3
namespace Go.Proofs.YtndbhmipehpebaaDoor
open Go.RowKit

/-- The greatest power of 2 less than n, for n from 2 on. -/
def half (n : Nat) : Nat := 2 ^ Nat.log2 (n - 1)
theorem half_bd (n : Nat) (h : 2 ≤ n) : half n < n ∧ n ≤ 2 * half n ∧ 1 ≤ half n := by
  have h0 : n - 1 ≠ 0 := by omega
  have h1 := Nat.log2_self_le h0
  have h2 := @Nat.lt_log2_self (n - 1)
  unfold half
  rw [Nat.pow_succ] at h2
  exact ⟨by omega, by omega, Nat.one_le_two_pow⟩
theorem half_unique (n i : Nat) (h1 : 2 ^ i < n) (h2 : n ≤ 2 ^ (i + 1)) : 2 ^ i = half n := by
  unfold half
  congr 1
  have h0 : n - 1 ≠ 0 := by have := @Nat.one_le_two_pow i; omega
  exact ((Nat.log2_eq_iff h0).2 ⟨by omega, by omega⟩).symm

def treeS (l : List (List UInt8)) : List UInt8 :=
  if h : l.length < 2 then
    match l with
    | [] => tagS [101, 109, 112, 116, 121] []
    | d :: _ => leafS d
  else
    nodeS (treeS (l.take (half l.length))) (treeS (l.drop (half l.length)))
termination_by l.length
decreasing_by
  · have := half_bd l.length (by omega); rw [List.length_take]; omega
  · have := half_bd l.length (by omega); rw [List.length_drop]; omega
theorem treeS_nil : treeS [] = tagS [101, 109, 112, 116, 121] [] := by rw [treeS]; rfl
theorem treeS_one (d : List UInt8) : treeS [d] = leafS d := by rw [treeS]; rfl
theorem treeS_node (l : List (List UInt8)) (h : 2 ≤ l.length) : treeS l = nodeS (treeS (l.take (half l.length))) (treeS (l.drop (half l.length))) := by
  rw [treeS, dif_neg (by omega)]
theorem treeS_len (l : List (List UInt8)) : (treeS l).length = 32 := by
  rw [treeS]
  split
  · split <;> exact tagS_len _ _
  · exact tagS_len _ _

theorem bitLenAux_log : ∀ (f x : Nat), 0 < x → x < 2 ^ f → Lib.bitLenAux f x = Nat.log2 x + 1
  | 0, x, h0, h => by simp at h; omega
  | f + 1, x, h0, h => by
    by_cases h1 : x = 1
    · subst h1
      have : Lib.bitLenAux f 0 = 0 := by cases f <;> simp [Lib.bitLenAux]
      unfold Lib.bitLenAux
      rw [if_neg (by decide), show (1 : Nat) / 2 = 0 from rfl, this]; decide
    · unfold Lib.bitLenAux
      rw [if_neg (by omega), bitLenAux_log f (x / 2) (by omega) (by rw [Nat.pow_succ] at h; omega), Nat.log2_def x, if_pos (by omega)]
      omega
theorem bitLen_log (x : Nat) (h0 : 0 < x) (h : x < 2 ^ 64) : Lib.bitLen x = Nat.log2 x + 1 := bitLenAux_log 64 x h0 h

theorem split_any (n : Nat) (w : World) (h : 2 ≤ n) (h2 : n ≤ maxLen) :
    Calls Tryd.prog 34 #[.int .i64 n] w fun e w' => e = .returned (.int .i64 (half n)) ∧ w' = w := by
  unfold maxLen at h2
  have hb := bitLen_log (n - 1) (by omega) (by omega)
  have hh : (2 : Int) ^ (Nat.log2 (n - 1)) = (half n : Nat) := by unfold half; simp
  have hl : Nat.log2 (n - 1) < 63 := (Nat.log2_lt (by omega)).2 (by omega)
  have HB := Lib.hid hb
  have HH := Lib.hid hh
  clear hb hh
  go_enter Tryd.func34, Tryd.ntmps34
  go_wp2_with fail
  refine (Tryd.bits_Len _ _ (by omega) (by omega)).mono ?_
  rintro e w' ⟨rfl, rfl⟩
  rw [show ((n : Int) - 1).toNat = n - 1 by omega, HB.out]
  generalize Nat.log2 (n - 1) = L at *
  clear HB
  have hb := half_bd n h
  go_wp2_with fail
  go_ret
  refine ⟨?_, rfl⟩
  have e : wrap64 ((2 : Int) ^ L) = (half n : Nat) := by
    rw [HH.out]; unfold wrap64; omega
  rw [e]; rfl

/-- The slice .slice a l.length cap holds the digests l. -/
def RdD (B : Nat) (w : World) (a : Option Addr) (l : List (List UInt8)) : Prop :=
  l.length ≤ maxLen ∧ (∀ d ∈ l, d.length = 32) ∧ (l = [] ∨ ∃ b o, a = some ⟨b, o, none⟩ ∧ b < B ∧ ∀ j (h : j < l.length), w.rangeAt b (o + j * 32) (l[j].map bv))
theorem RdD.len {B : Nat} {w : World} {a : Option Addr} {l : List (List UInt8)} (h : RdD B w a l) (j : Nat) (hj : j < l.length) : l[j].length = 32 := h.2.1 _ (List.getElem_mem hj)
theorem RdD.below {B : Nat} {w w' : World} {a : Option Addr} {l : List (List UInt8)} (h : RdD B w a l) (hb : Below B w w') : RdD B w' a l := by
  refine ⟨h.1, h.2.1, ?_⟩
  rcases h.2.2 with h2 | ⟨b, o, ha, hB, hc⟩
  · exact .inl h2
  · exact .inr ⟨b, o, ha, hB, fun j hj i v hv => (hb.cell (p := ⟨b, _, none⟩) hB).trans (hc j hj i v hv)⟩
theorem RdD.mono {B B' : Nat} {w : World} {a : Option Addr} {l : List (List UInt8)} (h : RdD B w a l) (hB : B ≤ B') : RdD B' w a l := by
  refine ⟨h.1, h.2.1, ?_⟩
  rcases h.2.2 with h2 | ⟨b, o, ha, hb, hc⟩
  · exact .inl h2
  · exact .inr ⟨b, o, ha, by omega, hc⟩
theorem RdD.at_ {B : Nat} {w : World} {a : Option Addr} {l : List (List UInt8)} (h : RdD B w a l) (h0 : 0 < l.length) : ∃ b o, a = some ⟨b, o, none⟩ ∧ b < B ∧ ∀ j (h : j < l.length), w.rangeAt b (o + j * 32) (l[j].map bv) := by
  rcases h.2.2 with h2 | h2
  · subst h2; simp at h0
  · exact h2
theorem RdD.take {B : Nat} {w : World} {a : Option Addr} {l : List (List UInt8)} (h : RdD B w a l) (k : Nat) : RdD B w a (l.take k) := by
  refine ⟨by rw [List.length_take]; have := h.1; omega, fun d hd => h.2.1 d (List.mem_of_mem_take hd), ?_⟩
  rcases h.2.2 with h2 | ⟨b, o, ha, hb, hc⟩
  · left; rw [h2]; simp
  · exact .inr ⟨b, o, ha, hb, fun j hj => by rw [List.length_take] at hj; rw [List.getElem_take]; exact hc j (by omega)⟩
/-- l[k:]. -/
def tailD (a : Option Addr) (len cap k : Nat) : Value := .slice (if cap = k then a else a.map (·.add (k * 32))) (len - k) (cap - k)
theorem RdD.drop {B : Nat} {w : World} {a : Option Addr} {l : List (List UInt8)} (h : RdD B w a l) {cap : Nat} (hcap : l.length ≤ cap) (k : Nat) : RdD B w (if cap = k then a else a.map (·.add (k * 32))) (l.drop k) := by
  refine ⟨by rw [List.length_drop]; have := h.1; omega, fun d hd => h.2.1 d (List.mem_of_mem_drop hd), ?_⟩
  rcases h.2.2 with h2 | ⟨b, o, ha, hb, hc⟩
  · left; rw [h2]; simp
  · by_cases e : cap = k
    · left; exact List.drop_eq_nil_of_le (by omega)
    · right
      refine ⟨b, o + k * 32, by rw [if_neg e, ha]; simp [addr_add], hb, fun j hj => ?_⟩
      rw [List.length_drop] at hj
      rw [List.getElem_drop, Nat.add_assoc, ← Nat.add_mul]
      exact hc (k + j) (by omega)
theorem sliceD_from (a : Option Addr) (len cap k : Nat) (h : k ≤ len) (W : World) : (Instr.slice 30 (.slice a len cap) (some (.int .i64 (k : Int))) none none).run Tryd.prog W = .ok (tailD a len cap k) W := by
  rw [run_slice_l (P := Tryd.prog) W 30 a len cap (by kernel_rfl) .i64 (k : Int) (by omega) (by omega)]
  have hz : (sizeOf (Tryd.prog.elem 30)).run Tryd.prog W = .ok 32 W := by kernel_rfl
  rw [hz]
  simp [Result.andThen, sliced, tailD]
theorem sliceD_to (a : Option Addr) (len cap k : Nat) (h : k ≤ cap) (W : World) : (Instr.slice 30 (.slice a len cap) none (some (.int .i64 (k : Int))) none).run Tryd.prog W = .ok (.slice a k cap) W := by
  rw [run_slice_h (P := Tryd.prog) W 30 a len cap (by kernel_rfl) .i64 (k : Int) (by omega) (by omega)]
  have hz : (sizeOf (Tryd.prog.elem 30)).run Tryd.prog W = .ok 32 W := by kernel_rfl
  rw [hz]
  simp [Result.andThen, sliced]
  intro _
  cases a <;> simp [Addr.add]

theorem grown_setCells {R : Nat} {w : World} : ∀ (vs : List Value) (o : Nat) (w2 : World), w.grownBy w2 (some R) → w.grownBy (w2.setCells R o vs) (some R)
  | [], _, _, h => h
  | v :: r, o, w2, h => by rw [World.setCells]; exact grown_setCells r (o + 1) _ (grown_set h o v)
theorem grown_refl (w : World) (R : Nat) : w.grownBy w (some R) := ⟨rfl, rfl, rfl, Nat.le_refl _, fun _ _ _ => rfl⟩
/-- A result that lies in the midst of a block. -/
theorem results_cell_mid {P : Program} {fn : Func} {p : Tmp} {ty : TypeId} (h : fn.results = #[.cell p ty]) (tmps : Array Value) (w : World) (b o : Nat) (cs : List Value) (d : TypeDesc)
    (hp : tmps.getD p undef = .pointer (some ⟨b, o, none⟩)) (hc : w.rangeAt b o cs) (hu : P.underlying ty = some d) (hd : d.isRow = true) (hi : (P.info? ty).map (·.size) = some cs.length) :
    (results fn tmps).run P w = .ok (.agg cs.toArray) w := by
  have hp' : tmps[p]?.getD undef = .pointer (some ⟨b, o, none⟩) := by simpa using hp
  simp [results, h, hp', asAddr, run_loadVar_mid w b o ty cs d hc hu hd hi]
theorem BB.there {w : World} {g : Nat} {T : TypeId} {l : List UInt8} (h : BB w g T l) : w.there g 0 l.length := fun j hj => by
  rw [Nat.zero_add, h.cell j hj]; exact ⟨rfl, h.frozen j⟩
theorem BB.range {w : World} {g : Nat} {T : TypeId} {l : List UInt8} (h : BB w g T l) : w.rangeAt g 0 (l.map bv) := fun j v hv => by
  rw [Nat.zero_add, cell_of_row w g j _ T (0, 0) h]; simpa [bvA] using hv
theorem there_below {B : Nat} {w w' : World} {g n : Nat} (h : w.there g 0 n) (hb : Below B w w') (hg : g < B) : w'.there g 0 n := fun j hj => by
  rw [hb.cell (p := ⟨g, 0 + j, none⟩) hg, hb.frozen (p := ⟨g, 0 + j, none⟩) hg]; exact h j hj

set_option maxRecDepth 100000 in
set_option maxHeartbeats 1600000 in
theorem tree_any : ∀ (N : Nat) (a : Option Addr) (cap : Nat) (l : List (List UInt8)) (w : World), l.length < N → Tab w → RdD w.heap.size w a l → l.length ≤ cap → cap ≤ maxLen →
    Calls Tryd.prog 17 #[.slice a l.length cap] w fun e w' => e = .returned (.agg (bvA (treeS l))) ∧ Below w.heap.size w w' := by
  intro N
  induction N with
  | zero => intro a cap l w hN; omega
  | succ N ih =>
    intro a cap l w hN hT hl hcap hc2
    have HT := Lib.hid hT
    have HL := Lib.hid hl
    have HC2 := Lib.hid hc2
    clear hT hl
    unfold maxLen at hc2
    by_cases h0 : l.length = 0
    · obtain rfl := List.eq_nil_of_length_eq_zero h0
      rw [treeS_nil]
      clear hN h0 hcap
      go_enter Tryd.func17, Tryd.ntmps17
      go_wp2_with fail
      change Calls _ _ _ (w.alloc (.cells (bvA (List.replicate 32 0)) 26)) _
      obtain ⟨w1, hw1⟩ : ∃ w1, w1 = w.alloc (.cells (bvA (List.replicate 32 0)) 26) := ⟨_, rfl⟩
      have hB1 : Below w.heap.size w w1 := hw1 ▸ (Below.refl _ _).alloc (Nat.le_refl _) _
      have hD1 : BB w1 w.heap.size 26 (List.replicate 32 0) := hw1 ▸ BB.new w _ _
      rw [← hw1]
      clear hw1
      refine (Tagged_any ⟨#[101, 109, 112, 116, 121]⟩ none 0 [] w1 (HT.out.below hB1 HT.out.lt) ⟨Nat.zero_le _, .inl rfl⟩ (Nat.le_refl _) (Nat.zero_le _) (by decide) (Nat.zero_le _)).mono ?_
      rintro e w2 ⟨rfl, hb2⟩
      have HD2 := Lib.hid (hD1.below hb2 hD1.lt)
      have HB2 := Lib.hid (hB1.trans (hb2.mono hB1.size))
      clear hb2 hD1 hB1
      go_wp2_with (refine wpList_storeA rfl 26 (.tmp 2) (.tmp 8) rfl w.heap.size (bvA (tagS [101, 109, 112, 116, 121] [])) rfl rfl 26 _ HD2.out (sha_sz _) (sha_old _) (bvA_one _) ?_)
      intro w9 h9 hg9
      have hB9 := grown_below HB2.out hg9 (Nat.le_refl _) HB2.out.size
      go_wp2_with fail
      refine bodyPost_ret (v := .agg (bvA (tagS [101, 109, 112, 116, 121] []))) ?_ rfl ⟨rfl, hB9⟩
      exact results_cell_row rfl _ _ w.heap.size 26 _ (0, 0) _ rfl h9 digest_und rfl (sha_sz _)
    · by_cases h1 : l.length = 1
      · obtain ⟨d, rfl⟩ := List.length_eq_one_iff.1 h1
        rw [treeS_one]
        obtain ⟨b, o, rfl, hbB, hcell⟩ := HL.out.at_ (by simp)
        have hr := hcell 0 (by simp)
        have hd : d.length = 32 := HL.out.2.1 d (by simp)
        have HD := Lib.hid hd
        have hr1 : w.rangeAt b (o + 0) (d.map bv) := by simpa using hr
        have HR : Hid (∀ W, Below w.heap.size w W → W.rangeAt b (o + 0) (d.map bv)) := fun W hW i v hv => (hW.cell (p := ⟨b, _, none⟩) hbB).trans (hr1 i v hv)
        have HI : Hid ((Tryd.prog.info? 26).map (·.size) = some (d.map bv).length) := by show _ = _; rw [List.length_map, hd]; exact sha_size
        clear hN h0 h1 hcap hcell hr hr1 hd
        have HAL : Hid (Below w.heap.size w (w.alloc (.cells (bvA (List.replicate 32 0)) 26))) := (Below.refl _ _).alloc (Nat.le_refl _) _
        go_enter Tryd.func17, Tryd.ntmps17
        go_wp2_with (refine wpList_load_mid rfl 26 (.tmp 12) rfl b (o + 0) rfl (d.map bv) _ (HR.out _ HAL.out) digest_und rfl HI.out ?_)
        change Calls _ _ #[.agg (bvA d)] (w.alloc (.cells (bvA (List.replicate 32 0)) 26)) _
        obtain ⟨w1, hw1⟩ : ∃ w1, w1 = w.alloc (.cells (bvA (List.replicate 32 0)) 26) := ⟨_, rfl⟩
        have hB1 : Below w.heap.size w w1 := hw1 ▸ (Below.refl _ _).alloc (Nat.le_refl _) _
        have hD1 : BB w1 w.heap.size 26 (List.replicate 32 0) := hw1 ▸ BB.new w _ _
        rw [← hw1]
        clear hw1
        refine (leaf_any d HD.out w1 (HT.out.below hB1 HT.out.lt)).mono ?_
        rintro e w2 ⟨rfl, hb2⟩
        have HD2 := Lib.hid (hD1.below hb2 hD1.lt)
        have HB2 := Lib.hid (hB1.trans (hb2.mono hB1.size))
        clear hb2 hD1 hB1
        go_wp2_with (refine wpList_storeA rfl 26 (.tmp 2) (.tmp 14) rfl w.heap.size (bvA (leafS d)) rfl rfl 26 _ HD2.out (sha_sz _) (sha_old _) (bvA_one _) ?_)
        intro w9 h9 hg9
        have hB9 := grown_below HB2.out hg9 (Nat.le_refl _) HB2.out.size
        go_wp2_with fail
        refine bodyPost_ret (v := .agg (bvA (leafS d))) ?_ rfl ⟨rfl, hB9⟩
        exact results_cell_row rfl _ _ w.heap.size 26 _ (0, 0) _ rfl h9 digest_und rfl (sha_sz _)
      · have h2 : 2 ≤ l.length := by omega
        have hb := half_bd l.length h2
        obtain ⟨hb1, hb2, hb3⟩ := hb
        have hne0 : ((l.length : Int) == 0) = false := by rw [beq_eq_false_iff_ne]; omega
        have hne1 : ((l.length : Int) == 1) = false := by rw [beq_eq_false_iff_ne]; omega
        go_enter Tryd.func17, Tryd.ntmps17
        go_wp2_with fail
        refine (split_any l.length _ h2 (by unfold maxLen; omega)).mono ?_
        rintro e w1 ⟨rfl, rfl⟩
        have hs1 := sliceD_from a l.length cap (half l.length) (by omega)
        have hs2 := sliceD_to a l.length cap (half l.length) (by omega)
        go_wp2_with fail
        obtain ⟨X, hX⟩ : ∃ X, X = treeS (l.take (half l.length)) := ⟨_, rfl⟩
        obtain ⟨Y, hY⟩ : ∃ Y, Y = treeS (l.drop (half l.length)) := ⟨_, rfl⟩
        have HXY : Hid (treeS l = nodeS X Y) := by show _ = _; rw [treeS_node l h2, hX, hY]
        have c1 : Hid (∀ W, Below w.heap.size w W → Calls Tryd.prog 17 #[.slice a (half l.length) cap] W fun e w2 => e = .returned (.agg (bvA X)) ∧ Below W.heap.size W w2) := by
          intro W hW
          have h := ih a cap (l.take (half l.length)) W (by rw [List.length_take]; omega) (HT.out.below hW HT.out.lt) (((HL.out.take _).below hW).mono hW.size) (by rw [List.length_take]; omega) HC2.out
          rw [List.length_take, Nat.min_eq_left (by omega), ← hX] at h
          exact h
        have c2 : Hid (∀ W, Below w.heap.size w W → Calls Tryd.prog 17 #[tailD a l.length cap (half l.length)] W fun e w2 => e = .returned (.agg (bvA Y)) ∧ Below W.heap.size W w2) := by
          intro W hW
          have h := ih (if cap = half l.length then a else a.map (·.add (half l.length * 32))) (cap - half l.length) (l.drop (half l.length)) W (by rw [List.length_drop]; omega) (HT.out.below hW HT.out.lt) (((HL.out.drop hcap _).below hW).mono hW.size) (by rw [List.length_drop]; omega) (by unfold maxLen; omega)
          rw [List.length_drop, ← hY] at h
          exact h
        have c3 : Hid (∀ W, Below w.heap.size w W → Calls Tryd.prog 35 #[.agg (bvA X), .agg (bvA Y)] W fun e w2 => e = .returned (.agg (bvA (nodeS X Y))) ∧ Below W.heap.size W w2) := fun W hW =>
          node_any X Y (by rw [hX]; exact treeS_len _) (by rw [hY]; exact treeS_len _) W (HT.out.below hW HT.out.lt)
        clear hX hY hb1 hb2 hb3 hne0 hne1 h0 h1
        change Code.wp _ _ _ _ (w.alloc (.cells (bvA (List.replicate 32 0)) 26))
        obtain ⟨w1, hw1⟩ : ∃ w1, w1 = w.alloc (.cells (bvA (List.replicate 32 0)) 26) := ⟨_, rfl⟩
        have hB1 : Below w.heap.size w w1 := hw1 ▸ (Below.refl _ _).alloc (Nat.le_refl _) _
        have hD1 : BB w1 w.heap.size 26 (List.replicate 32 0) := hw1 ▸ BB.new w _ _
        rw [← hw1]
        clear hw1
        have HD1 := Lib.hid hD1
        have HB1 := Lib.hid hB1
        have hS1 : w1.drew.there w.heap.size 0 32 ∧ True := ⟨hD1.drew.there, trivial⟩
        have hg1 := hD1.lt
        clear hB1 hD1
        have hu := digest_und
        obtain ⟨cs, hcs⟩ : ∃ cs, cs = (nodeS X Y).map bv := ⟨_, rfl⟩
        have HCS := Lib.hid hcs
        have hln : cs.length = 32 := by rw [hcs, List.length_map]; exact sha_len _
        have hi : (Tryd.prog.info? 26).map (·.size) = some cs.length := by rw [hln]; exact sha_size
        have hone : ∀ v ∈ cs, v.oneCell' = true := by intro v hv; rw [hcs] at hv; obtain ⟨x, _, rfl⟩ := List.mem_map.1 hv; rfl
        have c4 : Hid (∀ W, Below w.heap.size w W → Calls Tryd.prog 35 #[.agg (bvA X), .agg (bvA Y)] W fun e w2 => e = .returned (.agg cs.toArray) ∧ Below W.heap.size W w2) := by show ∀ W, _ → _; rw [hcs]; exact c3.out
        clear hcs
        go_region_held3 (fun w' => w'.there w.heap.size 0 32 ∧ True)
          (first
            | exact hS4
            | exact hS3
            | exact hS2
            | exact hS1
            | go_keep_ranges)
          (first
            | (go_at_call 17
               with_reducible refine (c1.out _ ?_).mono ?_
               · exact HB1.out.drew
               rintro e w2 ⟨rfl, hb2⟩
               have hB2 := (HB1.out.drew).trans (hb2.mono HB1.out.size)
               have hS2 : w2.there w.heap.size 0 32 ∧ True := ⟨there_below hS1.1 hb2 hg1, trivial⟩
               have hz2 : w.heap.size < w2.heap.size := Nat.lt_of_lt_of_le hg1 hb2.size
               have HB2 := Lib.hid hB2
               clear hB2 hb2)
            | (go_at_call 17
               with_reducible refine (c2.out _ ?_).mono ?_
               · exact HB2.out
               rintro e w3 ⟨rfl, hb3⟩
               have hB3 := HB2.out.trans (hb3.mono HB2.out.size)
               have hS3 : w3.there w.heap.size 0 32 ∧ True := ⟨there_below hS2.1 hb3 hz2, trivial⟩
               have hz3 : w.heap.size < w3.heap.size := Nat.lt_of_lt_of_le hz2 hb3.size
               have HB3 := Lib.hid hB3
               clear hB3 hb3)
            | (go_at_call 35
               with_reducible refine (c4.out _ ?_).mono ?_
               · exact HB3.out
               rintro e w4 ⟨rfl, hb4⟩
               have hB4 := HB3.out.trans (hb4.mono HB3.out.size)
               have hS4 : w4.there w.heap.size 0 32 ∧ True := ⟨there_below hS3.1 hb4 hz3, trivial⟩
               have HB4 := Lib.hid hB4
               clear hB4 hb4))
        have hR4 := World.rangeAt_setCells_same w4 w.heap.size 0 cs (by rw [hln]; exact hS4.1)
        have hB5 := grown_below HB4.out (grown_setCells cs 0 w4 (grown_refl w4 w.heap.size)) (Nat.le_refl _) HB4.out.size
        clear hS1 hS2 hS3 hS4
        go_wp2_with fail
        refine bodyPost_ret (v := .agg cs.toArray) ?_ rfl ⟨by rw [HCS.out, HXY.out]; rfl, hB5⟩
        exact results_cell_mid rfl _ _ w.heap.size 0 cs _ rfl hR4 hu rfl hi
end Go.Proofs.YtndbhmipehpebaaDoor
