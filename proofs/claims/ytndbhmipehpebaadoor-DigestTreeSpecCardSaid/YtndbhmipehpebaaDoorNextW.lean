/-
  The walk of chartroomlaw02.DigestNext.
-/
import Derived.Test.YtndbhmipehpebaaDoorRgi
import Derived.Test.YtndbhmipehpebaaDoorOdg
namespace Go.Proofs.YtndbhmipehpebaaDoor
open Go.RowKit
set_option linter.unusedVariables false
set_option linter.unusedSimpArgs false

theorem frame_ex {a' : Act} {p : (Nat → Value) → Act} (h : a' = p (fun i => a'.tmps.getD i undef)) : ∃ f, a' = p f := ⟨_, h⟩
/-- []byte{}. -/
theorem wp_nilB' {o : Oper} {a : Act} {w : World} {K : Act → World → Prop} {Q : Exit → Act → World → Prop} (ho : o.op = .buildSlice 22 0 #[])
    (B : Nat) (hB : B ≤ w.heap.size) (h : ∀ w' v, OwnB B w' v [] → (∀ k, v.ownBlock = some k → w.heap.size ≤ k) → Below w.heap.size w w' → K (a.put o.dst v) w') : o.wp Tryd.prog a w K Q := by
  have hh := h _ _ (OwnB.empty hB) (fun k hk => by simp [Value.ownBlock] at hk; omega) ((Below.refl _ _).alloc (Nat.le_refl _) _)
  unfold Oper.wp execOp
  have hr : (Instr.buildSlice 22 0 #[]).run Tryd.prog w = .ok (.slice (some ⟨w.heap.size, 0, none⟩) 0 0) (w.alloc (.cells #[] 5)) := by kernel_rfl
  simp only [ho, Sem.run_bind, Sem.run_pure, Result.andThen_ok, Array.map_empty, List.map_toArray, List.map_nil, hr]
  exact hh
theorem wp_appDn {o : Oper} {a : Act} {w : World} {K : Act → World → Prop} {Q : Exit → Act → World → Prop} (s x : Operand)
    (ho : o.op = .call { callee := .builtin .append, args := #[s, x], argTypes := #[30, 30] })
    (B : Nat) (v : Value) (l l' : List (List UInt8)) (n : Nat) (ad : Option Addr) (cap : Nat) (hs : a.eval s = v) (hx : a.eval x = .slice ad n cap) (hn : n = l'.length) (hown : OwnD B w v l) (hr : RdD w.heap.size w ad l') (hnil : ad = none → cap = 0)
    (hlen : (l.length + l'.length) * 32 ≤ 140737488355328) (hB : B ≤ w.heap.size)
    (h : ∀ v' w', OwnD B w' v' (l ++ l') → Grew w v w' v' → K (a.put o.dst v') w') : o.wp Tryd.prog a w K Q := by
  subst hn
  exact wp_appD s x ho B v l l' ad cap hs hown hx hr hnil hlen hB h

theorem wp_appBm {o : Oper} {a : Act} {w : World} {K : Act → World → Prop} {Q : Exit → Act → World → Prop} (s x : Operand)
    (ho : o.op = .call { callee := .builtin .append, args := #[s, x], argTypes := #[22, 22] })
    (B : Nat) (v : Value) (l l' : List UInt8) (n : Nat) (ad : Option Addr) (cap : Nat) (hs : a.eval s = v) (hx : a.eval x = .slice ad n cap) (hn : n = l'.length) (hown : OwnB B w v l) (hr : RdB w.heap.size w ad l') (hnil : ad = none → cap = 0)
    (hlen : l.length + l'.length ≤ 140737488355328) (hB : B ≤ w.heap.size)
    (h : ∀ v' w', OwnB B w' v' (l ++ l') → Grew w v w' v' → K (a.put o.dst v') w') : o.wp Tryd.prog a w K Q := by
  subst hn
  exact wp_appB s x ho B v l l' ad cap hs hown hx hr hnil hlen hB h

/-- What stands while the first region's operations come up: the slots that have come up hold what they should, each in a block of its own. -/
def NxI (wr W : World) (L : Nat → Bool) (d X Y : List UInt8) (g7 g8 g27 : Nat) (q7 q8 q25 q27 q28 : Value) : Prop :=
  Below wr.heap.size wr W ∧ (L 3 = true → q25 = .agg (bvA X)) ∧ (L 6 = false → L 5 = true → q27 = .slice (some ⟨g27, 0, none⟩) 1 1 ∧ BB W g27 26 d) ∧ (L 6 = true → q28 = .agg (bvA Y)) ∧
  (L 7 = true → q7 = .pointer (some ⟨g7, 0, none⟩) ∧ wr.heap.size ≤ g7 ∧ BB W g7 26 (bif L 9 then X else List.replicate 32 0)) ∧
  (L 8 = true → q8 = .pointer (some ⟨g8, 0, none⟩) ∧ wr.heap.size ≤ g8 ∧ BB W g8 26 (bif L 10 then Y else List.replicate 32 0)) ∧
  (L 7 = true → L 8 = true → g7 ≠ g8) ∧ (L 9 = true → L 7 = true) ∧ (L 10 = true → L 8 = true)
section
variable {wr W W' : World} {L : Nat → Bool} {d X Y : List UInt8} {g7 g8 g27 : Nat} {q7 q8 q25 q27 q28 : Value}
theorem NxI.start (hb : Below wr.heap.size wr W) (h : (L 3 || L 5 || L 6 || L 7 || L 8 || L 9 || L 10) = false) : NxI wr W L d X Y g7 g8 g27 q7 q8 q25 q27 q28 := by
  simp only [Bool.or_eq_false_iff] at h
  obtain ⟨⟨⟨⟨⟨⟨h3, h5⟩, h6⟩, h7⟩, h8⟩, h9⟩, h10⟩ := h
  have no : ∀ {b : Bool} {p : Prop}, b = false → b = true → p := fun h1 h2 => by rw [h1] at h2; cases h2
  exact ⟨hb, no h3, fun _ => no h5, no h6, no h7, no h8, no h7, no h9, no h10⟩
theorem NxI.below (h : NxI wr W L d X Y g7 g8 g27 q7 q8 q25 q27 q28) (hb : Below W.heap.size W W') : NxI wr W' L d X Y g7 g8 g27 q7 q8 q25 q27 q28 := by
  obtain ⟨h0, h3, h5, h6, h7, h8, hne, hx, hy⟩ := h
  exact ⟨h0.trans (hb.mono h0.size), h3, fun a b => ⟨(h5 a b).1, (h5 a b).2.below hb (h5 a b).2.lt⟩, h6, fun a => ⟨(h7 a).1, (h7 a).2.1, (h7 a).2.2.below hb (h7 a).2.2.lt⟩, fun a => ⟨(h8 a).1, (h8 a).2.1, (h8 a).2.2.below hb (h8 a).2.2.lt⟩, hne, hx, hy⟩
theorem NxI.set3 (h : NxI wr W L d X Y g7 g8 g27 q7 q8 q25 q27 q28) : NxI wr W (fun j => (j == 3) || L j) d X Y g7 g8 g27 q7 q8 (.agg (bvA X)) q27 q28 := ⟨h.1, fun _ => rfl, h.2.2⟩
theorem NxI.set5 (h : NxI wr W L d X Y g7 g8 g27 q7 q8 q25 q27 q28) {g : Nat} (hn : BB W' g 26 d) (hb : Below W.heap.size W W') : NxI wr W' (fun j => (j == 5) || L j) d X Y g7 g8 g q7 q8 q25 (.slice (some ⟨g, 0, none⟩) 1 1) q28 := by
  obtain ⟨h0, h3, h5, h6, h7, h8, hne, hx, hy⟩ := h.below hb
  exact ⟨h0, h3, fun _ _ => ⟨rfl, hn⟩, h6, h7, h8, hne, hx, hy⟩
theorem NxI.set6 (h : NxI wr W L d X Y g7 g8 g27 q7 q8 q25 q27 q28) : NxI wr W (fun j => (j == 6) || L j) d X Y g7 g8 g27 q7 q8 q25 q27 (.agg (bvA Y)) :=
  ⟨h.1, h.2.1, (fun a => by cases a), fun _ => rfl, h.2.2.2.2⟩
theorem NxI.set7 (h : NxI wr W L d X Y g7 g8 g27 q7 q8 q25 q27 q28) (hL : L 7 = false) {g : Nat} (hn : BB W' g 26 (List.replicate 32 0)) (hge : W.heap.size ≤ g) (hb : Below W.heap.size W W') : NxI wr W' (fun j => (j == 7) || L j) d X Y g g8 g27 (.pointer (some ⟨g, 0, none⟩)) q8 q25 q27 q28 := by
  have h8' := h.2.2.2.2.2.1
  have hs := h.1.size
  obtain ⟨h0, h3, h5, h6, h7, h8, hne, hx, hy⟩ := h.below hb
  have h9 : L 9 = false := by cases h : L 9 with
    | true => rw [hx h] at hL; cases hL
    | false => rfl
  refine ⟨h0, h3, h5, h6, fun _ => ⟨rfl, Nat.le_trans hs hge, ?_⟩, h8, fun _ a => ?_, fun _ => rfl, hy⟩
  · show BB _ _ _ (bif L 9 then _ else _); rw [h9]; exact hn
  · have := (h8' a).2.2.lt; omega
theorem NxI.set8 (h : NxI wr W L d X Y g7 g8 g27 q7 q8 q25 q27 q28) (hL : L 8 = false) {g : Nat} (hn : BB W' g 26 (List.replicate 32 0)) (hge : W.heap.size ≤ g) (hb : Below W.heap.size W W') : NxI wr W' (fun j => (j == 8) || L j) d X Y g7 g g27 q7 (.pointer (some ⟨g, 0, none⟩)) q25 q27 q28 := by
  have h7' := h.2.2.2.2.1
  have hs := h.1.size
  obtain ⟨h0, h3, h5, h6, h7, h8, hne, hx, hy⟩ := h.below hb
  have h10 : L 10 = false := by cases h : L 10 with
    | true => rw [hy h] at hL; cases hL
    | false => rfl
  refine ⟨h0, h3, h5, h6, h7, fun _ => ⟨rfl, Nat.le_trans hs hge, ?_⟩, fun a _ => ?_, hx, fun _ => rfl⟩
  · show BB _ _ _ (bif L 10 then _ else _); rw [h10]; exact hn
  · have := (h7' a).2.2.lt; omega
theorem NxI.put9 (h : NxI wr W L d X Y g7 g8 g27 q7 q8 q25 q27 q28) (d6 : L 6 = true) (d7 : L 7 = true) (d8 : L 8 = true) (hn : BB W' g7 26 X) (hg : W.grownBy W' (some g7)) : NxI wr W' (fun j => (j == 9) || L j) d X Y g7 g8 g27 q7 q8 q25 q27 q28 := by
  obtain ⟨h0, h3, h5, h6, h7, h8, hne, hx, hy⟩ := h
  exact ⟨grown_below h0 hg (h7 d7).2.1 h0.size, h3, (fun a => absurd (show L 6 = false from a) (by rw [d6]; decide)), h6, fun a => ⟨(h7 d7).1, (h7 d7).2.1, hn⟩, fun a => ⟨(h8 a).1, (h8 a).2.1, (h8 a).2.2.grown hg (Ne.symm (hne d7 d8))⟩, hne, fun _ => d7, hy⟩
theorem NxI.put10 (h : NxI wr W L d X Y g7 g8 g27 q7 q8 q25 q27 q28) (d6 : L 6 = true) (d7 : L 7 = true) (d8 : L 8 = true) (hn : BB W' g8 26 Y) (hg : W.grownBy W' (some g8)) : NxI wr W' (fun j => (j == 10) || L j) d X Y g7 g8 g27 q7 q8 q25 q27 q28 := by
  obtain ⟨h0, h3, h5, h6, h7, h8, hne, hx, hy⟩ := h
  exact ⟨grown_below h0 hg (h8 d8).2.1 h0.size, h3, (fun a => absurd (show L 6 = false from a) (by rw [d6]; decide)), h6, fun a => ⟨(h7 d7).1, (h7 d7).2.1, (h7 d7).2.2.grown hg (hne d7 d8)⟩, fun a => ⟨(h8 d8).1, (h8 d8).2.1, hn⟩, hne, hx, fun _ => d8⟩
end

set_option maxRecDepth 100000 in
set_option maxHeartbeats 3200000 in
theorem next_walk (a : Option Addr) (cap : Nat) (l : List UInt8) (d : List UInt8) (hd : d.length = 32) (w : World) (hT : Tab w) (hl : RdB w.heap.size w a l) (hcap : l.length ≤ cap) (hc2 : cap ≤ maxLen) :
    Calls Tryd.prog 8 #[.slice a l.length cap, .agg (bvA d)] w fun e w' => e = .returned (.bool true) ∧ Below w.heap.size w w' := by
  have HT := Lib.hid hT
  have HL := Lib.hid hl
  have HC2 := Lib.hid hc2
  have HD := Lib.hid hd
  have hlt := HT.out.lt
  clear hT hl hd
  unfold maxLen at hc2
  go_enter Tryd.func8, Tryd.ntmps8
  go_wp2_with fail
  change Calls _ _ _ (w.alloc (.cells (bvA d) 26)) _
  obtain ⟨w1, hw1⟩ : ∃ w1, w1 = w.alloc (.cells (bvA d) 26) := ⟨_, rfl⟩
  have hB1 : Below w.heap.size w w1 := hw1 ▸ (Below.refl _ _).alloc (Nat.le_refl _) _
  have hA1 : BB w1 w.heap.size 26 d := hw1 ▸ BB.new w _ _
  rw [← hw1]
  clear hw1
  refine (sane_any w1 (HT.out.below hB1 hlt)).mono ?_
  rintro e w2 ⟨rfl, hb2⟩
  have HB2 := Lib.hid (hB1.trans (hb2.mono hB1.size))
  have HA2 := Lib.hid (hA1.below hb2 hA1.lt)
  clear hb2 hB1 hA1
  go_wp2_with fail
  refine (digestsOf_any a cap l w2 ((HL.out.below HB2.out).mono HB2.out.size) hcap HC2.out).mono ?_
  rintro e w3 ⟨v3, rfl, ho3, hb3⟩
  have hD24 := digs_len l
  have HD32 := Lib.hid (digs_32 l)
  generalize digs l = D at *
  have HB3 := Lib.hid (HB2.out.trans (hb3.mono HB2.out.size))
  have HA3 := Lib.hid (HA2.out.below hb3 HA2.out.lt)
  obtain ⟨av, cv, rfl, hf1, hf2, hf3, hf4⟩ := ho3.form
  have HV := Lib.hid hf4
  have HC3 := Lib.hid hf2
  have HN3 := Lib.hid hf3
  clear ho3 hb3 hf4 hf3 HB2 HA2
  unfold maxLen at hf2
  have HI : Hid ((Tryd.prog.info? 26).map (·.size) = some (d.map bv).length) := by show _ = _; rw [List.length_map, HD.out]; exact sha_size
  go_wp2_with fail
  go_loopw [6] (fun i wr => ∃ e n : Nat, i = .int .i64 n ∧ Hid (n = 2 ^ e) ∧ n ≤ 48 ∧ Below w3.heap.size w3 wr) (fun i _ => 100 - (intOf i).toNat)
  case atStart => exact ⟨0, 1, rfl, Lib.hid rfl, by omega, Below.refl _ _⟩
  case round =>
    obtain ⟨ex, n, rfl, hn2, hn48, hb⟩ := hrel
    have HBr := Lib.hid hb
    clear hb
    have hn1 : 1 ≤ n := by have := hn2.out; have := @Nat.one_le_two_pow ex; omega
    by_cases hle : n ≤ D.length
    · have f1 : decide ((n : Int) ≤ (D.length : Int)) = true := decide_eq_true (by omega)
      have hs2 := sliceD_to av D.length cv n (by omega)
      have HAr := Lib.hid (HA3.out.below HBr.out HA3.out.lt)
      have HVr := Lib.hid ((HV.out.below HBr.out).mono HBr.out.size)
      have HBw := Lib.hid (HB3.out.trans (HBr.out.mono HB3.out.size))
      have hTr : Tab wr := HT.out.below HBw.out hlt
      have HTr := Lib.hid hTr
      obtain ⟨X, hX⟩ : ∃ X, X = treeS (D.take n) := ⟨_, rfl⟩
      obtain ⟨Y, hY⟩ : ∃ Y, Y = treeS [d] := ⟨_, rfl⟩
      obtain ⟨LL, hLL⟩ : ∃ LL, LL = D.take n ++ [d] := ⟨_, rfl⟩
      have hLLl : LL.length = n + 1 := by rw [hLL, List.length_append, List.length_take, List.length_singleton]; omega
      have hhalf : n = half LL.length := by
        rw [hLLl, hn2.out]
        exact half_unique (2 ^ ex + 1) ex (by omega) (by rw [Nat.pow_succ]; have := @Nat.one_le_two_pow ex; omega)
      have htk : LL.take n = D.take n := by rw [hLL]; exact List.take_left' (by rw [List.length_take]; omega)
      have hdr : LL.drop n = [d] := by rw [hLL]; exact List.drop_left' (by rw [List.length_take]; omega)
      have hZ : treeS LL = tagS [110, 111, 100, 101] (X ++ Y) := by rw [treeS_node LL (by omega), ← hhalf, htk, hdr, hX, hY]; rfl
      have hP : pathS LL n = [X] := by rw [pathS_hi LL n (by omega) (by omega), ← hhalf, htk, hdr, hX, pathS_one _ _ (by simp)]; rfl
      have hX32 : X.length = 32 := by rw [hX]; exact treeS_len _
      have hY32 : Y.length = 32 := by rw [hY]; exact treeS_len _
      have c1 : Hid (∀ W, Below wr.heap.size wr W → Calls Tryd.prog 17 #[.slice av n cv] W fun e w2 => e = .returned (.agg (bvA X)) ∧ Below W.heap.size W w2) := by
        intro W hW
        have h := tree_any _ av cv (D.take n) W (Nat.lt_succ_self _) (HTr.out.below hW HTr.out.lt) (((HVr.out.take n).below hW).mono hW.size) (by rw [List.length_take]; omega) HC3.out
        rw [List.length_take, Nat.min_eq_left hle, ← hX] at h
        exact h
      have c2 : Hid (∀ W g, Below wr.heap.size wr W → BB W g 26 d → Calls Tryd.prog 17 #[.slice (some ⟨g, 0, none⟩) 1 1] W fun e w2 => e = .returned (.agg (bvA Y)) ∧ Below W.heap.size W w2) := by
        intro W g hW hg
        have h := tree_any _ (some ⟨g, 0, none⟩) 1 [d] W (Nat.lt_succ_self _) (HTr.out.below hW HTr.out.lt) (RdD.one hg HD.out) (Nat.le_refl _) (by unfold maxLen; omega)
        rw [← hY] at h
        exact h
      have HLL := Lib.hid hLL
      have HLLl := Lib.hid hLLl
      have HZ := Lib.hid hZ
      have HP := Lib.hid hP
      have HX32 := Lib.hid hX32
      have HY32 := Lib.hid hY32
      have HIX : Hid ((Tryd.prog.info? 26).map (·.size) = some (X.map bv).length) := by show _ = _; rw [List.length_map, hX32]; exact sha_size
      have HSX : Hid ((Tryd.prog.info? 26).map (·.size) = some (bvA X).size) := by show _ = _; rw [bvA_size, hX32]; exact sha_size
      have HSY : Hid ((Tryd.prog.info? 26).map (·.size) = some (bvA Y).size) := by show _ = _; rw [bvA_size, hY32]; exact sha_size
      have HOX : Hid ((bvA (List.replicate 32 0)).size = (bvA X).size) := by show _ = _; rw [bvA_size, bvA_size, hX32, List.length_replicate]
      have HOY : Hid ((bvA (List.replicate 32 0)).size = (bvA Y).size) := by show _ = _; rw [bvA_size, bvA_size, hY32, List.length_replicate]
      have HSB : Hid (∀ W, Below wr.heap.size wr W → W.rangeAt w.heap.size 0 (d.map bv)) := fun W hW => (HAr.out.below hW HAr.out.lt).range
      have HN2 := hn2
      clear hX hY hLL hLLl hhalf htk hdr hZ hP hX32 hY32 hTr hn2
      go_wp2_with fail
      rename_i K0 hK0
      refine region_mid (fun a' W => ∃ (g7 g8 : Nat), (∃ f : Nat → Value, a' = ⟨#[.slice a l.length cap, .agg (bvA d), undef, .pointer (some ⟨w.heap.size, 0, none⟩), f 4, .slice av D.length cv, .int .i64 n, .pointer (some ⟨g7, 0, none⟩), .pointer (some ⟨g8, 0, none⟩), f 9, f 10, f 11, .bool true, .bool false, .slice a l.length cap, .slice av D.length cv, f 16, f 17, f 18, f 19, f 20, f 21, f 22, f 23, f 24, f 25, f 26, f 27, f 28, f 29, f 30, f 31, f 32, f 33, f 34, f 35, f 36, f 37, f 38, f 39, f 40, f 41, f 42, f 43, f 44, f 45, f 46, f 47, f 48, f 49, f 50, f 51, f 52, f 53, f 54, f 55, f 56, f 57, f 58, f 59, f 60, f 61, f 62, f 63, f 64, f 65, f 66, f 67], []⟩) ∧ BB W g7 26 X ∧ BB W g8 26 Y ∧ Below wr.heap.size wr W) ?_ ?_
      rotate_left
      · clear hK0 K0
        have HB0 : Hid (Below wr.heap.size wr wr.drew) := (Below.refl _ _).drew
        refine wp_region_held_drew (S := fun w' => w'.rangeAt w.heap.size 0 (d.map bv)) (by kernel_rfl) (HSB.out _ HB0.out) (fun hHeld => ?_)
        refine wpAnyH_take (i := 0) (v := .slice av D.length cv) rfl (by kernel_rfl) (by kernel_rfl) (by kernel_rfl) (fun _ _ _ h => nomatch h.1) (Or.inl ⟨by rfl, fun w _ => by go_simp⟩) hHeld ?_
        simp only [Act.put, List.getElem_toArray, List.getElem_cons_zero, List.getElem_cons_succ, List.setIfInBounds_toArray, List.set_cons_zero, List.set_cons_succ]
        refine wpAnyH_take (i := 1) (v := .int .i64 n) rfl (by kernel_rfl) (by kernel_rfl) (by kernel_rfl) (fun _ _ _ h => nomatch h.1) (Or.inl ⟨by rfl, fun w _ => by go_simp⟩) hHeld ?_
        simp only [Act.put, List.getElem_toArray, List.getElem_cons_zero, List.getElem_cons_succ, List.setIfInBounds_toArray, List.set_cons_zero, List.set_cons_succ]
        refine wpAnyH_take (i := 2) (v := .slice av n cv) rfl (by kernel_rfl) (by kernel_rfl) (by kernel_rfl) (fun _ _ _ h => nomatch h.1) (Or.inl ⟨by rfl, fun w _ => by go_simp⟩) hHeld ?_
        simp only [Act.put, List.getElem_toArray, List.getElem_cons_zero, List.getElem_cons_succ, List.setIfInBounds_toArray, List.set_cons_zero, List.set_cons_succ]
        refine wpAnyH_take (i := 4) (v := .agg (bvA d)) rfl (by kernel_rfl) (by kernel_rfl) (by kernel_rfl) (fun _ _ _ h => nomatch h.1) (yieldsIf_load_mid (by rfl) 26 (.tmp 3) rfl w.heap.size 0 rfl (d.map bv) _ (fun _ h => h) digest_und rfl HI.out) hHeld ?_
        simp only [Act.put, List.getElem_toArray, List.getElem_cons_zero, List.getElem_cons_succ, List.setIfInBounds_toArray, List.set_cons_zero, List.set_cons_succ]
        refine wpAnyH_inv (fun L a' W => ∃ (g7 g8 g27 : Nat) (q7 q8 q25 q27 q28 : Value), (∃ f : Nat → Value, a' = ⟨#[.slice a l.length cap, .agg (bvA d), undef, .pointer (some ⟨w.heap.size, 0, none⟩), f 4, .slice av D.length cv, .int .i64 n, q7, q8, f 9, f 10, f 11, .bool true, .bool false, .slice a l.length cap, .slice av D.length cv, f 16, f 17, f 18, f 19, f 20, f 21, .slice av D.length cv, .int .i64 n, .slice av n cv, q25, .agg (bvA d), q27, q28, f 29, f 30, f 31, f 32, f 33, f 34, f 35, f 36, f 37, f 38, f 39, f 40, f 41, f 42, f 43, f 44, f 45, f 46, f 47, f 48, f 49, f 50, f 51, f 52, f 53, f 54, f 55, f 56, f 57, f 58, f 59, f 60, f 61, f 62, f 63, f 64, f 65, f 66, f 67], []⟩) ∧ Hid (NxI wr W L d X Y g7 g8 g27 q7 q8 q25 q27 q28)) [3, 5, 6, 7, 8, 9, 10] (by kernel_rfl) ?_ (HSB.out _ HB0.out) ?_ ?_
        · exact ⟨0, 0, 0, _, _, _, _, _, frame_ex rfl, Lib.hid (NxI.start HB0.out (by kernel_rfl))⟩
        · rintro L a' W ⟨g7, g8, g27, q7, q8, q25, q27, q28, ⟨f, rfl⟩, hN⟩ hSW hall
          obtain ⟨h0, _, _, _, h7, h8, _, _, _⟩ := hN.out
          obtain ⟨rfl, _, h7⟩ := h7 (hall 7 (by simp))
          obtain ⟨rfl, _, h8⟩ := h8 (hall 8 (by simp))
          rw [hall 9 (by simp)] at h7
          rw [hall 10 (by simp)] at h8
          exact ⟨rfl, g7, g8, frame_ex (by kernel_rfl), h7, h8, h0⟩
        refine StepsI.cons [2] rfl (by kernel_rfl) ?_ ?_
        · rintro L a' W ⟨g7, g8, g27, q7, q8, q25, q27, q28, ⟨f, rfl⟩, hN⟩ hSW hL hd K hK
          go_simp
          refine (c1.out _ hN.out.1).mono ?_
          rintro e W1 ⟨rfl, hb⟩
          have hM := (hN.out.below hb).set3
          try go_wp2_with fail
          refine hK.out _ _ (HSB.out _ hM.1) ?_
          exact ⟨g7, g8, g27, _, _, _, _, _, frame_ex (by kernel_rfl), Lib.hid hM⟩
        refine StepsI.cons [4] rfl (by kernel_rfl) ?_ ?_
        · rintro L a' W ⟨g7, g8, g27, q7, q8, q25, q27, q28, ⟨f, rfl⟩, hN⟩ hSW hL hd K hK
          rw [if_pos (by rfl)]
          refine wp_build1A (.tmp 26) rfl d HD.out rfl ?_
          intro W1 g hn hge hb
          have hM := hN.out.set5 hn hb
          refine hK.out _ _ (HSB.out _ hM.1) ?_
          exact ⟨g7, g8, g, _, _, _, _, _, frame_ex (by kernel_rfl), Lib.hid hM⟩
        refine StepsI.cons [5] rfl (by kernel_rfl) ?_ ?_
        · rintro L a' W ⟨g7, g8, g27, q7, q8, q25, q27, q28, ⟨f, rfl⟩, hN⟩ hSW hL hd K hK
          have h5 := hN.out.2.2.1 hL (hd 5 (by simp))
          obtain ⟨rfl, h5⟩ := h5
          have H5 := Lib.hid h5
          clear h5
          go_simp
          refine (c2.out _ _ hN.out.1 H5.out).mono ?_
          rintro e W1 ⟨rfl, hb⟩
          have hM := (hN.out.below hb).set6
          try go_wp2_with fail
          refine hK.out _ _ (HSB.out _ hM.1) ?_
          exact ⟨g7, g8, g27, _, _, _, _, _, frame_ex (by kernel_rfl), Lib.hid hM⟩
        refine StepsI.cons [] rfl (by kernel_rfl) ?_ ?_
        · rintro L a' W ⟨g7, g8, g27, q7, q8, q25, q27, q28, ⟨f, rfl⟩, hN⟩ hSW hL hd K hK
          rw [if_pos (by rfl)]
          refine wp_allocA rfl ?_
          intro W1 g hn hge hb
          have hM := hN.out.set7 hL hn hge hb
          refine hK.out _ _ (HSB.out _ hM.1) ?_
          exact ⟨g, g8, g27, _, _, _, _, _, frame_ex (by kernel_rfl), Lib.hid hM⟩
        refine StepsI.cons [] rfl (by kernel_rfl) ?_ ?_
        · rintro L a' W ⟨g7, g8, g27, q7, q8, q25, q27, q28, ⟨f, rfl⟩, hN⟩ hSW hL hd K hK
          rw [if_pos (by rfl)]
          refine wp_allocA rfl ?_
          intro W1 g hn hge hb
          have hM := hN.out.set8 hL hn hge hb
          refine hK.out _ _ (HSB.out _ hM.1) ?_
          exact ⟨g7, g, g27, _, _, _, _, _, frame_ex (by kernel_rfl), Lib.hid hM⟩
        refine StepsI.cons [3, 6, 7, 8] rfl (by kernel_rfl) ?_ ?_
        · rintro L a' W ⟨g7, g8, g27, q7, q8, q25, q27, q28, ⟨f, rfl⟩, hN⟩ hSW hL hd K hK
          have h3 := hN.out.2.1 (hd 3 (by simp))
          obtain ⟨rfl, hge, h7⟩ := hN.out.2.2.2.2.1 (hd 7 (by simp))
          subst h3
          rw [hL] at h7
          have H7 := Lib.hid h7
          clear h7
          rw [if_pos (by rfl)]
          refine wp_storeA 26 (.tmp 7) (.tmp 25) rfl g7 (bvA X) rfl rfl 26 _ H7.out HSX.out HOX.out (bvA_one _) ?_
          intro W1 hn hg
          have hM := hN.out.put9 (hd 6 (by simp)) (hd 7 (by simp)) (hd 8 (by simp)) hn hg
          refine hK.out _ _ (HSB.out _ hM.1) ?_
          exact ⟨g7, g8, g27, _, _, _, _, _, frame_ex (by kernel_rfl), Lib.hid hM⟩
        refine StepsI.cons [3, 6, 7, 8] rfl (by kernel_rfl) ?_ ?_
        · rintro L a' W ⟨g7, g8, g27, q7, q8, q25, q27, q28, ⟨f, rfl⟩, hN⟩ hSW hL hd K hK
          have h6 := hN.out.2.2.2.1 (hd 6 (by simp))
          obtain ⟨rfl, hge, h8⟩ := hN.out.2.2.2.2.2.1 (hd 8 (by simp))
          subst h6
          rw [hL] at h8
          have H8 := Lib.hid h8
          clear h8
          rw [if_pos (by rfl)]
          refine wp_storeA 26 (.tmp 8) (.tmp 28) rfl g8 (bvA Y) rfl rfl 26 _ H8.out HSY.out HOY.out (bvA_one _) ?_
          intro W1 hn hg
          have hM := hN.out.put10 (hd 6 (by simp)) (hd 7 (by simp)) (hd 8 (by simp)) hn hg
          refine hK.out _ _ (HSB.out _ hM.1) ?_
          exact ⟨g7, g8, g27, _, _, _, _, _, frame_ex (by kernel_rfl), Lib.hid hM⟩
        exact StepsI.nil
      rintro a' wa ⟨g7, g8, ⟨f, rfl⟩, hx7, hx8, hba⟩
      refine hK0 _ _ ?_
      clear hK0 K0
      have H7 := Lib.hid hx7
      have H8 := Lib.hid hx8
      have HBa := Lib.hid hba
      have HSa : Hid (∀ W, Below wa.heap.size wa W → W.rangeAt w.heap.size 0 (d.map bv)) := fun W hW => HSB.out W (HBa.out.trans (hW.mono HBa.out.size))
      have HVa : Hid (∀ W, Below wa.heap.size wa W → RdD W.heap.size W av (D.take n)) := fun W hW => ((((HVr.out.take n).below HBa.out).mono HBa.out.size).below hW).mono hW.size
      have HLTn : Hid (n = (D.take n).length) := by show _ = _; rw [List.length_take]; omega
      have HLA : Hid ((([] : List (List UInt8)).length + (D.take n).length) * 32 ≤ 140737488355328) := by show _ ≤ _; rw [List.length_take]; simp; omega
      have HLB : Hid (((D.take n).length + [d].length) * 32 ≤ 140737488355328) := by show _ ≤ _; rw [List.length_take]; simp; omega
      clear hx7 hx8 hba c1 c2 HSX HSY HOX HOY HSB
      go_wp2_with fail
      rename_i K0 hK0
      refine region_mid (fun a' W => ∃ (a9 : Option Addr) (c9 : Nat), (∃ f : Nat → Value, a' = ⟨#[.slice a l.length cap, .agg (bvA d), undef, .pointer (some ⟨w.heap.size, 0, none⟩), f 4, .slice av D.length cv, .int .i64 n, .pointer (some ⟨g7, 0, none⟩), .pointer (some ⟨g8, 0, none⟩), .slice a9 LL.length c9, f 10, f 11, .bool true, .bool false, .slice a l.length cap, .slice av D.length cv, f 16, f 17, f 18, f 19, f 20, f 21, f 22, f 23, f 24, f 25, f 26, f 27, f 28, f 29, f 30, f 31, f 32, f 33, f 34, f 35, f 36, f 37, f 38, f 39, f 40, f 41, f 42, f 43, f 44, f 45, f 46, f 47, f 48, f 49, f 50, f 51, f 52, f 53, f 54, f 55, f 56, f 57, f 58, f 59, f 60, f 61, f 62, f 63, f 64, f 65, f 66, f 67], []⟩) ∧ OwnD wa.heap.size W (.slice a9 LL.length c9) LL ∧ Below wa.heap.size wa W) ?_ ?_
      rotate_left
      · clear hK0 K0
        have HB0 : Hid (Below wa.heap.size wa wa.drew) := (Below.refl _ _).drew
        refine wp_region_held_drew (S := fun w' => w'.rangeAt w.heap.size 0 (d.map bv)) (by kernel_rfl) (HSa.out _ HB0.out) (fun hHeld => ?_)
        refine wpAnyH_take (i := 1) (v := .slice av D.length cv) rfl (by kernel_rfl) (by kernel_rfl) (by kernel_rfl) (fun _ _ _ h => nomatch h.1) (Or.inl ⟨by rfl, fun w _ => by go_simp⟩) hHeld ?_
        simp only [Act.put, List.getElem_toArray, List.getElem_cons_zero, List.getElem_cons_succ, List.setIfInBounds_toArray, List.set_cons_zero, List.set_cons_succ]
        refine wpAnyH_take (i := 2) (v := .int .i64 n) rfl (by kernel_rfl) (by kernel_rfl) (by kernel_rfl) (fun _ _ _ h => nomatch h.1) (Or.inl ⟨by rfl, fun w _ => by go_simp⟩) hHeld ?_
        simp only [Act.put, List.getElem_toArray, List.getElem_cons_zero, List.getElem_cons_succ, List.setIfInBounds_toArray, List.set_cons_zero, List.set_cons_succ]
        refine wpAnyH_take (i := 3) (v := .slice av n cv) rfl (by kernel_rfl) (by kernel_rfl) (by kernel_rfl) (fun _ _ _ h => nomatch h.1) (Or.inl ⟨by rfl, fun w _ => by go_simp⟩) hHeld ?_
        simp only [Act.put, List.getElem_toArray, List.getElem_cons_zero, List.getElem_cons_succ, List.setIfInBounds_toArray, List.set_cons_zero, List.set_cons_succ]
        refine wpAnyH_take (i := 5) (v := .agg (bvA d)) rfl (by kernel_rfl) (by kernel_rfl) (by kernel_rfl) (fun _ _ _ h => nomatch h.1) (yieldsIf_load_mid (by rfl) 26 (.tmp 3) rfl w.heap.size 0 rfl (d.map bv) _ (fun _ h => h) digest_und rfl HI.out) hHeld ?_
        simp only [Act.put, List.getElem_toArray, List.getElem_cons_zero, List.getElem_cons_succ, List.setIfInBounds_toArray, List.set_cons_zero, List.set_cons_succ]
        refine wpAnyH_ready (rs := [0, 6]) (by kernel_rfl) (by simp) ?_
        refine AllReadyH.cons rfl (fun K hK => ?_) ?_
        · rw [if_pos (by rfl)]
          refine wp_nilD rfl wa.heap.size HB0.out.size ?_
          intro W1 v1 ho hn hb
          have HO1 := Lib.hid ho
          have HB1 := Lib.hid (HB0.out.trans (hb.mono HB0.out.size))
          clear ho hn hb
          refine hK.out _ _ (HSa.out _ HB1.out) (fun hHeld => ?_)
          clear hK K
          try simp only [Act.put, List.getElem_toArray, List.getElem_cons_zero, List.getElem_cons_succ, List.setIfInBounds_toArray, List.set_cons_zero, List.set_cons_succ]
          refine wpAnyH_ready (rs := [4, 6]) (by kernel_rfl) (by simp) ?_
          refine AllReadyH.cons rfl (fun K hK => ?_) ?_
          · rw [if_pos (by rfl)]
            refine wp_appDn (.tmp 29) (.tmp 32) rfl wa.heap.size v1 [] (D.take n) n av cv (by rfl) (by rfl) HLTn.out HO1.out (HVa.out _ HB1.out) HN3.out HLA.out HB1.out.size ?_
            intro v2 W2 ho hg
            have HO2 : Hid (OwnD wa.heap.size W2 v2 (D.take n)) := ho
            have HB2 := Lib.hid (HB1.out.trans (hg.below HO1.out.base HB1.out.size))
            clear ho hg
            refine hK.out _ _ (HSa.out _ HB2.out) (fun hHeld => ?_)
            clear hK K
            try simp only [Act.put, List.getElem_toArray, List.getElem_cons_zero, List.getElem_cons_succ, List.setIfInBounds_toArray, List.set_cons_zero, List.set_cons_succ]
            refine wpAnyH_ready (rs := [6]) (by kernel_rfl) (by simp) ?_
            refine AllReadyH.cons rfl (fun K hK => ?_) ?_
            · rw [if_pos (by rfl)]
              refine wp_build1A (.tmp 34) rfl d HD.out rfl ?_
              intro W3 g35 hn hge hb
              have HX3 := Lib.hid hn
              have HNE : Hid (∀ k, v2.ownBlock = some k → k ≠ g35) := fun k hk => by have := HO2.out.lt k hk; omega
              have HO3 := Lib.hid (HO2.out.below hb)
              have HB3 := Lib.hid (HB2.out.trans (hb.mono HB2.out.size))
              clear hn hge hb
              refine hK.out _ _ (HSa.out _ HB3.out) (fun hHeld => ?_)
              clear hK K
              try simp only [Act.put, List.getElem_toArray, List.getElem_cons_zero, List.getElem_cons_succ, List.setIfInBounds_toArray, List.set_cons_zero, List.set_cons_succ]
              refine wpAnyH_ready (rs := [7]) (by kernel_rfl) (by simp) (AllReadyH.cons rfl (fun K hK => ?_) AllReadyH.nil)
              rw [if_pos (by rfl)]
              refine wp_appDn (.tmp 33) (.tmp 35) rfl wa.heap.size v2 (D.take n) [d] 1 (some ⟨g35, 0, none⟩) 1 (by rfl) (by rfl) rfl HO3.out (RdD.one HX3.out HD.out) (fun h => by cases h) HLB.out HB3.out.size ?_
              intro v4 W4 ho hg
              rw [← HLL.out] at ho
              have HB4 := Lib.hid (HB3.out.trans (hg.below HO3.out.base HB3.out.size))
              obtain ⟨a9, c9, rfl, _, _, _, _⟩ := ho.form
              have HO4 := Lib.hid ho
              clear ho hg
              refine hK.out _ _ (HSa.out _ HB4.out) (fun hHeld => ?_)
              clear hK K
              try simp only [Act.put, List.getElem_toArray, List.getElem_cons_zero, List.getElem_cons_succ, List.setIfInBounds_toArray, List.set_cons_zero, List.set_cons_succ]
              refine wpAnyH_take (i := 8) (v := .slice a9 LL.length c9) rfl (by kernel_rfl) (by kernel_rfl) (by kernel_rfl) (fun _ _ _ h => nomatch h.1) (Or.inl ⟨by rfl, fun w _ => by go_simp⟩) hHeld ?_
              simp only [Act.put, List.getElem_toArray, List.getElem_cons_zero, List.getElem_cons_succ, List.setIfInBounds_toArray, List.set_cons_zero, List.set_cons_succ]
              refine wpAnyH_done (by kernel_rfl) ?_ _
              exact ⟨rfl, a9, c9, frame_ex (by kernel_rfl), HO4.out, HB4.out⟩
            exact AllReadyH.nil
          refine AllReadyH.cons rfl (fun K hK => ?_) ?_
          · rw [if_pos (by rfl)]
            refine wp_build1A (.tmp 34) rfl d HD.out rfl ?_
            intro W5 g35 hn hge hb
            have HX5 := Lib.hid hn
            have HNE : Hid (∀ k, v1.ownBlock = some k → k ≠ g35) := fun k hk => by have := HO1.out.lt k hk; omega
            have HO5 := Lib.hid (HO1.out.below hb)
            have HB5 := Lib.hid (HB1.out.trans (hb.mono HB1.out.size))
            clear hn hge hb
            refine hK.out _ _ (HSa.out _ HB5.out) (fun hHeld => ?_)
            clear hK K
            try simp only [Act.put, List.getElem_toArray, List.getElem_cons_zero, List.getElem_cons_succ, List.setIfInBounds_toArray, List.set_cons_zero, List.set_cons_succ]
            refine wpAnyH_ready (rs := [4]) (by kernel_rfl) (by simp) ?_
            refine AllReadyH.cons rfl (fun K hK => ?_) ?_
            · rw [if_pos (by rfl)]
              refine wp_appDn (.tmp 29) (.tmp 32) rfl wa.heap.size v1 [] (D.take n) n av cv (by rfl) (by rfl) HLTn.out HO5.out (HVa.out _ HB5.out) HN3.out HLA.out HB5.out.size ?_
              intro v6 W6 ho hg
              have HO6 : Hid (OwnD wa.heap.size W6 v6 (D.take n)) := ho
              have HB6 := Lib.hid (HB5.out.trans (hg.below HO5.out.base HB5.out.size))
              have HX6 := Lib.hid (HX5.out.grownBy hg.grown (fun e => HNE.out _ e rfl))
              clear ho hg
              refine hK.out _ _ (HSa.out _ HB6.out) (fun hHeld => ?_)
              clear hK K
              try simp only [Act.put, List.getElem_toArray, List.getElem_cons_zero, List.getElem_cons_succ, List.setIfInBounds_toArray, List.set_cons_zero, List.set_cons_succ]
              refine wpAnyH_ready (rs := [7]) (by kernel_rfl) (by simp) (AllReadyH.cons rfl (fun K hK => ?_) AllReadyH.nil)
              rw [if_pos (by rfl)]
              refine wp_appDn (.tmp 33) (.tmp 35) rfl wa.heap.size v6 (D.take n) [d] 1 (some ⟨g35, 0, none⟩) 1 (by rfl) (by rfl) rfl HO6.out (RdD.one HX6.out HD.out) (fun h => by cases h) HLB.out HB6.out.size ?_
              intro v7 W7 ho hg
              rw [← HLL.out] at ho
              have HB7 := Lib.hid (HB6.out.trans (hg.below HO6.out.base HB6.out.size))
              obtain ⟨a9, c9, rfl, _, _, _, _⟩ := ho.form
              have HO7 := Lib.hid ho
              clear ho hg
              refine hK.out _ _ (HSa.out _ HB7.out) (fun hHeld => ?_)
              clear hK K
              try simp only [Act.put, List.getElem_toArray, List.getElem_cons_zero, List.getElem_cons_succ, List.setIfInBounds_toArray, List.set_cons_zero, List.set_cons_succ]
              refine wpAnyH_take (i := 8) (v := .slice a9 LL.length c9) rfl (by kernel_rfl) (by kernel_rfl) (by kernel_rfl) (fun _ _ _ h => nomatch h.1) (Or.inl ⟨by rfl, fun w _ => by go_simp⟩) hHeld ?_
              simp only [Act.put, List.getElem_toArray, List.getElem_cons_zero, List.getElem_cons_succ, List.setIfInBounds_toArray, List.set_cons_zero, List.set_cons_succ]
              refine wpAnyH_done (by kernel_rfl) ?_ _
              exact ⟨rfl, a9, c9, frame_ex (by kernel_rfl), HO7.out, HB7.out⟩
            exact AllReadyH.nil
          exact AllReadyH.nil
        refine AllReadyH.cons rfl (fun K hK => ?_) ?_
        · rw [if_pos (by rfl)]
          refine wp_build1A (.tmp 34) rfl d HD.out rfl ?_
          intro W8 g35 hn hge hb
          have HX8 := Lib.hid hn
          have HB8 := Lib.hid (HB0.out.trans (hb.mono HB0.out.size))
          clear hn hge hb
          refine hK.out _ _ (HSa.out _ HB8.out) (fun hHeld => ?_)
          clear hK K
          try simp only [Act.put, List.getElem_toArray, List.getElem_cons_zero, List.getElem_cons_succ, List.setIfInBounds_toArray, List.set_cons_zero, List.set_cons_succ]
          refine wpAnyH_ready (rs := [0]) (by kernel_rfl) (by simp) ?_
          refine AllReadyH.cons rfl (fun K hK => ?_) ?_
          · rw [if_pos (by rfl)]
            refine wp_nilD rfl wa.heap.size HB8.out.size ?_
            intro W9 v9 ho hn hb
            have HO9 := Lib.hid ho
            have HX9 := Lib.hid (HX8.out.below hb HX8.out.lt)
            have HNE : Hid (∀ k, v9.ownBlock = some k → k ≠ g35) := fun k hk => by have := hn k hk; have := HX8.out.lt; omega
            have HB9 := Lib.hid (HB8.out.trans (hb.mono HB8.out.size))
            clear ho hn hb
            refine hK.out _ _ (HSa.out _ HB9.out) (fun hHeld => ?_)
            clear hK K
            try simp only [Act.put, List.getElem_toArray, List.getElem_cons_zero, List.getElem_cons_succ, List.setIfInBounds_toArray, List.set_cons_zero, List.set_cons_succ]
            refine wpAnyH_ready (rs := [4]) (by kernel_rfl) (by simp) ?_
            refine AllReadyH.cons rfl (fun K hK => ?_) ?_
            · rw [if_pos (by rfl)]
              refine wp_appDn (.tmp 29) (.tmp 32) rfl wa.heap.size v9 [] (D.take n) n av cv (by rfl) (by rfl) HLTn.out HO9.out (HVa.out _ HB9.out) HN3.out HLA.out HB9.out.size ?_
              intro v10 W10 ho hg
              have HO10 : Hid (OwnD wa.heap.size W10 v10 (D.take n)) := ho
              have HB10 := Lib.hid (HB9.out.trans (hg.below HO9.out.base HB9.out.size))
              have HX10 := Lib.hid (HX9.out.grownBy hg.grown (fun e => HNE.out _ e rfl))
              clear ho hg
              refine hK.out _ _ (HSa.out _ HB10.out) (fun hHeld => ?_)
              clear hK K
              try simp only [Act.put, List.getElem_toArray, List.getElem_cons_zero, List.getElem_cons_succ, List.setIfInBounds_toArray, List.set_cons_zero, List.set_cons_succ]
              refine wpAnyH_ready (rs := [7]) (by kernel_rfl) (by simp) (AllReadyH.cons rfl (fun K hK => ?_) AllReadyH.nil)
              rw [if_pos (by rfl)]
              refine wp_appDn (.tmp 33) (.tmp 35) rfl wa.heap.size v10 (D.take n) [d] 1 (some ⟨g35, 0, none⟩) 1 (by rfl) (by rfl) rfl HO10.out (RdD.one HX10.out HD.out) (fun h => by cases h) HLB.out HB10.out.size ?_
              intro v11 W11 ho hg
              rw [← HLL.out] at ho
              have HB11 := Lib.hid (HB10.out.trans (hg.below HO10.out.base HB10.out.size))
              obtain ⟨a9, c9, rfl, _, _, _, _⟩ := ho.form
              have HO11 := Lib.hid ho
              clear ho hg
              refine hK.out _ _ (HSa.out _ HB11.out) (fun hHeld => ?_)
              clear hK K
              try simp only [Act.put, List.getElem_toArray, List.getElem_cons_zero, List.getElem_cons_succ, List.setIfInBounds_toArray, List.set_cons_zero, List.set_cons_succ]
              refine wpAnyH_take (i := 8) (v := .slice a9 LL.length c9) rfl (by kernel_rfl) (by kernel_rfl) (by kernel_rfl) (fun _ _ _ h => nomatch h.1) (Or.inl ⟨by rfl, fun w _ => by go_simp⟩) hHeld ?_
              simp only [Act.put, List.getElem_toArray, List.getElem_cons_zero, List.getElem_cons_succ, List.setIfInBounds_toArray, List.set_cons_zero, List.set_cons_succ]
              refine wpAnyH_done (by kernel_rfl) ?_ _
              exact ⟨rfl, a9, c9, frame_ex (by kernel_rfl), HO11.out, HB11.out⟩
            exact AllReadyH.nil
          exact AllReadyH.nil
        exact AllReadyH.nil
      rintro a' wb ⟨a9, c9, ⟨f, rfl⟩, hob, hbb⟩
      refine hK0 _ _ ?_
      clear hK0 K0
      have HBb := Lib.hid (HBa.out.trans (hbb.mono HBa.out.size))
      have H7b := Lib.hid (H7.out.below hbb H7.out.lt)
      have H8b := Lib.hid (H8.out.below hbb H8.out.lt)
      have HOb := Lib.hid hob
      have hob4 := hob.rdOf
      obtain ⟨hr1, hr2, hr3, hr4⟩ := hob4
      have HRb := Lib.hid hr1
      have HR3 := Lib.hid hr3
      have HTb : Hid (Tab wb) := HTr.out.below HBb.out HTr.out.lt
      clear hbb hob hr1 hr4 H7 H8 HBa HSa HVa HLTn HLA HLB HVr
      have hn9 : n < LL.length := by have := HLLl.out; omega
      have hl40 : LL.length ≤ 1099511627776 := by have := HLLl.out; omega
      have cP := Path_ok a9 c9 LL n wb HTb.out HRb.out hr2 HR3.out hn9 hl40
      rw [HP.out] at cP
      have HCP := Lib.hid cP
      clear cP
      go_wp2_with fail
      refine HCP.out.mono ?_
      rintro e wc ⟨vp, rfl, hoc, hbc⟩
      have HBc := Lib.hid (HBb.out.trans (hbc.mono HBb.out.size))
      have H7c := Lib.hid (H7b.out.below hbc H7b.out.lt)
      have H8c := Lib.hid (H8b.out.below hbc H8b.out.lt)
      have HRc := Lib.hid ((HRb.out.below hbc).mono hbc.size)
      obtain ⟨ap, cp, rfl, hp1, hp2, hp3, hp4⟩ := hoc.form
      obtain ⟨bp, op, rfl, hpB, hpc⟩ := hp4.at_ (by simp)
      have hpr := hpc 0 (by simp)
      have HPR : Hid (wc.rangeAt bp (op + 0) (X.map bv)) := by show World.rangeAt _ _ _ _; have h := hpr; simp only [Nat.zero_mul, List.getElem_cons_zero] at h; exact h
      have HPB := Lib.hid hpB
      have HTc : Hid (Tab wc) := HTr.out.below HBc.out HTr.out.lt
      clear hbc hoc hp1 hp2 hp3 hp4 hpc hpr hpB HCP H7b H8b HRb HBb HOb
      have c5 : Hid (∀ W, Below wc.heap.size wc W → Calls Tryd.prog 17 #[.slice a9 LL.length c9] W fun e w2 => e = .returned (.agg (bvA (treeS LL))) ∧ Below W.heap.size W w2) := fun W hW =>
        tree_any _ a9 c9 LL W (Nat.lt_succ_self _) (HTc.out.below hW HTc.out.lt) ((HRc.out.below hW).mono hW.size) hr2 HR3.out
      have c6 : Hid (∀ W a5 cap5, Below wc.heap.size wc W → RdB W.heap.size W a5 (X ++ Y) → (X ++ Y).length ≤ cap5 → cap5 ≤ maxLen → Calls Tryd.prog 14 #[.string ⟨#[110, 111, 100, 101]⟩, .slice a5 (X ++ Y).length cap5] W fun e w2 => e = .returned (.agg (bvA (treeS LL))) ∧ Below W.heap.size W w2) := by
        intro W a5 cap5 hW h5 h6 h7
        have hl : (X ++ Y).length = 64 := by rw [List.length_append, HX32.out, HY32.out]
        have h := Tagged_any ⟨#[110, 111, 100, 101]⟩ a5 cap5 (X ++ Y) W (HTc.out.below hW HTc.out.lt) h5 h6 h7 (by decide) (by omega)
        rw [HZ.out]
        exact h
      obtain ⟨Z, hZ⟩ : ∃ Z, Z = treeS LL := ⟨_, rfl⟩
      have hZ32 : Z.length = 32 := by rw [hZ]; exact treeS_len _
      rw [← hZ] at c5 c6
      have heq : ∀ W, (Op.equalIn 10000 26 (.agg (bvA Z)) (.agg (bvA Z))).run Tryd.prog W = .ok true W := equal_same Z hZ32
      have heqX : ∀ W, (Op.equalIn 10000 26 (.agg (bvA X)) (.agg (bvA X))).run Tryd.prog W = .ok true W := equal_same X HX32.out
      have hqg : Tryd.prog.eqGuardType Tryd.prog.depth 26 = false := by kernel_rfl
      have HLN : Hid (([] : List UInt8).length + X.length ≤ 140737488355328) := by show _ ≤ _; rw [HX32.out]; simp
      have HLM : Hid (X.length + Y.length ≤ 140737488355328) := by show _ ≤ _; rw [HX32.out, HY32.out]; omega
      have HS0 : Hid (∀ W, Below wc.heap.size wc W → W.rangeAt bp (op + 0) (X.map bv) ∧ W.rangeAt g7 0 (X.map bv)) := fun W hW =>
        ⟨fun i v hv => (hW.cell (p := ⟨bp, _, none⟩) HPB.out).trans (HPR.out i v hv), (H7c.out.below hW H7c.out.lt).range⟩
      obtain ⟨M, hM⟩ : ∃ M, X ++ Y = M := ⟨_, rfl⟩
      have HM := Lib.hid hM
      rw [hM] at c6
      clear hZ hZ32 HZ hM
      go_wp2_with fail
      rename_i K0 hK0
      refine region_mid (fun a' W => (∃ f : Nat → Value, a' = ⟨#[.slice a l.length cap, .agg (bvA d), undef, .pointer (some ⟨w.heap.size, 0, none⟩), f 4, .slice av D.length cv, .int .i64 n, .pointer (some ⟨g7, 0, none⟩), .pointer (some ⟨g8, 0, none⟩), .slice a9 LL.length c9, f 10, f 11, .bool true, .bool false, .slice a l.length cap, .slice av D.length cv, f 16, f 17, f 18, f 19, f 20, f 21, f 22, f 23, f 24, f 25, f 26, f 27, f 28, f 29, f 30, f 31, f 32, f 33, f 34, f 35, f 36, f 37, f 38, f 39, f 40, f 41, f 42, f 43, f 44, f 45, f 46, f 47, f 48, f 49, f 50, f 51, f 52, f 53, f 54, f 55, f 56, f 57, f 58, f 59, f 60, f 61, f 62, f 63, f 64, f 65, f 66, .bool false], []⟩) ∧ Below wc.heap.size wc W) ?_ ?_
      rotate_left
      · clear hK0 K0
        have HB0 : Hid (Below wc.heap.size wc wc.drew) := (Below.refl _ _).drew
        refine wp_region_held_drew (S := fun w' => w'.rangeAt bp (op + 0) (X.map bv) ∧ w'.rangeAt g7 0 (X.map bv)) (by kernel_rfl) (HS0.out _ HB0.out) (fun hHeld => ?_)
        refine wpAnyH_take (i := 0) (v := .slice a9 LL.length c9) rfl (by kernel_rfl) (by kernel_rfl) (by kernel_rfl) (fun _ _ _ h => nomatch h.1) (Or.inl ⟨by rfl, fun w _ => by go_simp⟩) hHeld ?_
        simp only [Act.put, List.getElem_toArray, List.getElem_cons_zero, List.getElem_cons_succ, List.setIfInBounds_toArray, List.set_cons_zero, List.set_cons_succ]
        refine wpAnyH_take (i := 3) (v := .slice (some ⟨g7, 0, none⟩) 32 32) rfl (by kernel_rfl) (by kernel_rfl) (by kernel_rfl) (fun _ _ _ h => nomatch h.1) (Or.inl ⟨by rfl, fun w _ => by go_simp⟩) hHeld ?_
        simp only [Act.put, List.getElem_toArray, List.getElem_cons_zero, List.getElem_cons_succ, List.setIfInBounds_toArray, List.set_cons_zero, List.set_cons_succ]
        refine wpAnyH_take (i := 5) (v := .slice (some ⟨g8, 0, none⟩) 32 32) rfl (by kernel_rfl) (by kernel_rfl) (by kernel_rfl) (fun _ _ _ h => nomatch h.1) (Or.inl ⟨by rfl, fun w _ => by go_simp⟩) hHeld ?_
        simp only [Act.put, List.getElem_toArray, List.getElem_cons_zero, List.getElem_cons_succ, List.setIfInBounds_toArray, List.set_cons_zero, List.set_cons_succ]
        refine wpAnyH_ready (rs := [1, 2]) (by kernel_rfl) (by simp) ?_
        refine AllReadyH.cons rfl (fun K hK => ?_) ?_
        ·
          go_simp
          refine (c5.out _ HB0.out).mono ?_
          rintro e W1 ⟨rfl, hb⟩
          have HB1 := Lib.hid (HB0.out.trans (hb.mono HB0.out.size))
          clear hb
          try go_wp2_with fail
          refine hK.out _ _ (HS0.out _ HB1.out) (fun hHeld => ?_)
          clear hK K
          try simp only [Act.put, List.getElem_toArray, List.getElem_cons_zero, List.getElem_cons_succ, List.setIfInBounds_toArray, List.set_cons_zero, List.set_cons_succ]
          refine wpAnyH_ready (rs := [2]) (by kernel_rfl) (by simp) (AllReadyH.cons rfl (fun K hK => ?_) AllReadyH.nil)
          rw [if_pos (by rfl)]
          refine wp_nilB' rfl wc.heap.size HB1.out.size ?_
          intro W2 vn ho hn hb
          have HB2 := Lib.hid (HB1.out.trans (hb.mono HB1.out.size))
          have HO2 := Lib.hid ho
          clear ho hn hb
          refine hK.out _ _ (HS0.out _ HB2.out) (fun hHeld => ?_)
          clear hK K
          try simp only [Act.put, List.getElem_toArray, List.getElem_cons_zero, List.getElem_cons_succ, List.setIfInBounds_toArray, List.set_cons_zero, List.set_cons_succ]
          refine wpAnyH_ready (rs := [4]) (by kernel_rfl) (by simp) (AllReadyH.cons rfl (fun K hK => ?_) AllReadyH.nil)
          rw [if_pos (by rfl)]
          refine wp_appBm (.tmp 45) (.tmp 46) rfl wc.heap.size vn [] X 32 (some ⟨g7, 0, none⟩) 32 (by rfl) (by rfl) HX32.out.symm HO2.out ((H7c.out.below HB2.out H7c.out.lt).rdB (by rw [HX32.out]; unfold maxLen; omega)) (fun h => by cases h) HLN.out HB2.out.size ?_
          intro v11 W11 ho hg
          have HO11 : Hid (OwnB wc.heap.size W11 v11 X) := ho
          have HB11 := Lib.hid (HB2.out.trans (hg.below HO2.out.base HB2.out.size))
          clear ho hg
          refine hK.out _ _ (HS0.out _ HB11.out) (fun hHeld => ?_)
          clear hK K
          try simp only [Act.put, List.getElem_toArray, List.getElem_cons_zero, List.getElem_cons_succ, List.setIfInBounds_toArray, List.set_cons_zero, List.set_cons_succ]
          refine wpAnyH_ready (rs := [6]) (by kernel_rfl) (by simp) (AllReadyH.cons rfl (fun K hK => ?_) AllReadyH.nil)
          rw [if_pos (by rfl)]
          refine wp_appBm (.tmp 47) (.tmp 48) rfl wc.heap.size v11 X Y 32 (some ⟨g8, 0, none⟩) 32 (by rfl) (by rfl) HY32.out.symm HO11.out ((H8c.out.below HB11.out H8c.out.lt).rdB (by rw [HY32.out]; unfold maxLen; omega)) (fun h => by cases h) HLM.out HB11.out.size ?_
          intro v12 W12 ho hg
          rw [HM.out] at ho
          have HB12 := Lib.hid (HB11.out.trans (hg.below HO11.out.base HB11.out.size))
          obtain ⟨a12, c12, rfl, _, _⟩ := ho.form
          have HO12 := Lib.hid ho
          clear ho hg
          refine hK.out _ _ (HS0.out _ HB12.out) (fun hHeld => ?_)
          clear hK K
          try simp only [Act.put, List.getElem_toArray, List.getElem_cons_zero, List.getElem_cons_succ, List.setIfInBounds_toArray, List.set_cons_zero, List.set_cons_succ]
          refine wpAnyH_ready (rs := [7]) (by kernel_rfl) (by simp) (AllReadyH.cons rfl (fun K hK => ?_) AllReadyH.nil)
          go_simp
          refine (c6.out _ _ _ HB12.out HO12.out.rdOf HO12.out.caps.1 HO12.out.caps.2).mono ?_
          rintro e W13 ⟨rfl, hb⟩
          have HB13 := Lib.hid (HB12.out.trans (hb.mono HB12.out.size))
          clear hb
          try go_wp2_with fail
          refine hK.out _ _ (HS0.out _ HB13.out) (fun hHeld => ?_)
          clear hK K
          try simp only [Act.put, List.getElem_toArray, List.getElem_cons_zero, List.getElem_cons_succ, List.setIfInBounds_toArray, List.set_cons_zero, List.set_cons_succ]
          refine wpAnyH_take (i := 8) (v := .bool false) rfl (by kernel_rfl) (by kernel_rfl) (by kernel_rfl) (fun _ _ _ h => nomatch h.1) (Or.inl ⟨by rfl, fun w _ => by go_simp⟩) hHeld ?_
          simp only [Act.put, List.getElem_toArray, List.getElem_cons_zero, List.getElem_cons_succ, List.setIfInBounds_toArray, List.set_cons_zero, List.set_cons_succ]
          refine wpAnyH_take (i := 9) (v := .bool false) rfl (by kernel_rfl) (by kernel_rfl) (by kernel_rfl) (fun _ _ _ h => nomatch h.1) (Or.inl ⟨by rfl, fun w _ => by go_simp⟩) hHeld ?_
          simp only [Act.put, List.getElem_toArray, List.getElem_cons_zero, List.getElem_cons_succ, List.setIfInBounds_toArray, List.set_cons_zero, List.set_cons_succ]
          refine wpAnyH_take (i := 10) (v := .int .i64 0) rfl (by kernel_rfl) (by kernel_rfl) (by kernel_rfl) (fun _ _ _ h => nomatch h.1) (Or.inl ⟨by rfl, fun w _ => by go_simp⟩) hHeld ?_
          simp only [Act.put, List.getElem_toArray, List.getElem_cons_zero, List.getElem_cons_succ, List.setIfInBounds_toArray, List.set_cons_zero, List.set_cons_succ]
          refine wpAnyH_take (i := 11) (v := .bool false) rfl (by kernel_rfl) (by kernel_rfl) (by kernel_rfl) (fun _ _ _ h => nomatch h.1) (Or.inl ⟨by rfl, fun w _ => by go_simp⟩) hHeld ?_
          simp only [Act.put, List.getElem_toArray, List.getElem_cons_zero, List.getElem_cons_succ, List.setIfInBounds_toArray, List.set_cons_zero, List.set_cons_succ]
          refine wpAnyH_take (i := 12) (v := .bool false) rfl (by kernel_rfl) (by kernel_rfl) (by kernel_rfl) (fun _ _ _ h => nomatch h.1) (Or.inl ⟨by rfl, fun w _ => by go_simp⟩) hHeld ?_
          simp only [Act.put, List.getElem_toArray, List.getElem_cons_zero, List.getElem_cons_succ, List.setIfInBounds_toArray, List.set_cons_zero, List.set_cons_succ]
          refine wpAnyH_take (i := 13) (v := .bool false) rfl (by kernel_rfl) (by kernel_rfl) (by kernel_rfl) (fun _ _ _ h => nomatch h.1) (Or.inl ⟨by rfl, fun w _ => by go_simp⟩) hHeld ?_
          simp only [Act.put, List.getElem_toArray, List.getElem_cons_zero, List.getElem_cons_succ, List.setIfInBounds_toArray, List.set_cons_zero, List.set_cons_succ]
          refine wpAnyH_take (i := 14) (v := .slice (some ⟨bp, op, none⟩) [X].length cp) rfl (by kernel_rfl) (by kernel_rfl) (by kernel_rfl) (fun _ _ _ h => nomatch h.1) (Or.inl ⟨by rfl, fun w _ => by go_simp⟩) hHeld ?_
          simp only [Act.put, List.getElem_toArray, List.getElem_cons_zero, List.getElem_cons_succ, List.setIfInBounds_toArray, List.set_cons_zero, List.set_cons_succ]
          refine wpAnyH_take (i := 15) (v := .int .i64 1) rfl (by kernel_rfl) (by kernel_rfl) (by kernel_rfl) (fun _ _ _ h => nomatch h.1) (Or.inl ⟨by rfl, fun w _ => by go_simp⟩) hHeld ?_
          simp only [Act.put, List.getElem_toArray, List.getElem_cons_zero, List.getElem_cons_succ, List.setIfInBounds_toArray, List.set_cons_zero, List.set_cons_succ]
          refine wpAnyH_take (i := 16) (v := .bool false) rfl (by kernel_rfl) (by kernel_rfl) (by kernel_rfl) (fun _ _ _ h => nomatch h.1) (Or.inl ⟨by rfl, fun w _ => by go_simp⟩) hHeld ?_
          simp only [Act.put, List.getElem_toArray, List.getElem_cons_zero, List.getElem_cons_succ, List.setIfInBounds_toArray, List.set_cons_zero, List.set_cons_succ]
          refine wpAnyH_take (i := 17) (v := .bool false) rfl (by kernel_rfl) (by kernel_rfl) (by kernel_rfl) (fun _ _ _ h => nomatch h.1) (Or.inl ⟨by rfl, fun w _ => by go_simp⟩) hHeld ?_
          simp only [Act.put, List.getElem_toArray, List.getElem_cons_zero, List.getElem_cons_succ, List.setIfInBounds_toArray, List.set_cons_zero, List.set_cons_succ]
          refine wpAnyH_take (i := 18) (v := .bool false) rfl (by kernel_rfl) (by kernel_rfl) (by kernel_rfl) (fun _ _ _ h => nomatch h.1) (Or.inl ⟨by rfl, fun w _ => by go_simp⟩) hHeld ?_
          simp only [Act.put, List.getElem_toArray, List.getElem_cons_zero, List.getElem_cons_succ, List.setIfInBounds_toArray, List.set_cons_zero, List.set_cons_succ]
          refine wpAnyH_take (i := 19) (v := .slice (some ⟨bp, op, none⟩) [X].length cp) rfl (by kernel_rfl) (by kernel_rfl) (by kernel_rfl) (fun _ _ _ h => nomatch h.1) (Or.inl ⟨by rfl, fun w _ => by go_simp⟩) hHeld ?_
          simp only [Act.put, List.getElem_toArray, List.getElem_cons_zero, List.getElem_cons_succ, List.setIfInBounds_toArray, List.set_cons_zero, List.set_cons_succ]
          refine wpAnyH_take (i := 20) (v := .pointer (some ⟨bp, op + 0, none⟩)) rfl (by kernel_rfl) (by kernel_rfl) (by kernel_rfl) (fun _ _ _ h => nomatch h.1) (Or.inl ⟨by rfl, fun w _ => by go_simp⟩) hHeld ?_
          simp only [Act.put, List.getElem_toArray, List.getElem_cons_zero, List.getElem_cons_succ, List.setIfInBounds_toArray, List.set_cons_zero, List.set_cons_succ]
          refine wpAnyH_take (i := 21) (v := .agg (bvA X)) rfl (by kernel_rfl) (by kernel_rfl) (by kernel_rfl) (fun _ _ _ h => nomatch h.1) (yieldsIf_load_mid (by rfl) 26 (.tmp 63) rfl bp (op + 0) rfl (X.map bv) _ (fun _ h => h.1) digest_und rfl HIX.out) hHeld ?_
          simp only [Act.put, List.getElem_toArray, List.getElem_cons_zero, List.getElem_cons_succ, List.setIfInBounds_toArray, List.set_cons_zero, List.set_cons_succ]
          refine wpAnyH_take (i := 22) (v := .agg (bvA X)) rfl (by kernel_rfl) (by kernel_rfl) (by kernel_rfl) (fun _ _ _ h => nomatch h.1) (yieldsIf_load_mid (by rfl) 26 (.tmp 7) rfl g7 0 rfl (X.map bv) _ (fun _ h => h.2) digest_und rfl HIX.out) hHeld ?_
          simp only [Act.put, List.getElem_toArray, List.getElem_cons_zero, List.getElem_cons_succ, List.setIfInBounds_toArray, List.set_cons_zero, List.set_cons_succ]
          refine wpAnyH_take (i := 23) (v := .bool false) rfl (by kernel_rfl) (by kernel_rfl) (by kernel_rfl) (fun _ _ _ h => nomatch h.1) (Or.inl ⟨by rfl, fun w _ => by go_simp⟩) hHeld ?_
          simp only [Act.put, List.getElem_toArray, List.getElem_cons_zero, List.getElem_cons_succ, List.setIfInBounds_toArray, List.set_cons_zero, List.set_cons_succ]
          refine wpAnyH_take (i := 24) (v := .bool false) rfl (by kernel_rfl) (by kernel_rfl) (by kernel_rfl) (fun _ _ _ h => nomatch h.1) (Or.inl ⟨by rfl, fun w _ => by go_simp⟩) hHeld ?_
          simp only [Act.put, List.getElem_toArray, List.getElem_cons_zero, List.getElem_cons_succ, List.setIfInBounds_toArray, List.set_cons_zero, List.set_cons_succ]
          refine wpAnyH_done (by kernel_rfl) ?_ _
          exact ⟨rfl, frame_ex (by kernel_rfl), HB13.out⟩
        refine AllReadyH.cons rfl (fun K hK => ?_) AllReadyH.nil
        ·
          rw [if_pos (by rfl)]
          refine wp_nilB' rfl wc.heap.size HB0.out.size ?_
          intro W1 vn ho hn hb
          have HB1 := Lib.hid (HB0.out.trans (hb.mono HB0.out.size))
          have HO1 := Lib.hid ho
          clear ho hn hb
          refine hK.out _ _ (HS0.out _ HB1.out) (fun hHeld => ?_)
          clear hK K
          try simp only [Act.put, List.getElem_toArray, List.getElem_cons_zero, List.getElem_cons_succ, List.setIfInBounds_toArray, List.set_cons_zero, List.set_cons_succ]
          refine wpAnyH_ready (rs := [1]) (by kernel_rfl) (by simp) (AllReadyH.cons rfl (fun K hK => ?_) AllReadyH.nil)
          go_simp
          refine (c5.out _ HB1.out).mono ?_
          rintro e W2 ⟨rfl, hb⟩
          have HB2 := Lib.hid (HB1.out.trans (hb.mono HB1.out.size))
          have HO2 := Lib.hid (HO1.out.below hb)
          clear hb
          try go_wp2_with fail
          refine hK.out _ _ (HS0.out _ HB2.out) (fun hHeld => ?_)
          clear hK K
          try simp only [Act.put, List.getElem_toArray, List.getElem_cons_zero, List.getElem_cons_succ, List.setIfInBounds_toArray, List.set_cons_zero, List.set_cons_succ]
          refine wpAnyH_ready (rs := [4]) (by kernel_rfl) (by simp) (AllReadyH.cons rfl (fun K hK => ?_) AllReadyH.nil)
          rw [if_pos (by rfl)]
          refine wp_appBm (.tmp 45) (.tmp 46) rfl wc.heap.size vn [] X 32 (some ⟨g7, 0, none⟩) 32 (by rfl) (by rfl) HX32.out.symm HO2.out ((H7c.out.below HB2.out H7c.out.lt).rdB (by rw [HX32.out]; unfold maxLen; omega)) (fun h => by cases h) HLN.out HB2.out.size ?_
          intro v11 W11 ho hg
          have HO11 : Hid (OwnB wc.heap.size W11 v11 X) := ho
          have HB11 := Lib.hid (HB2.out.trans (hg.below HO2.out.base HB2.out.size))
          clear ho hg
          refine hK.out _ _ (HS0.out _ HB11.out) (fun hHeld => ?_)
          clear hK K
          try simp only [Act.put, List.getElem_toArray, List.getElem_cons_zero, List.getElem_cons_succ, List.setIfInBounds_toArray, List.set_cons_zero, List.set_cons_succ]
          refine wpAnyH_ready (rs := [6]) (by kernel_rfl) (by simp) (AllReadyH.cons rfl (fun K hK => ?_) AllReadyH.nil)
          rw [if_pos (by rfl)]
          refine wp_appBm (.tmp 47) (.tmp 48) rfl wc.heap.size v11 X Y 32 (some ⟨g8, 0, none⟩) 32 (by rfl) (by rfl) HY32.out.symm HO11.out ((H8c.out.below HB11.out H8c.out.lt).rdB (by rw [HY32.out]; unfold maxLen; omega)) (fun h => by cases h) HLM.out HB11.out.size ?_
          intro v12 W12 ho hg
          rw [HM.out] at ho
          have HB12 := Lib.hid (HB11.out.trans (hg.below HO11.out.base HB11.out.size))
          obtain ⟨a12, c12, rfl, _, _⟩ := ho.form
          have HO12 := Lib.hid ho
          clear ho hg
          refine hK.out _ _ (HS0.out _ HB12.out) (fun hHeld => ?_)
          clear hK K
          try simp only [Act.put, List.getElem_toArray, List.getElem_cons_zero, List.getElem_cons_succ, List.setIfInBounds_toArray, List.set_cons_zero, List.set_cons_succ]
          refine wpAnyH_ready (rs := [7]) (by kernel_rfl) (by simp) (AllReadyH.cons rfl (fun K hK => ?_) AllReadyH.nil)
          go_simp
          refine (c6.out _ _ _ HB12.out HO12.out.rdOf HO12.out.caps.1 HO12.out.caps.2).mono ?_
          rintro e W13 ⟨rfl, hb⟩
          have HB13 := Lib.hid (HB12.out.trans (hb.mono HB12.out.size))
          clear hb
          try go_wp2_with fail
          refine hK.out _ _ (HS0.out _ HB13.out) (fun hHeld => ?_)
          clear hK K
          try simp only [Act.put, List.getElem_toArray, List.getElem_cons_zero, List.getElem_cons_succ, List.setIfInBounds_toArray, List.set_cons_zero, List.set_cons_succ]
          refine wpAnyH_take (i := 8) (v := .bool false) rfl (by kernel_rfl) (by kernel_rfl) (by kernel_rfl) (fun _ _ _ h => nomatch h.1) (Or.inl ⟨by rfl, fun w _ => by go_simp⟩) hHeld ?_
          simp only [Act.put, List.getElem_toArray, List.getElem_cons_zero, List.getElem_cons_succ, List.setIfInBounds_toArray, List.set_cons_zero, List.set_cons_succ]
          refine wpAnyH_take (i := 9) (v := .bool false) rfl (by kernel_rfl) (by kernel_rfl) (by kernel_rfl) (fun _ _ _ h => nomatch h.1) (Or.inl ⟨by rfl, fun w _ => by go_simp⟩) hHeld ?_
          simp only [Act.put, List.getElem_toArray, List.getElem_cons_zero, List.getElem_cons_succ, List.setIfInBounds_toArray, List.set_cons_zero, List.set_cons_succ]
          refine wpAnyH_take (i := 10) (v := .int .i64 0) rfl (by kernel_rfl) (by kernel_rfl) (by kernel_rfl) (fun _ _ _ h => nomatch h.1) (Or.inl ⟨by rfl, fun w _ => by go_simp⟩) hHeld ?_
          simp only [Act.put, List.getElem_toArray, List.getElem_cons_zero, List.getElem_cons_succ, List.setIfInBounds_toArray, List.set_cons_zero, List.set_cons_succ]
          refine wpAnyH_take (i := 11) (v := .bool false) rfl (by kernel_rfl) (by kernel_rfl) (by kernel_rfl) (fun _ _ _ h => nomatch h.1) (Or.inl ⟨by rfl, fun w _ => by go_simp⟩) hHeld ?_
          simp only [Act.put, List.getElem_toArray, List.getElem_cons_zero, List.getElem_cons_succ, List.setIfInBounds_toArray, List.set_cons_zero, List.set_cons_succ]
          refine wpAnyH_take (i := 12) (v := .bool false) rfl (by kernel_rfl) (by kernel_rfl) (by kernel_rfl) (fun _ _ _ h => nomatch h.1) (Or.inl ⟨by rfl, fun w _ => by go_simp⟩) hHeld ?_
          simp only [Act.put, List.getElem_toArray, List.getElem_cons_zero, List.getElem_cons_succ, List.setIfInBounds_toArray, List.set_cons_zero, List.set_cons_succ]
          refine wpAnyH_take (i := 13) (v := .bool false) rfl (by kernel_rfl) (by kernel_rfl) (by kernel_rfl) (fun _ _ _ h => nomatch h.1) (Or.inl ⟨by rfl, fun w _ => by go_simp⟩) hHeld ?_
          simp only [Act.put, List.getElem_toArray, List.getElem_cons_zero, List.getElem_cons_succ, List.setIfInBounds_toArray, List.set_cons_zero, List.set_cons_succ]
          refine wpAnyH_take (i := 14) (v := .slice (some ⟨bp, op, none⟩) [X].length cp) rfl (by kernel_rfl) (by kernel_rfl) (by kernel_rfl) (fun _ _ _ h => nomatch h.1) (Or.inl ⟨by rfl, fun w _ => by go_simp⟩) hHeld ?_
          simp only [Act.put, List.getElem_toArray, List.getElem_cons_zero, List.getElem_cons_succ, List.setIfInBounds_toArray, List.set_cons_zero, List.set_cons_succ]
          refine wpAnyH_take (i := 15) (v := .int .i64 1) rfl (by kernel_rfl) (by kernel_rfl) (by kernel_rfl) (fun _ _ _ h => nomatch h.1) (Or.inl ⟨by rfl, fun w _ => by go_simp⟩) hHeld ?_
          simp only [Act.put, List.getElem_toArray, List.getElem_cons_zero, List.getElem_cons_succ, List.setIfInBounds_toArray, List.set_cons_zero, List.set_cons_succ]
          refine wpAnyH_take (i := 16) (v := .bool false) rfl (by kernel_rfl) (by kernel_rfl) (by kernel_rfl) (fun _ _ _ h => nomatch h.1) (Or.inl ⟨by rfl, fun w _ => by go_simp⟩) hHeld ?_
          simp only [Act.put, List.getElem_toArray, List.getElem_cons_zero, List.getElem_cons_succ, List.setIfInBounds_toArray, List.set_cons_zero, List.set_cons_succ]
          refine wpAnyH_take (i := 17) (v := .bool false) rfl (by kernel_rfl) (by kernel_rfl) (by kernel_rfl) (fun _ _ _ h => nomatch h.1) (Or.inl ⟨by rfl, fun w _ => by go_simp⟩) hHeld ?_
          simp only [Act.put, List.getElem_toArray, List.getElem_cons_zero, List.getElem_cons_succ, List.setIfInBounds_toArray, List.set_cons_zero, List.set_cons_succ]
          refine wpAnyH_take (i := 18) (v := .bool false) rfl (by kernel_rfl) (by kernel_rfl) (by kernel_rfl) (fun _ _ _ h => nomatch h.1) (Or.inl ⟨by rfl, fun w _ => by go_simp⟩) hHeld ?_
          simp only [Act.put, List.getElem_toArray, List.getElem_cons_zero, List.getElem_cons_succ, List.setIfInBounds_toArray, List.set_cons_zero, List.set_cons_succ]
          refine wpAnyH_take (i := 19) (v := .slice (some ⟨bp, op, none⟩) [X].length cp) rfl (by kernel_rfl) (by kernel_rfl) (by kernel_rfl) (fun _ _ _ h => nomatch h.1) (Or.inl ⟨by rfl, fun w _ => by go_simp⟩) hHeld ?_
          simp only [Act.put, List.getElem_toArray, List.getElem_cons_zero, List.getElem_cons_succ, List.setIfInBounds_toArray, List.set_cons_zero, List.set_cons_succ]
          refine wpAnyH_take (i := 20) (v := .pointer (some ⟨bp, op + 0, none⟩)) rfl (by kernel_rfl) (by kernel_rfl) (by kernel_rfl) (fun _ _ _ h => nomatch h.1) (Or.inl ⟨by rfl, fun w _ => by go_simp⟩) hHeld ?_
          simp only [Act.put, List.getElem_toArray, List.getElem_cons_zero, List.getElem_cons_succ, List.setIfInBounds_toArray, List.set_cons_zero, List.set_cons_succ]
          refine wpAnyH_take (i := 21) (v := .agg (bvA X)) rfl (by kernel_rfl) (by kernel_rfl) (by kernel_rfl) (fun _ _ _ h => nomatch h.1) (yieldsIf_load_mid (by rfl) 26 (.tmp 63) rfl bp (op + 0) rfl (X.map bv) _ (fun _ h => h.1) digest_und rfl HIX.out) hHeld ?_
          simp only [Act.put, List.getElem_toArray, List.getElem_cons_zero, List.getElem_cons_succ, List.setIfInBounds_toArray, List.set_cons_zero, List.set_cons_succ]
          refine wpAnyH_take (i := 22) (v := .agg (bvA X)) rfl (by kernel_rfl) (by kernel_rfl) (by kernel_rfl) (fun _ _ _ h => nomatch h.1) (yieldsIf_load_mid (by rfl) 26 (.tmp 7) rfl g7 0 rfl (X.map bv) _ (fun _ h => h.2) digest_und rfl HIX.out) hHeld ?_
          simp only [Act.put, List.getElem_toArray, List.getElem_cons_zero, List.getElem_cons_succ, List.setIfInBounds_toArray, List.set_cons_zero, List.set_cons_succ]
          refine wpAnyH_take (i := 23) (v := .bool false) rfl (by kernel_rfl) (by kernel_rfl) (by kernel_rfl) (fun _ _ _ h => nomatch h.1) (Or.inl ⟨by rfl, fun w _ => by go_simp⟩) hHeld ?_
          simp only [Act.put, List.getElem_toArray, List.getElem_cons_zero, List.getElem_cons_succ, List.setIfInBounds_toArray, List.set_cons_zero, List.set_cons_succ]
          refine wpAnyH_take (i := 24) (v := .bool false) rfl (by kernel_rfl) (by kernel_rfl) (by kernel_rfl) (fun _ _ _ h => nomatch h.1) (Or.inl ⟨by rfl, fun w _ => by go_simp⟩) hHeld ?_
          simp only [Act.put, List.getElem_toArray, List.getElem_cons_zero, List.getElem_cons_succ, List.setIfInBounds_toArray, List.set_cons_zero, List.set_cons_succ]
          refine wpAnyH_done (by kernel_rfl) ?_ _
          exact ⟨rfl, frame_ex (by kernel_rfl), HB13.out⟩
      rintro a' we ⟨⟨f, rfl⟩, hbe⟩
      refine hK0 _ _ ?_
      clear hK0 K0
      have HBe := Lib.hid (HBr.out.trans ((HBc.out.trans (hbe.mono HBc.out.size)).mono HBr.out.size))
      clear hbe
      go_wp2_with fail
      go_roundw
      case rel => exact ⟨ex + 1, 2 * n, by go_num, by show _ = _; rw [HN2.out, Nat.pow_succ]; omega, by omega, HBe.out⟩
      case measure => simp [intOf]; omega
    · have f1 : decide ((n : Int) ≤ (D.length : Int)) = false := decide_eq_false (by omega)
      go_wp2_with fail
      go_ret
      exact ⟨rfl, HB3.out.trans (HBr.out.mono HB3.out.size)⟩

end Go.Proofs.YtndbhmipehpebaaDoor
