/-
  Package vector: two vectors compared, pair by pair.
-/
import Derived.Test.YtfdfaajjlangjaaMq
namespace Go.Proofs.Ytfdfaajjlangjaa
open Go.RowKit Go.Shelf
set_option linter.unusedVariables false
set_option linter.unusedSimpArgs false
attribute [local go_sem] Oper.semAt_some

/-- How two numbers compare. -/
def sgV (x y : Int) : Int := if x < y then -1 else if y < x then 1 else 0
/-- What has come of the devices so far. -/
structure CpS (a b : Int → Int) (pre : List Int) (n : Int) : Prop where
  z : n = 0 → ∀ k ∈ pre, a k = b k
  p : n = 1 → (∀ k ∈ pre, b k ≤ a k) ∧ ∃ k ∈ pre, b k < a k
  q : n = -1 → (∀ k ∈ pre, a k ≤ b k) ∧ ∃ k ∈ pre, a k < b k
  r : n = 0 ∨ n = 1 ∨ n = -1
theorem sgV_cases (x y : Int) : (sgV x y = -1 ∧ x < y) ∨ (sgV x y = 1 ∧ y < x) ∨ (sgV x y = 0 ∧ x = y) := by
  unfold sgV
  split
  · exact .inl ⟨rfl, by assumption⟩
  · split
    · exact .inr (.inl ⟨rfl, by assumption⟩)
    · exact .inr (.inr ⟨rfl, by omega⟩)
theorem CpS.nil (a b : Int → Int) : CpS a b [] 0 := ⟨fun _ k h => (by cases h), fun h => (by omega), fun h => (by omega), .inl rfl⟩
theorem all_snoc {pre : List Int} {k : Int} {p : Int → Prop} (h : ∀ x ∈ pre, p x) (hk : p k) : ∀ x ∈ pre ++ [k], p x := by
  intro x hx
  rcases List.mem_append.1 hx with hx | hx
  · exact h x hx
  · rw [List.mem_singleton.1 hx]; exact hk
theorem ex_left {pre : List Int} {k : Int} {p : Int → Prop} (h : ∃ x ∈ pre, p x) : ∃ x ∈ pre ++ [k], p x := by
  obtain ⟨x, hx, hp⟩ := h
  exact ⟨x, List.mem_append_left _ hx, hp⟩
theorem ex_right {pre : List Int} {k : Int} {p : Int → Prop} (h : p k) : ∃ x ∈ pre ++ [k], p x := ⟨k, List.mem_append_right _ (List.mem_singleton.2 rfl), h⟩
theorem CpS.stop {a b : Int → Int} {pre : List Int} {n : Int} (h : CpS a b pre n) (k : Int) (hn : n * sgV (a k) (b k) < 0) : (∃ x ∈ pre ++ [k], a x < b x) ∧ ∃ x ∈ pre ++ [k], b x < a x := by
  rcases sgV_cases (a k) (b k) with ⟨e, hl⟩ | ⟨e, hl⟩ | ⟨e, hl⟩ <;> rw [e] at hn
  · rcases h.r with rfl | rfl | rfl
    · omega
    · exact ⟨ex_right hl, ex_left (h.p rfl).2⟩
    · omega
  · rcases h.r with rfl | rfl | rfl
    · omega
    · omega
    · exact ⟨ex_left (h.q rfl).2, ex_right hl⟩
  · omega
theorem CpS.same {a b : Int → Int} {pre : List Int} {n : Int} (h : CpS a b pre n) (k : Int) (hn : sgV (a k) (b k) = 0) : CpS a b (pre ++ [k]) n := by
  have hk : a k = b k := by rcases sgV_cases (a k) (b k) with ⟨e, hl⟩ | ⟨e, hl⟩ | ⟨e, hl⟩ <;> omega
  exact ⟨fun e => all_snoc (h.z e) hk, fun e => ⟨all_snoc (h.p e).1 (by omega), ex_left (h.p e).2⟩, fun e => ⟨all_snoc (h.q e).1 (by omega), ex_left (h.q e).2⟩, h.r⟩
theorem CpS.turn {a b : Int → Int} {pre : List Int} {n : Int} (h : CpS a b pre n) (k : Int) (hn : ¬ n * sgV (a k) (b k) < 0) (h0 : sgV (a k) (b k) ≠ 0) : CpS a b (pre ++ [k]) (sgV (a k) (b k)) := by
  rcases sgV_cases (a k) (b k) with ⟨e, hl⟩ | ⟨e, hl⟩ | ⟨e, hl⟩
  · rw [e] at hn ⊢
    refine ⟨fun e => by omega, fun e => by omega, fun _ => ⟨all_snoc ?_ (by omega), ex_right hl⟩, .inr (.inr rfl)⟩
    rcases h.r with rfl | rfl | rfl
    · intro x hx; have := h.z rfl x hx; omega
    · omega
    · exact (h.q rfl).1
  · rw [e] at hn ⊢
    refine ⟨fun e => by omega, fun _ => ⟨all_snoc ?_ (by omega), ex_right hl⟩, fun e => by omega, .inr (.inl rfl)⟩
    rcases h.r with rfl | rfl | rfl
    · intro x hx; have := h.z rfl x hx; omega
    · exact (h.p rfl).1
    · omega
  · exact absurd e h0
theorem leV_dv {l m : List Dt} (h1 : okV l) (h2 : okV m) : leV l m ↔ ∀ k ∈ dvV l m, atV l k ≤ atV m k := by
  constructor
  · intro h k _
    exact (leV_iff h1 h2).1 h k
  · intro h d hd
    rw [← atV_mem h1 d hd]
    exact h d.1 ((dvV_mem l m d.1).2 (.inl ⟨d, hd, rfl⟩))
theorem leV_dv2 {l m : List Dt} (h1 : okV l) (h2 : okV m) : leV m l ↔ ∀ k ∈ dvV l m, atV m k ≤ atV l k := by
  constructor
  · intro h k _
    exact (leV_iff h2 h1).1 h k
  · intro h d hd
    rw [← atV_mem h2 d hd]
    exact h d.1 ((dvV_mem l m d.1).2 (.inr ⟨d, hd, rfl⟩))
theorem CpS.all {l m : List Dt} (h1 : okV l) (h2 : okV m) {n : Int} (h : CpS (atV l) (atV m) (dvV l m) n) : cmpV l m = n := by
  have a1 := leV_dv h1 h2
  have a2 := leV_dv2 h1 h2
  unfold cmpV
  rcases h.r with rfl | rfl | rfl
  · have h0 := h.z rfl
    rw [if_pos (a1.2 fun k hk => by rw [h0 k hk]; exact Int.le_refl _), if_pos (a2.2 fun k hk => by rw [h0 k hk]; exact Int.le_refl _)]
  · obtain ⟨h3, k, hk, h4⟩ := h.p rfl
    rw [if_neg (fun hc => by have := a1.1 hc k hk; omega), if_pos (a2.2 h3)]
  · obtain ⟨h3, k, hk, h4⟩ := h.q rfl
    rw [if_pos (a1.2 h3), if_neg (fun hc => by have := a2.1 hc k hk; omega)]
theorem cmp_both {l m : List Dt} (h1 : okV l) (h2 : okV m) {pre : List Int} (hp : ∃ r, pre ++ r = dvV l m) (h3 : ∃ k ∈ pre, atV l k < atV m k) (h4 : ∃ k ∈ pre, atV m k < atV l k) : cmpV l m = 2 := by
  obtain ⟨r, hr⟩ := hp
  obtain ⟨k, hk, h5⟩ := h3
  obtain ⟨k', hk', h6⟩ := h4
  unfold cmpV
  rw [if_neg (fun hc => by have := (leV_dv h1 h2).1 hc k' (by rw [← hr]; exact List.mem_append_left _ hk'); omega), if_neg (fun hc => by have := (leV_dv2 h1 h2).1 hc k (by rw [← hr]; exact List.mem_append_left _ hk); omega)]

theorem isNaN_int (x : Int) (w : World) : Calls Try.prog 43 #[.int .i64 x] w fun e w' => e = .returned (.bool false) ∧ w' = w := by
  go_enter Try.func43, Try.ntmps43
  go_wp2_with fail
  go_ret
  exact ⟨rfl, rfl⟩
theorem cmpInt_any (x y : Int) (w : World) : Calls Try.prog 39 #[.int .i64 x, .int .i64 y] w fun e w' => e = .returned (.int .i64 (sgV x y)) ∧ w' = w := by
  rcases sgV_cases x y with ⟨e, h⟩ | ⟨e, h⟩ | ⟨e, h⟩ <;> rw [e]
  · have f1 : decide (x < y) = true := decide_eq_true h
    go_enter Try.func39, Try.ntmps39
    go_wp2_with (go_at_call 43; refine (isNaN_int _ _).mono ?_; rintro e wo ⟨rfl, hwo⟩; rw [hwo]; clear hwo wo)
    go_ret
    exact ⟨rfl, rfl⟩
  · have f1 : decide (x < y) = false := decide_eq_false (by omega)
    have f2 : decide (y < x) = true := decide_eq_true h
    go_enter Try.func39, Try.ntmps39
    go_wp2_with (go_at_call 43; refine (isNaN_int _ _).mono ?_; rintro e wo ⟨rfl, hwo⟩; rw [hwo]; clear hwo wo)
    go_ret
    exact ⟨rfl, rfl⟩
  · have f1 : decide (x < y) = false := decide_eq_false (by omega)
    have f2 : decide (y < x) = false := decide_eq_false (by omega)
    clear h
    go_enter Try.func39, Try.ntmps39
    go_wp2_with (go_at_call 43; refine (isNaN_int _ _).mono ?_; rintro e wo ⟨rfl, hwo⟩; rw [hwo]; clear hwo wo)
    go_ret
    exact ⟨rfl, rfl⟩
theorem load_int12 (w : World) (g : Nat) (v : Value) (h : w.cell? ⟨g, 0, none⟩ = some v) : (loadVar 3 ⟨g, 0, none⟩).run Try.prog w = .ok v w := by
  go_simp
/-- What the rounds of a comparison keep. -/
structure CpI (M : Nat) (w : World) (p : Int → Prop) (W : World) : Prop where
  v : ∃ n, CB W M 3 #[.int .i64 n] ∧ p n
  b : Below M w W
  s : M + 1 ≤ W.heap.size
theorem CpI.own {M D : Nat} {w : World} (hM : M ≤ D) {β : Type} (p : β → Int → Prop) : OwnFrom D (fun pre W => CpI M w (p pre) W) := by
  intro pre W W' row h hg hr
  obtain ⟨n, hv, hp⟩ := h.v
  exact ⟨⟨n, hv.kept hg (fun r e => (hr r e).2), hp⟩, h.b.grown hg (Nat.le_trans (by omega) h.s) (fun r e => Nat.le_trans hM (hr r e).1), Nat.le_trans h.s hg.size⟩

set_option maxRecDepth 100000 in
set_option maxHeartbeats 4000000 in
theorem compare_any (a : Option Addr) (cap : Nat) (l : List Dt) (a2 : Option Addr) (cap2 : Nat) (m : List Dt) (h1 : okV l) (h2 : okV m) (hp : l.length ≤ cap) (hp2 : m.length ≤ cap2) (w : World) (hl : RdDt w.heap.size w a l) (hm : RdDt w.heap.size w a2 m) :
    Calls Try.prog 34 #[.slice a l.length cap, .slice a2 m.length cap2] w fun e w' => e = .returned (.int .i64 (cmpV l m)) ∧ Below w.heap.size w w' := by
  have HSEQ := Lib.hid (fun Ba Bb W (hca : W.cell? ⟨Ba, 0, none⟩ = some (.slice a l.length cap)) (hcb : W.cell? ⟨Bb, 0, none⟩ = some (.slice a2 m.length cap2)) hla hlb (hB : Below w.heap.size w W) => pairs1_stops w.heap.size Ba Bb a cap l a2 cap2 m h1 h2 W hca hcb hla hlb hB.size (hl.below hB) (hm.below hB) hp hp2)
  obtain ⟨EN, hEN⟩ := exEqD (prE l m)
  have HEN : Hid (∀ k, EN k = #[.int .i64 k, .agg #[.int .i64 (atV l k), .int .i64 (atV m k)]]) := Lib.hid (fun k => by rw [← hEN]; rfl)
  have HALL := Lib.hid (fun n (h : CpS (atV l) (atV m) (dvV l m) n) => h.all h1 h2)
  have HBO := Lib.hid (fun pre hp h3 h4 => cmp_both h1 h2 (pre := pre) hp h3 h4)
  obtain ⟨R, hR⟩ := exEqD (cmpV l m)
  rw [hR] at HALL HBO ⊢
  obtain ⟨GA, hGA⟩ := exEqD (atV l)
  obtain ⟨GB, hGB⟩ := exEqD (atV m)
  rw [hEN] at HSEQ
  rw [hGA, hGB] at HALL HBO HEN
  obtain ⟨DV, hDV⟩ := exEqD (dvV l m)
  rw [hDV] at HSEQ HALL HBO
  obtain ⟨n, hn⟩ := exEqD l.length
  obtain ⟨q, hq⟩ := exEqD m.length
  rw [hn, hq] at HSEQ
  rw [hn, hq]
  clear hl hm hn hq hDV hGA hGB hEN hR h1 h2 hp hp2
  refine (callsIn_wide (n := 5)).1 ?_
  refine callsIn_of_wp_marks Try.func34 rfl trivial ?_ rfl
  simp only [Try.ntmps34, List.size_toArray, List.length_cons, List.length_nil, Nat.reduceAdd, Nat.reduceSub, Array.replicate_succ, Array.replicate_zero, List.push_toArray, List.append_toArray, List.nil_append, List.cons_append]
  gi_wp2_with (refine ⟨trivial, ?_⟩; gi_at_call 37; refine (callsIn_wide.2 (pairs_any _ _ _ _ _ _ _)).mono ?_; rintro e w' ⟨rfl, rfl⟩)
  obtain ⟨M, hM⟩ := exEqD w.heap.size
  obtain ⟨W0, hW0⟩ : ∃ W0, W0 = (((w.alloc (.cells #[.int .i64 0] 3)).alloc (.cells #[.slice a n cap] 22)).alloc (.cells #[.slice a2 q cap2] 22)) := ⟨_, rfl⟩
  rw [← hW0]
  have hsz : W0.heap.size = M + 1 + 1 + 1 := by rw [hW0, ← hM]; simp
  have HB0 : Hid (Below M w W0) := Lib.hid (by
    rw [hW0, ← hM]
    exact (((Below.refl _ w).alloc (Nat.le_refl _) _).alloc (by simp) _).alloc (by simp; omega) _)
  have hC0 : CB W0 M 3 #[.int .i64 0] := by rw [hW0, ← hM]; exact ((CB.new w _ _).alloc _).alloc _
  have hC2 : CB W0 (M + 1) 22 #[.slice a n cap] := by rw [hW0]; exact (CB.at _ _ (by simp [hM])).alloc _
  have hC3 : CB W0 (M + 1 + 1) 22 #[.slice a2 q cap2] := by rw [hW0]; exact CB.at _ _ (by simp [hM])
  clear hW0
  rw [hM] at HSEQ ⊢
  have hI0 : CpI M w (CpS GA GB []) W0 := ⟨⟨0, hC0, CpS.nil _ _⟩, HB0.out, by omega⟩
  refine wpIn_rangeFunc_ownH rfl (by decide) (gf := 40) (lb := #[.pointer (some ⟨M + 1, 0, none⟩), .pointer (some ⟨M + 1 + 1, 0, none⟩)]) rfl trivial (enters_of Try.func40 (by kernel_rfl) rfl)
    (HSEQ.out (M + 1) (M + 1 + 1) W0 (hC2.cell 0) (hC3.cell 0) (by omega) (by omega) HB0.out) (fun h k => belowK_t h k) (belowK_b (by omega)) (Below.refl _ _) (fun k => by rw [HEN.out]; rfl)
    (fun pre W => CpI M w (CpS GA GB pre) W) (fun c pre W => CpI M w (fun n => c = .ret ∧ n = 2 ∧ (∃ x ∈ pre, GA x < GB x) ∧ ∃ x ∈ pre, GB x < GA x) W) (CpI.own (by omega) (CpS GA GB)) (fun c => CpI.own (by omega) (fun pre n => c = .ret ∧ n = 2 ∧ (∃ x ∈ pre, GA x < GB x) ∧ ∃ x ∈ pre, GB x < GA x)) hI0
    (fun k a' W => ∃ g8, CB W g8 55 #[.int .i64 (GA k), .int .i64 (GB k)] ∧ a' = { tmps := #[.slice a n cap, .slice a2 q cap2, undef, undef, .pointer (some ⟨M, 0, none⟩), undef, .pointer (some ⟨g8, 0, none⟩), undef, .slice a n cap, .slice a2 q cap2, .func (.func 40) #[] #[.pointer (some ⟨M + 1, 0, none⟩), .pointer (some ⟨M + 1 + 1, 0, none⟩)], .int .i64 k, .agg #[.int .i64 (GA k), .int .i64 (GB k)], undef, undef, undef, undef, undef, undef, undef, undef, undef, undef, undef, undef, undef], defers := [] })
    (fun k a' _ A B row h hg hr => by obtain ⟨g8, h8, e8⟩ := h; exact ⟨g8, h8.kept hg (fun r e => (hr r e).2), e8⟩) ?assign ?body ?done ?stop
  case assign =>
    intro l' pre k W K hI hK
    rw [HEN.out]
    have HK := Lib.hid hK
    clear hK
    gi_wp2
    exact HK.out _ _ ((KeepsOthers.alloc W _).from _) ((Below.refl _ _).alloc (Nat.le_trans (by omega) hI.s) _) ((CpI.own (D := M) (Nat.le_refl _) (CpS GA GB)).alloc _ hI) ⟨W.heap.size, CB.new W _ _, rfl⟩
  case body =>
    rintro l' pre k a' W hl' - hI ⟨g8, h8, rfl⟩ hlen
    obtain ⟨v, hv, hcp⟩ := hI.v
    have c1 := h8.cell 0
    have c2 := h8.cell 1
    have c3 := hv.cell 0
    have f3 := hv.frozen 0
    have HI := Lib.hid hI
    have HV := Lib.hid hv
    have HCP := Lib.hid hcp
    have hM8 : M < W.heap.size := hv.lt
    have KG := Lib.hid (fun W => cmpInt_any (GA k) (GB k) W)
    have HST := Lib.hid (fun hn => hcp.stop k hn)
    have HSA := Lib.hid (fun hn => hcp.same k hn)
    have HTU := Lib.hid (fun hn h0 => hcp.turn k hn h0)
    have hb : (v = 0 ∨ v = 1 ∨ v = -1) ∧ (sgV (GA k) (GB k) = 0 ∨ sgV (GA k) (GB k) = 1 ∨ sgV (GA k) (GB k) = -1) := ⟨hcp.r, by rcases sgV_cases (GA k) (GB k) with ⟨e, _⟩ | ⟨e, _⟩ | ⟨e, _⟩ <;> omega⟩
    clear hI hv h8 hlen hcp
    obtain ⟨x, hx⟩ := exEqD (GA k)
    obtain ⟨y, hy⟩ := exEqD (GB k)
    obtain ⟨z, hz⟩ := exEqD (sgV (GA k) (GB k))
    rw [hz] at HST HSA HTU hb
    rw [hx, hy] at hz c1 c2 KG ⊢
    rw [hz] at KG
    have cw := wrapD (v * z) (by rcases hb with ⟨rfl | rfl | rfl, rfl | rfl | rfl⟩ <;> omega) (by rcases hb with ⟨rfl | rfl | rfl, rfl | rfl | rfl⟩ <;> omega)
    clear hz hx hy hb
    by_cases hp : v * z < 0
    · have f9 : decide (v * z < 0) = true := decide_eq_true hp
      have HX := Lib.hid (HST.out hp)
      clear HST HSA HTU hp
      gi_wp2_with (refine ⟨trivial, ?_⟩; gi_at_call 39; refine (CallsIn.inRound l' (callsIn_wide.2 (KG.out _))).mono ?_; rintro e wo ⟨rfl, hwo⟩; rw [hwo]; clear hwo wo)
      have HKP := Lib.hid (fun u => (Below.refl M W).setCell (p := ⟨M, 0, none⟩) (Nat.le_refl M) u)
      exact ⟨(KeepsOthers.setCell _ _ _).from _, ⟨2, HV.out.set 0 _, rfl, rfl, HX.out⟩, HI.out.b.trans (HKP.out _), Nat.le_trans HI.out.s (HKP.out _).size⟩
    · have f9 : decide (v * z < 0) = false := decide_eq_false hp
      by_cases h0 : z = 0
      · have f8 : (z == 0) = true := beq_iff_eq.2 h0
        have HX := Lib.hid (HSA.out h0)
        clear HST HSA HTU hp h0
        gi_wp2_with (refine ⟨trivial, ?_⟩; gi_at_call 39; refine (CallsIn.inRound l' (callsIn_wide.2 (KG.out _))).mono ?_; rintro e wo ⟨rfl, hwo⟩; rw [hwo]; clear hwo wo)
        exact ⟨KeepsFrom.refl _ _, Below.refl _ _, ⟨v, HV.out, HX.out⟩, HI.out.b, HI.out.s⟩
      · have f8 : (z == 0) = false := beq_eq_false_iff_ne.2 h0
        have HX := Lib.hid (HTU.out hp h0)
        clear HST HSA HTU hp h0
        gi_wp2_with (refine ⟨trivial, ?_⟩; gi_at_call 39; refine (CallsIn.inRound l' (callsIn_wide.2 (KG.out _))).mono ?_; rintro e wo ⟨rfl, hwo⟩; rw [hwo]; clear hwo wo)
        have HKP := Lib.hid (fun u => (Below.refl M W).setCell (p := ⟨M, 0, none⟩) (Nat.le_refl M) u)
        exact ⟨(KeepsOthers.setCell _ _ _).from _, HKP.out _, ⟨z, HV.out.set 0 _, HX.out⟩, HI.out.b.trans (HKP.out _), Nat.le_trans HI.out.s (HKP.out _).size⟩
  case done =>
    rintro D xs W hD rfl hI hK
    obtain ⟨v, hv, hcp⟩ := hI.v
    have HRES := Lib.hid (HALL.out _ hcp)
    have HI := Lib.hid hI
    have HV := Lib.hid hv
    have HK := Lib.hid hK
    have c3 := hv.cell 0
    have f3 := hv.frozen 0
    clear hI hv hK hcp
    gi_wp2
    have hne : D ≠ M := by omega
    have HK2 : Hid ((W.setCell ⟨M, 0, none⟩ (.int .i64 v)).heap[D]? = some (.deferred (some []))) := Lib.hid ((heap_setCell_other W ⟨M, 0, none⟩ D _ hne).trans HK.out)
    have HV2 := Lib.hid (HV.out.set 0 (.int .i64 v))
    have HB2 := Lib.hid (HI.out.b.trans ((Below.refl _ _).setCell (p := ⟨M, 0, none⟩) (Nat.le_refl M) (.int .i64 v)))
    obtain ⟨W2, hW2⟩ : ∃ W2, W.setCell ⟨M, 0, none⟩ (.int .i64 v) = W2 := ⟨_, rfl⟩
    rw [hW2] at HK2 HV2 HB2 ⊢
    clear hW2 c3 f3
    have HG2 := Lib.hid (grownBy_putObj' W2 D (.deferred none))
    have HR2 : Hid (∀ r, some D = some r → ∃ o : Obj, W2.heap[r]? = some o ∧ o.isCells = false) := Lib.hid (fun r e => by cases e; exact ⟨_, HK2.out, rfl⟩)
    have HV3 := Lib.hid (HV2.out.kept HG2.out HR2.out)
    refine ⟨by simp, .inl ⟨_, _, rfl, run_takeDeferred HK2.out, ?_⟩⟩
    refine ⟨_, results_cell1 rfl _ _ M (.int .i64 v) rfl (load_int12 _ _ _ (HV3.out.cell 0)), ⟨by rw [HRES.out], ?_⟩⟩
    rw [hM]; exact HB2.out.trans (below_putD (by omega) HK2.out)
  case stop =>
    rintro D c pre W hD hsp hI hK
    obtain ⟨v, hv, rfl, rfl, hx, hy⟩ := hI.v
    have HRES := Lib.hid (HBO.out pre hsp hx hy)
    have HI := Lib.hid hI
    have HV := Lib.hid hv
    have HK := Lib.hid hK
    clear hI hv hK hx hy
    gi_wp2
    have HG2 := Lib.hid (grownBy_putObj' W D (.deferred none))
    have HR2 : Hid (∀ r, some D = some r → ∃ o : Obj, W.heap[r]? = some o ∧ o.isCells = false) := Lib.hid (fun r e => by cases e; exact ⟨_, HK.out, rfl⟩)
    have HV3 := Lib.hid (HV.out.kept HG2.out HR2.out)
    refine ⟨by simp, .inl ⟨_, _, rfl, run_takeDeferred HK.out, ?_⟩⟩
    refine ⟨_, results_cell1 rfl _ _ M (.int .i64 2) rfl (load_int12 _ _ _ (HV3.out.cell 0)), ⟨by rw [HRES.out], ?_⟩⟩
    exact HI.out.b.trans (below_putD (by omega) HK.out)
end Go.Proofs.Ytfdfaajjlangjaa
