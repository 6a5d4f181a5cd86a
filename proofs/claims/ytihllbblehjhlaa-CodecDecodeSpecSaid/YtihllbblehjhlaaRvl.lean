/-
  The reference's (*Reader).Value at a list; the contract of Value.
-/
import Derived.Test.YtihllbblehjhlaaRva
import Derived.Deep.RegionLaw
namespace Go.Proofs.Ytihllbblehjhlaa
open Go.RowKit

/-- append(own, v), v a value that was put into a block of its own: at a step of a region that draws its order. -/
theorem step_appV {ops : Array Oper} {o : Oper} {a : Act} {w : World} {K : Act → World → Prop} {Q : Exit → Act → World → Prop} {E : Prop} (hgd : o.guard = none) (s x : Operand)
    (ho : o.op = .call { callee := .builtin .append, args := #[s, x], argTypes := #[22, 22] })
    (ok : Nat → Prop) (B : Nat) (v : Value) (f : VL) (k n : Int) (str : ByteArray) (kids : VL) (ka : Option Addr) (kc : Nat) (g : Nat) (hs : a.eval s = v) (hown : OwnV ok B w v f) (hx : a.eval x = .slice (some ⟨g, 0, none⟩) 1 1)
    (hg : w.heap[g]? = some (.cells #[.int .i64 k, .int .i64 n, .string str, .slice ka kids.len kc] 24)) (hk : I64 k) (hn : I64 n) (hst : str.size ≤ maxLen) (hr : RepQ ok w ka kc kids)
    (hlen : f.len + 1 ≤ 2000000000000) (hB : B ≤ w.heap.size) (hok : ∀ b, ok b → v.ownBlock ≠ some b ∧ b < w.heap.size)
    (h : ∀ ad cap w', OwnV (fun b => ok b ∧ (Value.slice ad (f.len + 1) cap).ownBlock ≠ some b) B w' (.slice ad (f.len + 1) cap) (f.app (.cons k n str kids .nil)) → Grew w v w' (.slice ad (f.len + 1) cap) → K (a.put o.dst (.slice ad (f.len + 1) cap)) w') : if Region.wanted o (yielded ops a.tmps) = true then Oper.wp Try.prog o a w K Q else E := by
  have hw : Region.wanted o (yielded ops a.tmps) = true := by simp [Region.wanted, hgd]
  rw [if_pos hw]
  obtain ⟨cs, ho1, hc1⟩ := hown
  obtain ⟨i0, hi, hz0, hz1, hz2⟩ := info_parts valInfo
  have hnews : ∀ j u, [Value.int .i64 k, .int .i64 n, .string str, .slice ka kids.len kc][j]? = some u → w.cell? ((⟨g, 0, none⟩ : Addr).add j) = some u := by
    intro j u hu
    rw [addr_add, Nat.zero_add, cell_of_row w g j _ _ (0, 0) hg]
    simpa using hu
  obtain ⟨v', w', hrun, h2, h3, _, h5⟩ := run_append_own_at (P := Try.prog) (w := w) B 22 o.type 24 i0 _ 4 56 Try.underlying22 hi hz0 hz1 hz2 rfl (by decide) v f.len cs ho1 ⟨g, 0, none⟩ 1 1 _ (by rfl) hnews (by intro u hu; simp at hu; rcases hu with rfl | rfl | rfl | rfl <;> rfl) (by unfold maxLen; omega) (by omega) hB
  unfold Oper.wp execOp
  simp only [ho, resolve, invoke, builtin, Sem.run_bind, Sem.run_pure, Result.andThen_ok, List.map_toArray, List.map_cons, List.map_nil, hs, hx, hrun]
  have hG : Grew w v w' v' := ⟨h3, fun k' hk' => by
    rcases h5 with h5 | h5
    · exact .inl (h5 ▸ hk')
    · rw [h5] at hk'; cases hk'; exact .inr (Nat.le_refl _)⟩
  have e1 : ∀ b, ok b → (ok b ∧ v'.ownBlock ≠ some b) := fun b hb => ⟨hb, hG.ne (hok b hb).1 (hok b hb).2⟩
  have e2 : ∀ b, ok b → w'.heap[b]? = w.heap[b]? := fun b hb => h3.block b (hok b hb).2 (Ne.symm (hok b hb).1)
  have hO : OwnV (fun b => ok b ∧ v'.ownBlock ≠ some b) B w' v' (f.app (.cons k n str kids .nil)) := ⟨_, by rw [VL.len_app]; exact h2, CellsP.snoc hk hn hst (hr.keep e1 e2) f cs (hc1.keep e1 e2)⟩
  obtain ⟨ad, cap, hv, _⟩ := hO.rep (ok' := fun _ => True) (fun _ _ => trivial) (fun _ _ _ => trivial)
  have hl : (f.app (.cons k n str kids .nil)).len = f.len + 1 := by rw [VL.len_app]; rfl
  rw [hl] at hv
  rw [hv] at hO hG ⊢
  exact h ad cap w' hO hG

/-- A block of four cells that may be written. -/
structure Box (W : World) (N : Nat) (x0 x1 x2 x3 : Value) : Prop where
  lt : N < W.heap.size
  c0 : W.cell? ⟨N, 0, none⟩ = some x0
  c1 : W.cell? ⟨N, 1, none⟩ = some x1
  c2 : W.cell? ⟨N, 2, none⟩ = some x2
  c3 : W.cell? ⟨N, 3, none⟩ = some x3
  cf : ∀ j, W.frozen? ⟨N, j, none⟩ = false
theorem Box.keep {W W' : World} {N : Nat} {x0 x1 x2 x3 : Value} (h : Box W N x0 x1 x2 x3) (hs : W.heap.size ≤ W'.heap.size) (he : W'.heap[N]? = W.heap[N]?) : Box W' N x0 x1 x2 x3 :=
  ⟨Nat.lt_of_lt_of_le h.lt hs, (World.cell?_of_block (w := W) he).trans h.c0, (World.cell?_of_block (w := W) he).trans h.c1, (World.cell?_of_block (w := W) he).trans h.c2, (World.cell?_of_block (w := W) he).trans h.c3, fun j => (World.frozen?_of_block (w := W) he).trans (h.cf j)⟩
theorem Box.upd {W W' : World} {N R : Nat} {x0 x1 x2 x3 : Value} (h : Box W N x0 x1 x2 x3) (hu : W.grownBy W' (some R)) (hR : N ≠ R) : Box W' N x0 x1 x2 x3 :=
  h.keep hu.size (hu.block N h.lt (by intro e; injection e with e; exact hR e))
theorem Box.grew {W W' : World} {N : Nat} {v v' x0 x1 x2 x3 : Value} (h : Box W N x0 x1 x2 x3) (hg : Grew W v W' v') (hv : v.ownBlock ≠ some N) : Box W' N x0 x1 x2 x3 :=
  h.keep hg.size (hg.grown.block N h.lt (Ne.symm hv))
theorem Box.set3 {W : World} {N : Nat} {x0 x1 x2 x3 : Value} (h : Box W N x0 x1 x2 x3) (v : Value) : Box (W.setCell ⟨N, 3, none⟩ v) N x0 x1 x2 v :=
  ⟨by simpa using h.lt, by simpa [go_sem] using h.c0, by simpa [go_sem] using h.c1, by simpa [go_sem] using h.c2, World.cell?_setCell_same _ _ _ h.c3, fun j => by simpa using h.cf j⟩
theorem Box.setNe {W : World} {N M j : Nat} {x0 x1 x2 x3 : Value} (h : Box W N x0 x1 x2 x3) (v : Value) (hM : N ≠ M) : Box (W.setCell ⟨M, j, none⟩ v) N x0 x1 x2 x3 :=
  h.keep (by simp) (Below.heap_setCell W ⟨M, j, none⟩ v N hM)

def RvSaid (d : Nat) : Prop := ∀ (Bd R : Nat) (x : Int) (full l : List UInt8) (w : World), Hid (x = 16 - d) → RL Bd R w full l → full.length ≤ 1000000000000 →
    Calls Try.prog 31 #[.pointer (some ⟨R, 0, none⟩), .int .i64 x] w (RvPost Bd R w full (dval d l))

set_option maxRecDepth 100000 in
set_option maxHeartbeats 800000 in
theorem rvalue_deep (Bd R : Nat) (t : UInt8) (full l : List UInt8) (w : World) (h : RL Bd R w full (t :: l)) (ht : t.toNat = 3) (hll : full.length ≤ 1000000000000) :
    Calls Try.prog 31 #[.pointer (some ⟨R, 0, none⟩), .int .i64 16] w (RvPost Bd R w full none) := by
  have HR := Lib.hid h
  have hlt := h.lt
  clear h
  have hbt : bv t = .int .u8 3 := by unfold bv; rw [ht]; rfl
  go_enter Try.func31, Try.ntmps31
  go_wp2_with fail
  refine (next_ok Bd R t full l _ (HR.out.below hlt ((Below.refl _ _).alloc (Nat.le_refl _) _))).mono ?_
  rintro e w1 ⟨rfl, hrd, hg1⟩
  rw [hbt]
  have HR1 := Lib.hid hrd
  have HG1 := Lib.hid (upd_trans (upd_of ((Below.refl _ _).alloc (Nat.le_refl _) _)) hg1)
  have hz : w.heap.size + 1 ≤ w1.heap.size := by simpa using hg1.size
  have HA1 := Lib.hid hg1
  clear hrd hg1
  go_wp2_with fail
  refine (rnumber_any Bd R full l _ HR1.out).mono ?_
  intro e w2 hp
  rcases hp with ⟨y, r, hd, rfl, hrd, hg⟩ | ⟨hd, rfl, hrx, hg⟩
  · have hy := (dnum_some hd).2
    obtain ⟨c0, c1, c2, c3, cf⟩ := box4_upd hlt (upd_trans HA1.out hg)
    have HG2 := Lib.hid (upd_trans HG1.out hg)
    obtain ⟨p, hpd, hpl, hrs⟩ := hrd
    have HRS := Lib.hid hrs
    obtain ⟨h0, h1, a, cap, b0, b1, b2, b3, b4, b5, b6⟩ := hrs
    have hne : ¬ w.heap.size = R := by omega
    have f1 := h1 1
    have f2 := h1 2
    unfold maxLen at b5
    clear hd hg hpd b6 h1
    by_cases hyr : (full.length : Int) - p < (y : Int)
    · go_wp2_with fail
      go_quiet (fail)
      go_wp2_with fail
      refine bodyPost_ret (v := .agg #[.int .i64 0, .int .i64 0, .string ByteArray.empty, .slice none 0 0]) (by simp [results, Try.results31, go_sem, c0, c1, c2, c3, hne, Ne.symm hne]; rfl) rfl ?_
      exact rv_zero hlt ⟨p, RS.setBad (w := w2.drewN _) HRS.out⟩ (upd_R (upd_dN HG2.out _) _)
    · have hyd : decide ((full.length : Int) - p < (y : Int)) = false := by simpa using hyr
      go_wp2_with fail
      go_quiet (fail)
      go_wp2_with fail
      refine bodyPost_ret (v := .agg #[.int .i64 0, .int .i64 0, .string ByteArray.empty, .slice none 0 0]) (by simp [results, Try.results31, go_sem, c0, c1, c2, c3, hne, Ne.symm hne]; rfl) rfl ?_
      exact rv_zero hlt ⟨p, RS.setBad (w := w2.drewN _) HRS.out⟩ (upd_R (upd_dN HG2.out _) _)
  · obtain ⟨c0, c1, c2, c3, cf⟩ := box4_upd hlt (upd_trans HA1.out hg)
    have HX2 := Lib.hid hrx
    have hbad := hrx.bad
    have hfz := hrx.frozen 2
    have HG2 := Lib.hid (upd_trans HG1.out hg)
    have hne : ¬ w.heap.size = R := by omega
    clear hd hrx hg
    go_wp2_with fail
    go_quiet (fail)
    go_wp2_with fail
    refine bodyPost_ret (v := .agg #[.int .i64 0, .int .i64 0, .string ByteArray.empty, .slice none 0 0]) (by simp [results, Try.results31, go_sem, c0, c1, c2, c3, hne, Ne.symm hne]; rfl) rfl ?_
    exact rv_zero hlt (RX.setBad (w := w2.drewN _) HX2.out) (upd_R (upd_dN HG2.out _) _)

/-- The list is answered. -/
theorem rlist_done {Bd R M : Nat} {w wr : World} {full : List UInt8} {res : Option (VL × List UInt8)} {f : VL} {ad : Option Addr} {cp : Nat} (hlt : R < w.heap.size) (hG : w.grownBy wr (some R)) (hO : OwnV (fun b => (M < b ∧ b < wr.heap.size) ∧ (Value.slice ad f.len cp).ownBlock ≠ some b) (M + 1) wr (.slice ad f.len cp) f) (hM : w.heap.size < M) (hMw : M < wr.heap.size)
    (h : (∃ r, res = some (f, r) ∧ RL Bd R wr full r) ∨ (res = none ∧ RX Bd R wr full)) :
    RvPost Bd R w full (res.map fun y => (⟨3, 0, ByteArray.empty, y.1⟩, y.2)) (.returned (.agg #[.int .i64 3, .int .i64 0, .string ByteArray.empty, .slice ad f.len cp])) ((((wr.setCell ⟨w.heap.size, 0, none⟩ (.int .i64 3)).setCell ⟨w.heap.size, 1, none⟩ (.int .i64 0)).setCell ⟨w.heap.size, 2, none⟩ (.string ByteArray.empty)).setCell ⟨w.heap.size, 3, none⟩ (.slice ad f.len cp)) := by
  have hu := upd_set4 wr w.heap.size (.int .i64 3) (.int .i64 0) (.string ByteArray.empty) (.slice ad f.len cp)
  obtain ⟨a2, c2, hv, hq⟩ := hO.rep (ok' := fun b => w.heap.size < b ∧ b < wr.heap.size) (fun b hb => ⟨by omega, hb.1.2⟩) (fun b h1 h2 => ⟨by omega, h2⟩)
  injection hv with e1 e2 e3
  subst e1 e3
  have hq2 : RepQ (fun b => w.heap.size ≤ b ∧ b < ((((wr.setCell ⟨w.heap.size, 0, none⟩ (.int .i64 3)).setCell ⟨w.heap.size, 1, none⟩ (.int .i64 0)).setCell ⟨w.heap.size, 2, none⟩ (.string ByteArray.empty)).setCell ⟨w.heap.size, 3, none⟩ (.slice ad f.len cp)).heap.size) ((((wr.setCell ⟨w.heap.size, 0, none⟩ (.int .i64 3)).setCell ⟨w.heap.size, 1, none⟩ (.int .i64 0)).setCell ⟨w.heap.size, 2, none⟩ (.string ByteArray.empty)).setCell ⟨w.heap.size, 3, none⟩ (.slice ad f.len cp)) ad cp f :=
    hq.keep (fun k hk => ⟨by omega, Nat.lt_of_lt_of_le hk.2 hu.size⟩) fun k hk => hu.block k hk.2 (by intro e; injection e with e; omega)
  rcases h with ⟨r, hr, h1⟩ | ⟨hr, h1⟩
  · exact rv_ok (by rw [hr]; rfl) rfl (upd_new hG hu (Nat.le_refl _)) i64_3 i64_0 (Nat.zero_le _) hq2 (h1.upd hu hlt)
  · exact rv_bad f (by rw [hr]; rfl) rfl (upd_new hG hu (Nat.le_refl _)) i64_3 i64_0 (Nat.zero_le _) hq2 (h1.upd hu hlt)
theorem dlist_long {d y : Nat} {r : List UInt8} (h : r.length < y) : dlist (dval d) y r = none := by
  cases hd : dlist (dval d) y r with
  | none => rfl
  | some x =>
    have := dlist_short (dval_short d) y r x.1 x.2 hd
    omega

set_option maxRecDepth 100000 in
set_option maxHeartbeats 1600000 in
theorem rvalue_list (d : Nat) (ih : RvSaid d) (Bd R : Nat) (x : Int) (t : UInt8) (full l : List UInt8) (w : World) (HX : Hid (x + 1 = 16 - d)) (hx0 : 0 ≤ x) (hx1 : x < 16) (h : RL Bd R w full (t :: l)) (ht : t.toNat = 3) (hll : full.length ≤ 1000000000000) :
    Calls Try.prog 31 #[.pointer (some ⟨R, 0, none⟩), .int .i64 x] w (RvPost Bd R w full (((dnum l).bind fun x => dlist (dval d) x.1 x.2).map fun y => (⟨3, 0, ByteArray.empty, y.1⟩, y.2))) := by
  have HR := Lib.hid h
  have hlt := h.lt
  clear h
  have hbt : bv t = .int .u8 3 := by unfold bv; rw [ht]; rfl
  have hx16 : (x == 16) = false := by simp; omega
  go_enter Try.func31, Try.ntmps31
  go_wp2_with fail
  refine (next_ok Bd R t full l _ (HR.out.below hlt ((Below.refl _ _).alloc (Nat.le_refl _) _))).mono ?_
  rintro e w1 ⟨rfl, hrd, hg1⟩
  rw [hbt]
  have HR1 := Lib.hid hrd
  have HG1 := Lib.hid (upd_trans (upd_of ((Below.refl _ _).alloc (Nat.le_refl _) _)) hg1)
  have hz : w.heap.size + 1 ≤ w1.heap.size := by simpa using hg1.size
  have HA1 := Lib.hid hg1
  clear hrd hg1
  go_wp2_with fail
  refine (rnumber_any Bd R full l _ HR1.out).mono ?_
  intro e w2 hp
  rcases hp with ⟨y, r, hd, rfl, hrd, hg⟩ | ⟨hd, rfl, hrx, hg⟩
  · have hy := (dnum_some hd).2
    have HD := Lib.hid hd
    have hz2 : w.heap.size + 1 ≤ w2.heap.size := Nat.le_trans hz hg.size
    obtain ⟨c0, c1, c2, c3, cf⟩ := box4_upd hlt (upd_trans HA1.out hg)
    have HBN := Lib.hid (show Box w2 w.heap.size _ _ _ _ from ⟨by omega, c0, c1, c2, c3, cf⟩)
    have HG2 := Lib.hid (upd_trans HG1.out hg)
    have HRL := Lib.hid hrd
    obtain ⟨p, hpd, hpl, hrs⟩ := hrd
    have hrl : r.length = full.length - p := by rw [← hpd]; simp
    have HRS := Lib.hid hrs
    obtain ⟨h0, h1, a, cap, b0, b1, b2, b3, b4, b5, b6⟩ := hrs
    have hne : ¬ w.heap.size = R := by omega
    have f1 := h1 1
    have f2 := h1 2
    unfold maxLen at b5
    clear hd hg hpd b6 h1
    by_cases hyr : (full.length : Int) - p < (y : Int)
    · go_wp2_with fail
      go_quiet (fail)
      go_wp2_with fail
      refine bodyPost_ret (v := .agg #[.int .i64 0, .int .i64 0, .string ByteArray.empty, .slice none 0 0]) (by simp [results, Try.results31, go_sem, c0, c1, c2, c3, hne, Ne.symm hne]; rfl) rfl ?_
      rw [HD.out]
      simp only [Option.bind_some]
      rw [dlist_long (by omega)]
      exact rv_zero hlt ⟨p, RS.setBad (w := w2.drewN _) HRS.out⟩ (upd_R (upd_dN HG2.out _) _)
    · have hyd : decide ((full.length : Int) - p < (y : Int)) = false := by simpa using hyr
      have hyl : y ≤ r.length := by omega
      obtain ⟨res, HRes⟩ : ∃ res, Hid (res = ((dnum l).bind fun x => dlist (dval d) x.1 x.2)) := ⟨_, Lib.hid rfl⟩
      have HDL : Hid (((dlist (dval d) y r).map fun z => (VL.nil.app z.1, z.2)) = res) := by
        show _ = _; rw [HRes.out, HD.out]; simp only [Option.bind_some, VL.app]; cases dlist (dval d) y r <;> rfl
      go_wp2_with fail
      go_quiet (fail)
      clear b0 b1 b2 b3 b4 b5 f1 f2 c0 c1 c2 c3 cf hyd
      have HRL3 := Lib.hid (show RL Bd R (w2.drewN nq) full r from HRL.out)
      have HBN3 := Lib.hid (HBN.out.keep (W' := w2.drewN nq) (Nat.le_refl _) rfl)
      have HG3 := Lib.hid (upd_dN HG2.out nq)
      have hz3 : w.heap.size + 1 ≤ (w2.drewN nq).heap.size := hz2
      generalize w2.drewN nq = w3 at *
      go_wp2_with fail
      have hx1w : IntKind.i64.wrap (x + 1) = x + 1 := by rw [IntKind.wrap_i64]; omega
      go_loopw [9] (fun i wr => ∃ (j : Nat) (f : VL) (ad : Option Addr) (cp : Nat), i = .int .u64 j ∧ j ≤ y ∧ Hid (Box wr w3.heap.size (.int .i64 3) (.int .i64 0) (.string ByteArray.empty) (.slice ad f.len cp)) ∧ Hid (Box wr w.heap.size (.int .i64 0) (.int .i64 0) (.string ByteArray.empty) (.slice none 0 0)) ∧ Hid (OwnV (fun b => (w3.heap.size < b ∧ b < wr.heap.size) ∧ (Value.slice ad f.len cp).ownBlock ≠ some b) (w3.heap.size + 1) wr (.slice ad f.len cp) f) ∧ Hid (w.grownBy wr (some R)) ∧ ((∃ l', Hid (RL Bd R wr full l') ∧ f.len + l'.length ≤ 1000000000000 ∧ Hid (((dlist (dval d) (y - j) l').map fun z => (f.app z.1, z.2)) = res)) ∨ (Hid (RX Bd R wr full) ∧ Hid (res = none)))) (fun i _ => y - (intOf i).toNat)
      case atStart =>
        refine ⟨0, .nil, none, 0, rfl, by omega, Lib.hid ⟨by simp, by simp, by simp, by simp; rfl, by simp; try rfl, fun j => by simp⟩, Lib.hid (HBN3.out.upd (upd_of ((Below.refl _ _).alloc (Nat.le_refl _) _) (R := R)) (by omega)), Lib.hid (OwnV.nil _ _ _), Lib.hid (upd_trans HG3.out (upd_of ((Below.refl _ _).alloc (Nat.le_refl _) _))), .inl ⟨r, Lib.hid (HRL3.out.below HRL3.out.lt ((Below.refl _ _).alloc (Nat.le_refl _) _)), by simp only [VL.len]; omega, HDL⟩⟩
      case round =>
        obtain ⟨j, f, ad, cp, rfl, hj, HM, HN, HO, HG, hst⟩ := hrel
        have hMN : ¬ w3.heap.size = w.heap.size := by omega
        have hMR : ¬ w3.heap.size = R := by omega
        rcases hst with ⟨l', HRL', hfl, HD'⟩ | ⟨HRX', HNO⟩
        · have hbad := HRL'.out.bad
          by_cases hjy : j = y
          · subst hjy
            obtain ⟨mlt, m0, m1, m2, m3, mf⟩ := HM.out
            obtain ⟨nlt, n0, n1, n2, n3, nf⟩ := HN.out
            go_wp2_with fail
            refine bodyPost_ret (v := .agg #[.int .i64 3, .int .i64 0, .string ByteArray.empty, .slice ad f.len cp]) (by simp [results, Try.results31, go_sem, n0, n1, n2, n3]) rfl ?_
            refine rlist_done hlt HG.out HO.out (by omega) (by have := HM.out.lt; omega) ?_
            refine .inl ⟨l', ?_, HRL'.out⟩
            rw [← HRes.out, ← HD'.out, Nat.sub_self]
            simp only [dlist, Option.map_some, VL.app_nil]
          · have hjy' : (j : Int) < (y : Int) := by omega
            obtain ⟨q, hq⟩ : ∃ q, Hid (y - j = q + 1) := ⟨y - j - 1, by show _ = _; omega⟩
            have m3 := HM.out.c3
            have HROW := Lib.hid HO.out.row
            have HLT := Lib.hid HM.out.lt
            go_wp2_with fail
            go_region_law ((first
              | (go_simp
                 go_at_call 31
                 refine (ih Bd R (x + 1) full l' _ HX (HRL'.out.below HRL'.out.lt (Below.refl _ _).drew) hll).mono ?_
                 rintro e w5 ⟨v, a5, cap5, rfl, hg5, hk5, hn5, hs5, hq5, hst5⟩
                 have HST5 := Lib.hid hst5
                 have HK5 := Lib.hid (And.intro hk5 (And.intro hn5 hs5))
                 have HQ5 := Lib.hid hq5
                 have HG5 := Lib.hid (upd_trans (upd_drew R wr) hg5)
                 have hz5 : wr.heap.size ≤ w5.heap.size := HG5.out.size
                 have HM5 := Lib.hid (HM.out.upd HG5.out hMR)
                 have HN5 := Lib.hid (HN.out.upd HG5.out hne)
                 have q3 := HM5.out.c3
                 have H1 := Lib.hid ((HO.out.upd HG5.out (by omega) (ok' := fun b => (w3.heap.size < b ∧ b < w5.heap.size) ∧ (Value.slice ad f.len cp).ownBlock ≠ some b) (fun k hk => ⟨⟨hk.1.1, by omega⟩, hk.2⟩) (fun k hk => ⟨by have := hk.1.1; omega, hk.1.2⟩)).upd (upd_of ((Below.refl _ _).alloc (Nat.le_refl _) (.cells #[.int .i64 v.k, .int .i64 v.n, .string v.s, .slice a5 v.kids.len cap5] 24))) (R := R) (by omega) (fun k hk => hk) (fun k hk => ⟨by have := hk.1.1; omega, hk.1.2⟩))
                 have H2 := Lib.hid (HQ5.out.keep (ok' := fun b => (w3.heap.size < b ∧ b < w5.heap.size) ∧ (Value.slice ad f.len cp).ownBlock ≠ some b) (w' := w5.alloc (.cells #[.int .i64 v.k, .int .i64 v.n, .string v.s, .slice a5 v.kids.len cap5] 24)) (fun b hb => ⟨⟨Nat.lt_of_lt_of_le HLT.out hb.1, hb.2⟩, fun e => Nat.lt_irrefl _ (Nat.lt_of_lt_of_le (HROW.out b e).2 hb.1)⟩) (fun b hb => ((Below.refl _ _).alloc (Nat.le_refl _) _).block b hb.2))
                 have HM6 := Lib.hid (HM5.out.upd (upd_of ((Below.refl _ _).alloc (Nat.le_refl _) (.cells #[.int .i64 v.k, .int .i64 v.n, .string v.s, .slice a5 v.kids.len cap5] 24)) (R := R)) hMR)
                 have HN6 := Lib.hid (HN5.out.upd (upd_of ((Below.refl _ _).alloc (Nat.le_refl _) (.cells #[.int .i64 v.k, .int .i64 v.n, .string v.s, .slice a5 v.kids.len cap5] 24)) (R := R)) hne)
                 have q4 := HM6.out.c3
                 clear hg5 hk5 hn5 hs5 hq5 hst5)
              | (refine step_appV (by rfl) _ _ (by rfl) (fun b => (w3.heap.size < b ∧ b < w5.heap.size) ∧ (Value.slice ad f.len cp).ownBlock ≠ some b) (w3.heap.size + 1) _ f v.k v.n v.s v.kids a5 cap5 w5.heap.size (by rfl) H1.out (by rfl) (heap_alloc_new w5 _) HK5.out.1 HK5.out.2.1 HK5.out.2.2 H2.out (by omega) (Nat.le_trans (Nat.le_trans HLT.out hz5) (by simp)) (fun b hb => ⟨hb.2, Nat.lt_of_lt_of_le hb.1.2 (by simp)⟩) ?_
                 intro ad6 cp6 w6 hO6 hG6
                 have HO6 := Lib.hid hO6
                 have HG6 := Lib.hid hG6
                 have HM7 := Lib.hid (HM6.out.grew hG6 (fun e => Nat.lt_irrefl _ (HROW.out _ e).1))
                 have HN7 := Lib.hid (HN6.out.grew hG6 (fun e => by have := (HROW.out _ e).1; omega))
                 have q5 := HM7.out.c3
                 have q6 := HM7.out.cf 3
                 clear hO6 hG6)))
            all_goals
              have hlen6 : (f.app (.cons v.k v.n v.s v.kids .nil)).len = f.len + 1 := by rw [VL.len_app]; rfl
              have hlt8 := HLT.out
              have hz6 : w5.heap.size + 1 ≤ w6.heap.size := by simpa using HG6.out.size
              have hbe := Lib.hid ((((Below.refl w.heap.size w5).alloc (by omega) _).trans (HG6.out.below (fun k hk => by have := (HROW.out k hk).1; omega) (by simp; omega))).setCell (p := ⟨w3.heap.size, 3, none⟩) (by simp; omega) (.slice ad6 (f.len + 1) cp6))
              have hus := Lib.hid (upd_cell (w := w6) (w1 := w6) (r := some w3.heap.size) ⟨rfl, rfl, rfl, Nat.le_refl _, fun _ _ _ => rfl⟩ (N := w3.heap.size) (j := 3) rfl (.slice ad6 (f.len + 1) cp6))
              have e1 := Lib.hid (HM7.out.set3 (.slice ad6 (f.len + 1) cp6))
              have e2 := Lib.hid (HN7.out.setNe (M := w3.heap.size) (j := 3) (.slice ad6 (f.len + 1) cp6) (fun e => hMN e.symm))
              have e3 := Lib.hid (HO6.out.upd hus.out (by omega) (ok' := fun b => (w3.heap.size < b ∧ b < (w6.setCell ⟨w3.heap.size, 3, none⟩ (.slice ad6 (f.len + 1) cp6)).heap.size) ∧ (Value.slice ad6 (f.len + 1) cp6).ownBlock ≠ some b) (fun k hk => ⟨⟨hk.1.1.1, by have := hk.1.1.2; simp; omega⟩, hk.2⟩) (fun k hk => ⟨by have := hk.1.1.1; omega, by have := hk.1.1.2; omega⟩))
              have e4 := Lib.hid (upd_below2 (upd_trans HG.out HG5.out) hbe.out)
              have e5 : Hid ((∃ l2, Hid (RL Bd R (w6.setCell ⟨w3.heap.size, 3, none⟩ (.slice ad6 (f.len + 1) cp6)) full l2) ∧ f.len + 1 + l2.length ≤ 1000000000000 ∧ Hid (((dlist (dval d) (y - (j + 1)) l2).map fun z => ((f.app (.cons v.k v.n v.s v.kids .nil)).app z.1, z.2)) = res)) ∨ (Hid (RX Bd R (w6.setCell ⟨w3.heap.size, 3, none⟩ (.slice ad6 (f.len + 1) cp6)) full) ∧ Hid (res = none))) := by
                have hD := HD'.out
                rw [hq.out] at hD
                simp only [dlist] at hD
                rcases HST5.out with ⟨r', hd', hrl'⟩ | ⟨hd', hrx'⟩
                · have hsv := dval_short d l' v r' hd'
                  refine .inl ⟨r', Lib.hid (hrl'.below hlt hbe.out), by omega, ?_⟩
                  show _ = _
                  simp only [hd'] at hD
                  rw [← hD, show y - (j + 1) = q from by have := hq.out; omega]
                  cases dlist (dval d) q r' with
                  | none => rfl
                  | some z => simp only [Option.map_some, VL.app_assoc, VL.app]
                · refine .inr ⟨Lib.hid (hrx'.below hlt hbe.out), ?_⟩
                  show _ = _
                  simp only [hd'] at hD
                  rw [← hD]; rfl
              clear hbe hus
              go_wp2_with fail
              refine ⟨⟨j + 1, f.app (.cons v.k v.n v.s v.kids .nil), ad6, cp6, by go_num, by omega, ?_, e2, ?_, e4, ?_⟩, ?_⟩
              · rw [hlen6]; exact e1
              · rw [hlen6]; exact e3
              · rw [hlen6]; exact e5.out
              · simp [intOf]; omega
        · have hbad := HRX'.out.bad
          obtain ⟨mlt, m0, m1, m2, m3, mf⟩ := HM.out
          obtain ⟨nlt, n0, n1, n2, n3, nf⟩ := HN.out
          go_wp2_with fail
          all_goals
            refine bodyPost_ret (v := .agg #[.int .i64 3, .int .i64 0, .string ByteArray.empty, .slice ad f.len cp]) (by simp [results, Try.results31, go_sem, n0, n1, n2, n3]) rfl ?_
            refine rlist_done hlt HG.out HO.out (by omega) (by have := HM.out.lt; omega) ?_
            exact .inr ⟨by rw [← HRes.out]; exact HNO.out, HRX'.out⟩
  · obtain ⟨c0, c1, c2, c3, cf⟩ := box4_upd hlt (upd_trans HA1.out hg)
    have HD := Lib.hid hd
    have HX2 := Lib.hid hrx
    have hbad := hrx.bad
    have hfz := hrx.frozen 2
    have HG2 := Lib.hid (upd_trans HG1.out hg)
    have hne : ¬ w.heap.size = R := by omega
    clear hd hrx hg
    go_wp2_with fail
    go_quiet (fail)
    go_wp2_with fail
    refine bodyPost_ret (v := .agg #[.int .i64 0, .int .i64 0, .string ByteArray.empty, .slice none 0 0]) (by simp [results, Try.results31, go_sem, c0, c1, c2, c3, hne, Ne.symm hne]; rfl) rfl ?_
    rw [HD.out]
    exact rv_zero hlt (RX.setBad (w := w2.drewN _) HX2.out) (upd_R (upd_dN HG2.out _) _)

/-- The contract of Value. -/
theorem rvalue_any (d : Nat) (hd : d ≤ 16) : RvSaid d := by
  induction d with
  | zero =>
    intro Bd R x full l w HX h hl
    have hx : x = 16 := by have := HX.out; omega
    cases l with
    | nil => exact rvalue_empty Bd R x full w h
    | cons t l =>
      by_cases h1 : t.toNat = 1
      · simp only [dval]; rw [if_pos h1]; exact rvalue_int Bd R x t full l w h h1
      by_cases h2 : t.toNat = 2
      · simp only [dval]; rw [if_neg h1, if_pos h2]; exact rvalue_text Bd R x t full l w h h2 hl
      simp only [dval]; rw [if_neg h1, if_neg h2]
      by_cases h3 : t.toNat = 3
      · rw [hx]; exact rvalue_deep Bd R t full l w h h3 hl
      · exact rvalue_other Bd R x t full l w h h1 h2 h3
  | succ d ih =>
    intro Bd R x full l w HX h hl
    have hx : x = 16 - (d + 1 : Nat) := HX.out
    cases l with
    | nil => exact rvalue_empty Bd R x full w h
    | cons t l =>
      by_cases h1 : t.toNat = 1
      · simp only [dval]; rw [if_pos h1]; exact rvalue_int Bd R x t full l w h h1
      by_cases h2 : t.toNat = 2
      · simp only [dval]; rw [if_neg h1, if_pos h2]; exact rvalue_text Bd R x t full l w h h2 hl
      simp only [dval]; rw [if_neg h1, if_neg h2]
      by_cases h3 : t.toNat = 3
      · rw [if_pos h3]
        have := rvalue_list d (ih (by omega)) Bd R x t full l w (by show _ = _; omega) (by omega) (by omega) h h3 hl
        cases hn : dnum l with
        | none => rw [hn] at this; exact this
        | some y => rw [hn] at this; exact this
      · rw [if_neg h3]
        exact rvalue_other Bd R x t full l w h h1 h2 h3
end Go.Proofs.Ytihllbblehjhlaa
