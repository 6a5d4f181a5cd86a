/-
  Contracts of (*reader).list and of (*reader).value at a list.
-/
import Derived.Test.YtihllbblehjhlaaVal
namespace Go.Proofs.Ytihllbblehjhlaa
open Go.RowKit

theorem valInfo : (Try.prog.info? 24).map (fun i => (i.zero, i.size, i.bytes)) = some (some (.agg #[.int .i64 0, .int .i64 0, .string ByteArray.empty, .slice none 0 0]), 4, 56) := by kernel_rfl

/-- append(own, v), v a value that was put into a block of its own. -/
theorem wpList_appV {ops : Array Oper} {rest : List Oper} {o : Oper} {a : Act} {w : World} {Q : Exit → Act → World → Prop} (hgd : o.guard = none) (s x : Operand)
    (ho : o.op = .call { callee := .builtin .append, args := #[s, x], argTypes := #[22, 22] })
    (ok : Nat → Prop) (B : Nat) (v : Value) (f : VL) (k n : Int) (str : ByteArray) (kids : VL) (ka : Option Addr) (kc : Nat) (g : Nat) (hs : a.eval s = v) (hown : OwnV ok B w v f) (hx : a.eval x = .slice (some ⟨g, 0, none⟩) 1 1)
    (hg : w.heap[g]? = some (.cells #[.int .i64 k, .int .i64 n, .string str, .slice ka kids.len kc] 24)) (hk : I64 k) (hn : I64 n) (hst : str.size ≤ maxLen) (hr : RepQ ok w ka kc kids)
    (hlen : f.len + 1 ≤ 2000000000000) (hB : B ≤ w.heap.size) (hok : ∀ b, ok b → v.ownBlock ≠ some b ∧ b < w.heap.size)
    (h : ∀ v' w', OwnV (fun b => ok b ∧ v'.ownBlock ≠ some b) B w' v' (f.app (.cons k n str kids .nil)) → Grew w v w' v' → wpList Try.prog ops Q rest (a.put o.dst v') w') : wpList Try.prog ops Q (o :: rest) a w := by
  refine wpList_plain hgd fun K hK => ?_
  obtain ⟨cs, ho1, hc1⟩ := hown
  obtain ⟨i0, hi, hz0, hz1, hz2⟩ := info_parts valInfo
  have hnews : ∀ j u, [Value.int .i64 k, .int .i64 n, .string str, .slice ka kids.len kc][j]? = some u → w.cell? ((⟨g, 0, none⟩ : Addr).add j) = some u := by
    intro j u hu
    rw [addr_add, Nat.zero_add, cell_of_row w g j _ _ (0, 0) hg]
    simpa using hu
  obtain ⟨v', w', hrun, h2, h3, _, h5⟩ := run_append_own_at (P := Try.prog) (w := w) B 22 o.type 24 i0 _ 4 56 Try.underlying22 hi hz0 hz1 hz2 rfl (by decide) v f.len cs ho1 ⟨g, 0, none⟩ 1 1 _ (by rfl) hnews (by intro u hu; simp at hu; rcases hu with rfl | rfl | rfl | rfl <;> rfl) (by unfold maxLen; omega) (by omega) hB
  unfold Oper.wp execOp
  simp only [ho, resolve, invoke, builtin, Sem.run_bind, Sem.run_pure, Result.andThen_ok, List.map_toArray, List.map_cons, List.map_nil, hs, hx, hrun]
  have hG : Grew w v w' v' := ⟨h3, fun k' hk' => by
    rcases h5 with h5 | h5
    · exact .inl (h5 ▸ hk')
    · rw [h5] at hk'; cases hk'; exact .inr (Nat.le_refl _)⟩
  refine hK _ _ (h v' w' ⟨_, by rw [VL.len_app]; exact h2, ?_⟩ hG)
  have e1 : ∀ b, ok b → (ok b ∧ v'.ownBlock ≠ some b) := fun b hb => ⟨hb, hG.ne (hok b hb).1 (hok b hb).2⟩
  have e2 : ∀ b, ok b → w'.heap[b]? = w.heap[b]? := fun b hb => h3.block b (hok b hb).2 (Ne.symm (hok b hb).1)
  exact CellsP.snoc hk hn hst (hr.keep e1 e2) f cs (hc1.keep e1 e2)

theorem OwnV.upd {ok ok' : Nat → Prop} {B R : Nat} {w w2 : World} {v : Value} {f : VL} (h : OwnV ok B w v f) (hu : w.grownBy w2 (some R)) (hR : R < B) (h0 : ∀ k, ok k → ok' k) (h1 : ∀ k, ok k → k ≠ R ∧ k < w.heap.size) : OwnV ok' B w2 v f := by
  obtain ⟨cs, ho, hc⟩ := h
  refine ⟨cs, World.ownsRow.kept ho hu ?_, hc.keep h0 fun k hk => hu.block k (h1 k hk).2 (by intro e; injection e with e; exact (h1 k hk).1 e)⟩
  cases hv : v.ownBlock with
  | none => exact .inl rfl
  | some k =>
    have := (World.ownsRow.lt ho k hv).1
    exact .inr (by intro e; injection e with e; omega)
theorem OwnV.imp {ok ok' : Nat → Prop} {B : Nat} {w : World} {v : Value} {f : VL} (h : OwnV ok B w v f) (h0 : ∀ k, ok k → ok' k) : OwnV ok' B w v f := by
  obtain ⟨cs, ho, hc⟩ := h
  exact ⟨cs, ho, hc.keep h0 fun _ _ => rfl⟩
theorem OwnV.row {ok : Nat → Prop} {B : Nat} {w : World} {v : Value} {f : VL} (h : OwnV ok B w v f) : ∀ k, v.ownBlock = some k → B ≤ k ∧ k < w.heap.size := by
  obtain ⟨cs, ho, hc⟩ := h
  exact World.ownsRow.lt ho

/-- What reading the elements of a list comes to. -/
def ListPost (Bd R : Nat) (w : World) (res : Option (VL × List UInt8)) (e : Ending) (w' : World) : Prop :=
  (∃ f a cap r, res = some (f, r) ∧ e = .returned (.slice a f.len cap) ∧ Rdr Bd R w' r ∧ w.grownBy w' (some R) ∧ RepQ (fun b => w.heap.size ≤ b ∧ b < w'.heap.size) w' a cap f) ∨
  (res = none ∧ e = .panicked errCode ∧ w.grownBy w' (some R))
def ValueSaid (d : Nat) : Prop := ∀ (Bd R : Nat) (x : Int) (l : List UInt8) (w : World), Hid (x = 16 - d) → Rdr Bd R w l → l.length ≤ 1000000000000 →
    Calls Try.prog 30 #[.pointer (some ⟨R, 0, none⟩), .int .i64 x] w (ValPost Bd R w (dval d l))

set_option maxRecDepth 100000 in
set_option maxHeartbeats 800000 in
theorem list_deep (Bd R : Nat) (l : List UInt8) (w : World) (h : Rdr Bd R w l) :
    Calls Try.prog 42 #[.pointer (some ⟨R, 0, none⟩), .int .i64 17] w (ListPost Bd R w none) := by
  go_enter Try.func42, Try.ntmps42
  go_wp2_with fail
  exact ⟨rfl, .inr ⟨rfl, rfl, upd_of (Below.refl _ _)⟩⟩

set_option maxRecDepth 100000 in
set_option maxHeartbeats 800000 in
theorem rlist_any (d : Nat) (ih : ValueSaid d) (Bd R : Nat) (x : Int) (l : List UInt8) (w : World) (HX : Hid (x = 16 - d)) (hx : x ≤ 16) (h : Rdr Bd R w l) (hll : l.length ≤ 1000000000000) :
    Calls Try.prog 42 #[.pointer (some ⟨R, 0, none⟩), .int .i64 x] w (ListPost Bd R w ((dnum l).bind fun x => dlist (dval d) x.1 x.2)) := by
  have HR := Lib.hid h
  have hlt := h.lt
  clear h
  have hxd : decide ((16 : Int) < x) = false := by simp; omega
  go_enter Try.func42, Try.ntmps42
  go_wp2_with fail
  refine (numeral_any Bd R l _ HR.out).mono ?_
  intro e w1 hp
  rcases hp with ⟨y, r, hd, rfl, hrd, hg⟩ | ⟨hd, rfl, hg⟩
  · have hy := (dnum_some hd).2
    have hsh := dnum_short hd
    obtain ⟨res, HRes⟩ : ∃ res, Hid (res = (dnum l).bind fun x => dlist (dval d) x.1 x.2) := ⟨_, Lib.hid rfl⟩
    have HD : Hid (((dlist (dval d) y r).map fun z => (VL.nil.app z.1, z.2)) = res) := by
      show _ = _; rw [HRes.out, hd]; simp only [Option.bind_some, VL.app]; cases dlist (dval d) y r <;> rfl
    have HRd := Lib.hid hrd
    have HG := Lib.hid hg
    clear hd hrd hg
    go_wp2_with fail
    go_loopw [5, 4] (fun c v wr => ∃ (cnt : Nat) (f : VL) (l' : List UInt8), c = .int .u64 cnt ∧ cnt ≤ 18446744073709551615 ∧ Hid (OwnV (fun b => (w.heap.size ≤ b ∧ b < wr.heap.size) ∧ v.ownBlock ≠ some b) w.heap.size wr v f) ∧ Hid (Rdr Bd R wr l') ∧ f.len + l'.length ≤ 1000000000000 ∧ Hid (((dlist (dval d) cnt l').map fun z => (f.app z.1, z.2)) = res) ∧ Hid (w.grownBy wr (some R))) (fun c _ _ => (intOf c).toNat)
    case atStart => exact ⟨y, .nil, r, rfl, hy, Lib.hid (OwnV.nil _ _ _), HRd, by simp only [VL.len]; omega, HD, HG⟩
    case round =>
      obtain ⟨cnt, f, l', rfl, hcnt, HO, HRd', hfl, HD', HG'⟩ := hrel
      have hsz : w.heap.size ≤ wr.heap.size := HG'.out.size
      by_cases hc0 : cnt = 0
      · subst hc0
        go_wp2_with fail
        obtain ⟨a, cap, hv, hrep⟩ := HO.out.rep (ok' := fun b => w.heap.size ≤ b ∧ b < wr.heap.size) (fun b hb => hb.1) (fun b h1 h2 => ⟨h1, h2⟩)
        go_ret
        refine .inl ⟨f, a, cap, l', ?_, by rw [← hv]; rfl, HRd'.out, HG'.out, hrep⟩
        rw [← HRes.out, ← HD'.out]
        simp only [dlist, Option.map_some, VL.app_nil]
      · obtain ⟨c, rfl⟩ : ∃ c, cnt = c + 1 := ⟨cnt - 1, by omega⟩
        have hcp : (0 : Int) < ((c + 1 : Nat) : Int) := by omega
        go_wp2_with fail
        refine (ih Bd R x l' _ HX HRd'.out (by omega)).mono ?_
        intro e w2 hp
        rcases hp with ⟨v, a, cap, r', hd, rfl, hrd, hg, hk, hn, hs, hrep⟩ | ⟨hd, rfl, hg⟩
        · have hsv := dval_short d l' v r' hd
          have hDv := Lib.hid hd
          have HRd2 := Lib.hid hrd
          have hsz2 := hg.size
          have HG2 := Lib.hid hg
          have HREP := Lib.hid hrep
          have HK := Lib.hid (And.intro hk (And.intro hn hs))
          clear hd hrd hg hrep hk hn hs
          have hrow := HO.out.row
          have HO1 : OwnV (fun b => (w.heap.size ≤ b ∧ b < w2.heap.size) ∧ u4.ownBlock ≠ some b) w.heap.size (w2.alloc (.cells #[.int .i64 v.k, .int .i64 v.n, .string v.s, .slice a v.kids.len cap] 24)) u4 f :=
            (HO.out.upd HG2.out hlt (ok' := fun b => (w.heap.size ≤ b ∧ b < w2.heap.size) ∧ u4.ownBlock ≠ some b) (fun k hk => ⟨⟨hk.1.1, by omega⟩, hk.2⟩) (fun k hk => ⟨by have := hk.1.1; omega, hk.1.2⟩)).upd (upd_of ((Below.refl _ _).alloc (Nat.le_refl _) _)) hlt (fun k hk => hk) (fun k hk => ⟨by have := hk.1.1; omega, hk.1.2⟩)
          have HQ1 : RepQ (fun b => (w.heap.size ≤ b ∧ b < w2.heap.size) ∧ u4.ownBlock ≠ some b) (w2.alloc (.cells #[.int .i64 v.k, .int .i64 v.n, .string v.s, .slice a v.kids.len cap] 24)) a cap v.kids :=
            HREP.out.keep (fun b hb => ⟨⟨by omega, hb.2⟩, fun e => by have := (hrow b e).2; omega⟩) (fun b hb => ((Below.refl _ _).alloc (Nat.le_refl _) _).block b hb.2)
          have H1 := Lib.hid HO1
          have H2 := Lib.hid HQ1
          clear HO1 HQ1 hrow
          go_wp2_with (at_builtin; refine wpList_appV rfl _ _ rfl _ w.heap.size _ f v.k v.n v.s v.kids a cap w2.heap.size rfl H1.out rfl ?c1 HK.out.1 HK.out.2.1 HK.out.2.2 H2.out ?c2 ?c3 ?c4 ?_)
          case c1 => exact heap_alloc_new w2 _
          case c2 => omega
          case c3 => simp; omega
          case c4 => exact fun b hb => ⟨hb.2, by simp; omega⟩
          intro v3 w3 hown3 hg3
          have hz3 := hg3.size
          simp at hz3
          have H3 := Lib.hid (hown3.imp (ok' := fun b => (w.heap.size ≤ b ∧ b < w3.heap.size) ∧ v3.ownBlock ≠ some b) fun b hb => ⟨⟨hb.1.1.1, by omega⟩, hb.2⟩)
          have hbw : Below w.heap.size w2 w3 := ((Below.refl _ _).alloc (by omega) _).trans (hg3.below (fun k hk => (H1.out.row k hk).1) (by simp; omega))
          have H4 := Lib.hid (upd_below2 (upd_trans HG'.out HG2.out) hbw)
          have H5 := Lib.hid (HRd2.out.below hlt hbw)
          clear hown3 hg3 hbw
          go_wp2_with fail
          go_roundw
          case rel =>
            refine ⟨c, f.app (.cons v.k v.n v.s v.kids .nil), r', by go_num, by omega, H3, H5, ?_, ?_, H4⟩
            · rw [VL.len_app]; simp only [VL.len]; omega
            · show _ = _
              rw [← HD'.out]
              simp only [dlist, hDv.out]
              cases dlist (dval d) c r' with
              | none => rfl
              | some z => simp only [Option.map_some, VL.app_assoc, VL.app]
          case measure => simp [intOf]
        · exact ⟨rfl, .inr ⟨by rw [← HRes.out, ← HD'.out]; simp only [dlist, hd]; rfl, rfl, upd_trans HG'.out hg⟩⟩
  · have HD := Lib.hid hd
    exact ⟨rfl, .inr ⟨by rw [HD.out]; rfl, rfl, hg⟩⟩

set_option maxRecDepth 100000 in
set_option maxHeartbeats 800000 in
theorem value_list (Bd R : Nat) (x : Int) (hx0 : -1000 ≤ x) (hx1 : x ≤ 1000) (t : UInt8) (l : List UInt8) (w : World) (h : Rdr Bd R w (t :: l)) (ht : t.toNat = 3) (res : Option (VL × List UInt8))
    (hl : ∀ w', Rdr Bd R w' l → Calls Try.prog 42 #[.pointer (some ⟨R, 0, none⟩), .int .i64 (x + 1)] w' (ListPost Bd R w' res)) :
    Calls Try.prog 30 #[.pointer (some ⟨R, 0, none⟩), .int .i64 x] w (ValPost Bd R w (res.map fun y => (⟨3, 0, ByteArray.empty, y.1⟩, y.2))) := by
  have HR := Lib.hid h
  have HL := Lib.hid hl
  have hlt := h.lt
  clear h hl
  have hbt : bv t = .int .u8 3 := by unfold bv; rw [ht]; rfl
  go_enter Try.func30, Try.ntmps30
  go_wp2_with fail
  refine (take1 Bd R t l _ (HR.out.same ((Below.refl _ _).alloc (Nat.le_refl _) _))).mono ?_
  rintro e w1 ⟨b, o, rfl, hc, hrd, hg1⟩
  rw [hbt] at hc
  have HR1 := Lib.hid hrd
  have HG1 := Lib.hid (upd_trans (upd_of ((Below.refl _ _).alloc (Nat.le_refl _) _)) hg1)
  have hz : w.heap.size + 1 ≤ w1.heap.size := by simpa using hg1.size
  have HA1 := Lib.hid hg1
  clear hrd hg1
  go_wp2_with fail
  refine (HL.out _ HR1.out).mono ?_
  intro e w2 hp
  rcases hp with ⟨f, a, cap, r, hd, rfl, hrd, hg, hrep⟩ | ⟨hd, rfl, hg⟩
  · have HD := Lib.hid hd
    obtain ⟨c0, c1, c2, c3, cf⟩ := box4_upd hlt (upd_trans HA1.out hg)
    have HR2 := Lib.hid hrd
    have HG2 := Lib.hid (upd_trans HG1.out hg)
    have HQ := Lib.hid hrep
    clear hd hrd hg hrep
    go_wp2_with fail
    refine bodyPost_ret (v := .agg #[.int .i64 3, .int .i64 0, .string ByteArray.empty, .slice a f.len cap]) (by simp [results, Try.results30, go_sem, c0, c1, c2, c3]; rfl) rfl ?_
    have hu := upd_set4 w2 w.heap.size (.int .i64 3) (.int .i64 0) (.string ByteArray.empty) (.slice a f.len cap)
    refine .inl ⟨⟨3, 0, ByteArray.empty, f⟩, a, cap, r, by rw [HD.out]; rfl, rfl, HR2.out.upd hu hlt, upd_new HG2.out hu (Nat.le_refl _), i64_3, i64_0, Nat.zero_le _, ?_⟩
    exact HQ.out.keep (fun k hk => ⟨Nat.le_trans (show w.heap.size ≤ w1.heap.size by omega) hk.1, Nat.lt_of_lt_of_le hk.2 hu.size⟩) fun k hk => hu.block k hk.2 (by intro e; injection e with e; omega)
  · have HD := Lib.hid hd
    exact ⟨rfl, .inr ⟨by rw [HD.out]; rfl, rfl, upd_trans HG1.out hg⟩⟩

/-- The contract of value. -/
theorem value_any (d : Nat) (hd : d ≤ 16) : ValueSaid d := by
  induction d with
  | zero =>
    intro Bd R x l w HX h hl
    have hx : x = 16 := by have := HX.out; omega
    cases l with
    | nil => exact value_empty Bd R x w h
    | cons t l =>
      by_cases h1 : t.toNat = 1
      · simp only [dval]; rw [if_pos h1]; exact value_int Bd R x t l w h h1
      by_cases h2 : t.toNat = 2
      · simp only [dval]; rw [if_neg h1, if_pos h2]; exact value_text Bd R x t l w h h2 (by simp at hl; omega)
      simp only [dval]; rw [if_neg h1, if_neg h2]
      by_cases h3 : t.toNat = 3
      · refine (value_list Bd R x (by omega) (by omega) t l w h h3 none fun w' hr => ?_)
        rw [hx]
        exact list_deep Bd R l w' hr
      · exact value_other Bd R x t l w h h1 h2 h3
  | succ d ih =>
    intro Bd R x l w HX h hl
    have hx : x = 16 - (d + 1 : Nat) := HX.out
    cases l with
    | nil => exact value_empty Bd R x w h
    | cons t l =>
      by_cases h1 : t.toNat = 1
      · simp only [dval]; rw [if_pos h1]; exact value_int Bd R x t l w h h1
      by_cases h2 : t.toNat = 2
      · simp only [dval]; rw [if_neg h1, if_pos h2]; exact value_text Bd R x t l w h h2 (by simp at hl; omega)
      simp only [dval]; rw [if_neg h1, if_neg h2]
      by_cases h3 : t.toNat = 3
      · rw [if_pos h3]
        have := value_list Bd R x (by omega) (by omega) t l w h h3 _ fun w' hr => rlist_any d (ih (by omega)) Bd R (x + 1) l w' (by show _ = _; omega) (by omega) hr (by simp at hl; omega)
        cases hn : dnum l with
        | none => rw [hn] at this; exact this
        | some y => rw [hn] at this; exact this
      · rw [if_neg h3]
        exact value_other Bd R x t l w h h1 h2 h3
end Go.Proofs.Ytihllbblehjhlaa
