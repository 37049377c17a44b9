import Derived.Deep.LoopGhost
import Derived.Deep.CutRange
import Derived.Test.YtobegepebochkaaGreatDoorSTs
import Derived.Test.YtobegepebochkaaGreatDoorSPas
import Derived.Test.YtobegepebochkaaGreatDoorSPbs
import Derived.Test.YtobegepebochkaaGreatDoorSPbo
import Derived.Test.YtobegepebochkaaGreatDoorSPay
set_option linter.unusedVariables false
set_option linter.unusedSimpArgs false
namespace Go.Proofs.YtobegepebochkaaGreatDoor
open Go.RowKit Go.Maps
theorem Tryz.info86b : (Tryz.prog.info? 86).map (fun i => (i.zero, i.size, i.bytes)) = some (some (.agg Z86), 16, 184) := by kernel_rfl
theorem call_st (st : Nat) (args : Array Value) (w : World) : Sem.run Tryz.prog (callFunc (stF st) args) w = .ok (.enter (stF st) args) w := by
  unfold stF
  repeat' split
  all_goals go_simp
section
variable {w : World} {ops : Array Oper} {rest : List Oper} {o : Oper} {a : Act} {Q : Exit → Act → World → Prop}
theorem push86 (hgd : o.guard = none) (s x : Operand) (ho : o.op = .call { callee := .builtin .append, args := #[s, x], argTypes := #[57, 57] })
    (B : Nat) (v : Value) (n : Nat) (xs : List Value) (hs : a.eval s = v) (hown : w.ownsRow B 86 16 v n xs) (us : List Value) (hul : us.length = 16) (hu : ∀ u ∈ us, u.oneCell' = true) (hx : a.eval x = .slice (some ⟨w.heap.size, 0, none⟩) 1 1) (hn : n ≤ 100000000000) (hB : B ≤ w.heap.size)
    (h : ∀ g cap w', w'.ownsRow B 86 16 (.slice (some ⟨g, 0, none⟩) (n + 1) cap) (n + 1) (xs ++ us) → w.grownBy w' v.ownBlock → (v.ownBlock = some g ∨ w.heap.size ≤ g) → wpList Tryz.prog ops Q rest (a.put o.dst (.slice (some ⟨g, 0, none⟩) (n + 1) cap)) w') : wpList Tryz.prog ops Q (o :: rest) a (w.alloc (.cells us.toArray 86)) := by
  obtain ⟨i0, hi, hz0, hz1, hz2⟩ := info_parts Tryz.info86b
  exact wpList_pushN hgd s x 57 ho 86 i0 _ 16 184 Tryz.underlying57 hi hz0 hz1 hz2 rfl (by omega) (by omega) B v n xs hs hown us hul hu hx hn hB h
end
set_option maxRecDepth 100000 in
set_option maxHeartbeats 4000000 in
theorem feed_45 {w : World} {fb : Nat} {F : Fd} {kv : Value} (h : IsF w fb F kv) (hok : F.Ok) {v : Value} {l : Bs} (hv : Ck w (XF fb kv) v l) (hl2 : l.length ≤ 34359738368) (ht : F.taken + l.length ≤ 2199023255552) (hE : Er w) (hX : ¬ XF fb kv 2 ∧ ¬ XF fb kv 3) (h136 : Rd136 fb) :
    Calls Tryz.prog 45 #[.pointer (some ⟨fb, 0, none⟩), v] w fun e w' => FdP F l w fb kv e w' := by
  have start := FdI.start h hok hv
  obtain ⟨va, vn, vc, rfl, -⟩ := hv.slice
  clear h hv hok
  go_enter Tryz.func45, Tryz.ntmps45
  go_wp2
  go_loopg [1, 5, 6, 7] (2 * l.length + 1) (fun gk x1 x5 x6 x7 wr => ∃ l1 F1 kv1 q, FdI F l w fb kv gk x1 x5 wr l1 F1 kv1 q)
  case atStart => exact ⟨l, F, kv, [], start⟩
  case round =>
    clear start
    obtain ⟨l1, F1, kv1, q, hI⟩ := hrel
    obtain ⟨ra, rc, hrv, -, -, -, -⟩ := row_shape hI.ss.row
    subst hrv
    obtain ⟨ca, cn, cc, hcv, hcn⟩ := hI.ck.slice
    subst hcv
    by_cases hl : l1 = []
    · have hE2 := hI.done hl
      have hcn0 : cn = 0 := by rw [hcn, hl]; rfl
      subst hcn0
      clear hI hl hcn h136 hE hX
      go_wp2
      go_ret
      exact hE2
    · have hl0 : 0 < l1.length := List.length_pos_iff.2 hl
      have hll := hI.ll
      have htk := hI.tk
      obtain ⟨hEr, hX1⟩ := hI.er hE hX
      have hS := state_any hI.isf hI.ok hI.ck hl0 (by omega) (by omega) hEr hX1 h136
      obtain ⟨g, o, c, ecv, hc1, hc2, -, -⟩ := hI.ck.by hl0
      injection ecv with ea en ec
      subst ea en ec
      have c23 : wr.cell? ⟨fb, 23, none⟩ = some (.func (.func (stF F1.st)) #[.pointer (some ⟨fb, 0, none⟩)] #[]) := by
        obtain ⟨_, _, _, _, _, hx, -, -⟩ := hI.isf
        exact hx.box.cell 23
      obtain ⟨N, hN⟩ : ∃ N, stF F1.st = N := ⟨_, rfl⟩
      have hcf := call_st F1.st
      rw [hN] at c23 hS hcf
      have t0 : (0 : Int) < (l1.length : Int) := by omega
      clear h136 hEr hX1 hN hE hX hcn hl
      go_upto_region 4 with (fail)
      refine hS.mono ?_
      rintro e w4 ⟨u, wh, F2, kv2, rfl, hu, i4, k4, o4, z4, t4, m4, ok4, nw4, n4, r4⟩
      go_upto_region 4 with (fail)
      obtain ⟨hd, lf, ck, cd, cm, hx4, hh4, hl4⟩ := i4
      obtain ⟨ka, kc, rfl, -, -, -, -⟩ := row_shape hx4.str.keys
      obtain ⟨da, dc, rfl, -, -, -, -⟩ := row_shape hx4.str.data
      obtain ⟨ma, mc, rfl, -, -, -, -⟩ := row_shape hx4.str.mt
      have d1 : w4.cell? ⟨fb, 1, none⟩ = some (.int .i64 F2.taken) := hx4.box.cell 1
      have z1 := hx4.box.fz 1
      obtain ⟨T, hT⟩ : ∃ T, F2.taken + u = T := ⟨_, rfl⟩
      have e1 : IntKind.i64.wrap ((F2.taken : Int) + (u : Int)) = (T : Int) := by rw [IntKind.wrap_i64]; omega
      have b5 : Box (w4.setCell ⟨fb, 1, none⟩ (.int .i64 (T : Int))) 136 fb (fdA fb (F2.tk u) kv2 hd lf (.slice ka F2.s.cmd.keys.length kc) (.slice da F2.s.data.length dc) (.slice ma F2.s.cmd.mt.length mc)) := by rw [← hT]; exact hx4.box.set 1 _
      have g45 : w4.grownBy (w4.setCell ⟨fb, 1, none⟩ (.int .i64 (T : Int))) (some fb) := gb_setCell (gb_refl _ _) _
      have i5 : IsFx (w4.setCell ⟨fb, 1, none⟩ (.int .i64 (T : Int))) fb (F2.tk u) kv2 hd lf (.slice ka F2.s.cmd.keys.length kc) (.slice da F2.s.data.length dc) (.slice ma F2.s.cmd.mt.length mc) := isfx_kp hx4 (gb_kp g45) b5 rfl (row_kept hx4.kept g45 (row_box hx4.kept hx4.box (by decide))) (fun k hk => .inl hk)
      have cvA := hI.ck.drop u hu
      have ovA : ∀ g' o' n' c', Value.slice (some ⟨g, o + u, none⟩) (l1.length - u) (cc - u) = .slice (some ⟨g', o', none⟩) n' c' → g' < w.heap.size := by
        intro g' o' n' c' e
        injection e with e
        injection e with e
        injection e with e
        subst e
        exact hI.old _ _ _ _ rfl
      have cvB : cc = u → Ck wr (XF fb kv1) (.slice (some ⟨g, o, none⟩) (l1.length - u) 0) (l1.drop u) := fun e => hI.ck.dropB0 u hu e
      have ovB : ∀ g' o' n' c', Value.slice (some ⟨g, o, none⟩) (l1.length - u) 0 = .slice (some ⟨g', o', none⟩) n' c' → g' < w.heap.size := by
        intro g' o' n' c' e
        injection e with e
        injection e with e
        injection e with e
        subst e
        exact hI.old _ _ _ _ rfl
      have b0 : u ≤ cc := by omega
      cases wh with
      | false =>
        have hno : ∀ v', Ck wr (XF fb kv1) v' (l1.drop u) → (∀ g' o' n' c', v' = .slice (some ⟨g', o', none⟩) n' c' → g' < w.heap.size) → ∃ gk', gk' < gk ∧ FdI F l w fb kv gk' v' (.slice ra q.length rc) (w4.setCell ⟨fb, 1, none⟩ (.int .i64 (T : Int))) (l1.drop u) (F2.tk u) kv2 q :=
          fun v' cv ov => FdI.no hI cv ov hu ⟨hd, lf, _, _, _, hx4, hh4, hl4⟩ k4 o4 z4 t4 (ok4 rfl) (by simpa using r4) g45 ⟨hd, lf, _, _, _, i5, hh4, hl4⟩
        clear r4 i5 hx4 hh4 hl4 k4 o4 z4 t4 ok4 nw4 n4 hI hS b5 g45 hT m4 htk
        go_wp2
        · obtain ⟨gk', hlt, hI'⟩ := hno _ (cvB (by assumption)) ovB
          go_roundg gk'
          case measure => exact hlt
          case rel => exact ⟨_, _, _, _, hI'⟩
        · obtain ⟨gk', hlt, hI'⟩ := hno _ cvA ovA
          go_roundg gk'
          case measure => exact hlt
          case rel => exact ⟨_, _, _, _, hI'⟩
      | true =>
        have hlm : F2.limit ≤ 9223372036854775807 := by rw [m4]; exact hI.ok.limit
        have row6 : ∀ w6, (w4.setCell ⟨fb, 1, none⟩ (.int .i64 (T : Int))).grownBy w6 (some fb) → w6.ownsRow w.heap.size 86 16 (.slice ra q.length rc) q.length (q.flatMap tldL) := by
          intro w6 g6
          obtain ⟨_, _, _, _, _, hx, -, -⟩ := hI.isf
          exact row_kp hI.ss.row ((k4.step g45 (fun i hi => by injection hi with hi; exact .inl (.inl hi.symm))).step g6 (fun i hi => by injection hi with hi; exact .inl (.inl hi.symm))) (row_xf hI.ss.row (by decide) hx)
        have hql : q.length ≤ 100000000000 := by have := hI.ql; omega
        have hsz : ∀ w6, (w4.setCell ⟨fb, 1, none⟩ (.int .i64 (T : Int))).grownBy w6 (some fb) → w.heap.size ≤ w6.heap.size := fun w6 g6 => Nat.le_trans hI.kp.size (Nat.le_trans k4.size (Nat.le_trans g45.size g6.size))
        have h93 := tell_93 b5
        have hyes : ∀ v', Ck wr (XF fb kv1) v' (l1.drop u) → (∀ g' o' n' c', v' = .slice (some ⟨g', o', none⟩) n' c' → g' < w.heap.size) → ∀ w6 w7 g7 cap, (w4.setCell ⟨fb, 1, none⟩ (.int .i64 (T : Int))).grownBy w6 (some fb) → Box w6 136 fb (fdA fb (F2.tk u).tell.1 (.slice none 0 0) hd lf (.slice none 0 0) (.slice none 0 0) (.slice none 0 0)) → w7.ownsRow w.heap.size 86 16 (.slice (some ⟨g7, 0, none⟩) (q.length + 1) cap) (q.length + 1) (q.flatMap tldL ++ stpL ⟨(F2.tk u).s.cmd, (F2.tk u).s.data, (F2.tk u).s.large, (F2.tk u).s.wk, (F2.tk u).s.wt, (F2.tk u).s.wp, (F2.tk u).frm, (F2.tk u).taken⟩ (.slice ka F2.s.cmd.keys.length kc) (.slice da F2.s.data.length dc) (.slice ma F2.s.cmd.mt.length mc)) → w6.grownBy w7 (Value.slice ra q.length rc).ownBlock → ∃ gk' q', gk' < gk ∧ FdI F l w fb kv gk' v' (.slice (some ⟨g7, 0, none⟩) (q.length + 1) cap) w7 (l1.drop u) (F2.tk u).tell.1 (.slice none 0 0) q' :=
          fun v' cv ov w6 w7 g7 cap h1 h2 h3 h4 => (FdI.yesq hI cv ov hu k4 o4 t4 hlm (by simpa using r4) g45 i5 h1 h2 h3 h4 (nw4 rfl _ (hx4.box.cell 13))).elim fun gk' h => ⟨gk', _, h⟩
        clear r4 i5 hx4 hh4 hl4 k4 o4 z4 t4 ok4 nw4 n4 hI hS b5 g45 m4 htk
        go_wp2_with (first | (go_at_call 93; go_must ((with_reducible refine h93.mono ?_); rintro e w6 ⟨rfl, b6, g6⟩; (have r6 := row6 _ g6); (have s6 := hsz _ g6))) | (at_builtin; go_must (refine push86 rfl _ _ rfl w.heap.size _ q.length _ (by rfl) r6 _ rfl (by simp [Value.oneCell']) (by rfl) hql s6 ?_); intro g7 cap w7 r7 g67 _))
        · obtain ⟨gk', q', hlt, hI'⟩ := hyes _ (cvB (by assumption)) ovB _ _ _ _ g6 b6 r7 g67
          go_roundg gk'
          case measure => exact hlt
          case rel => exact ⟨_, _, _, _, hI'⟩
        · obtain ⟨gk', q', hlt, hI'⟩ := hyes _ cvA ovA _ _ _ _ g6 b6 r7 g67
          go_roundg gk'
          case measure => exact hlt
          case rel => exact ⟨_, _, _, _, hI'⟩
end Go.Proofs.YtobegepebochkaaGreatDoor
namespace Go.Proofs.YtobegepebochkaaGreatDoor
open Go.RowKit Go.Maps
section
variable {w : World} {ops : Array Oper} {rest : List Oper} {o : Oper} {a : Act} {Q : Exit → Act → World → Prop}
theorem more86 (hgd : o.guard = none) (s x : Operand) (ho : o.op = .call { callee := .builtin .append, args := #[s, x], argTypes := #[57, 57] })
    (B : Nat) (v : Value) (n : Nat) (xs : List Value) (hs : a.eval s = v) (hown : w.ownsRow B 86 16 v n xs) (B2 : Nat) (uv : Value) (m : Nat) (us : List Value) (hx : a.eval x = uv) (hu : w.ownsRow B2 86 16 uv m us) (h1 : ∀ u ∈ us, u.oneCell' = true) (hn : n + m ≤ 100000000000) (hB : B ≤ w.heap.size)
    (h : ∀ v' w', w'.ownsRow B 86 16 v' (n + m) (xs ++ us) → w.grownBy w' v.ownBlock → wpList Tryz.prog ops Q rest (a.put o.dst v') w') : wpList Tryz.prog ops Q (o :: rest) a w := by
  obtain ⟨i0, hi, hz0, hz1, hz2⟩ := info_parts Tryz.info86b
  have hul := hu.1
  rcases hu.2 with ⟨hv, hn0⟩ | ⟨g, cap, cur, hv, hb, hg, h2, h3, h4⟩
  · subst hv
    subst hn0
    obtain rfl : us = [] := List.eq_nil_of_length_eq_zero (by simpa using hul)
    refine wpList_append_own_none hgd s x 57 ho B 86 i0 16 Tryz.underlying57 hi _ _ _ hs hown hx ?_
    exact h v w (by simpa using hown) (gb_refl _ _)
  · subst hv
    refine wpList_append_own w hgd s x 57 ho B 86 i0 (.agg Z86) 16 184 Tryz.underlying57 hi hz0 hz1 hz2 rfl (by decide) _ _ _ hs hown ⟨g, 0, none⟩ m cap us hx hul ?_ h1 ?_ ?_ hB ?_
    · intro j u hj
      rw [Addr.add_mid, Nat.zero_add]
      exact row_cell hu j u hj
    · unfold maxLen; omega
    · omega
    · intro v' w' hown' hgr _
      exact h v' w' hown' hgr
end
def Oth (w : World) (b : Nat) : Prop := ∃ c t fr, w.heap[b]? = some (.cells c t fr) ∧ t ≠ 136 ∧ t ≠ 5 ∧ t ≠ 9 ∧ t ≠ 79
theorem row_oth {w w' : World} {B e s n : Nat} {v : Value} {xs : List Value} (h : w.ownsRow B e s v n xs) (he : e = 5 ∨ e = 9 ∨ e = 79) {row : Option Nat} (hf : w.grownBy w' row) (hr : ∀ j, row = some j → Oth w j) : w'.ownsRow B e s v n xs :=
  row_kept h hf (fun k hk hkr => by
    obtain ⟨c, t, fr, h1, h2, h3, h4, h5⟩ := hr k hkr.symm
    obtain ⟨c2, h6⟩ := row_block h k hk
    rw [h1] at h6
    injection h6 with h6
    injection h6 with _ h6
    subst h6
    rcases he with e | e | e
    · exact h3 e
    · exact h4 e
    · exact h5 e)
theorem StR.oth {w w' : World} {X : Nat → Prop} {s : Stp} {ck cd cm : Value} (h : StR w X s ck cd cm) {row : Option Nat} (hf : w.grownBy w' row) (hr : ∀ j, row = some j → Oth w j) : StR w' X s ck cd cm :=
  ⟨row_oth h.keys (by omega) hf hr, row_oth h.data (by omega) hf hr, row_oth h.mt (by omega) hf hr, h.ak, h.ad, h.am, h.nd⟩
theorem IsF.oth {w w' : World} {fb : Nat} {F : Fd} {kv : Value} (h : IsF w fb F kv) {row : Option Nat} (hf : w.grownBy w' row) (hr : ∀ j, row = some j → Oth w j) : IsF w' fb F kv := by
  obtain ⟨hd, lf, ck, cd, cm, hx, h1, h2⟩ := h
  refine ⟨hd, lf, ck, cd, cm, ⟨hx.box.kept hf (fun e => ?_), hx.str.oth hf hr, row_oth hx.kept (by omega) hf hr⟩, h1, h2⟩
  obtain ⟨c, t, fr, h1, h2, -⟩ := hr fb e.symm
  have h3 : w.heap[fb]? = _ := hx.box
  rw [h1] at h3
  injection h3 with h3
  injection h3 with _ h3
  exact h2 h3
theorem oth_row {w : World} {B n : Nat} {v : Value} {xs : List Value} (h : w.ownsRow B 86 16 v n xs) : ∀ j, v.ownBlock = some j → Oth w j := by
  intro j hj
  obtain ⟨c, h1⟩ := row_block h j hj
  exact ⟨c, 86, _, h1, by decide, by decide, by decide, by decide⟩
theorem one_all {w : World} {X : Nat → Prop} {q : List Tld} (h : ∀ x ∈ q, StR w X x.s x.ck x.cd x.cm) : ∀ u ∈ q.flatMap tldL, u.oneCell' = true := by
  intro u hu
  obtain ⟨x, hx, hu⟩ := List.mem_flatMap.1 hu
  have hs := h x hx
  obtain ⟨_, _, e1, -⟩ := row_shape hs.keys
  obtain ⟨_, _, e2, -⟩ := row_shape hs.data
  obtain ⟨_, _, e3, -⟩ := row_shape hs.mt
  simp only [tldL, stpL, e1, e2, e3, List.mem_cons, List.not_mem_nil, or_false] at hu
  rcases hu with rfl | rfl | rfl | rfl | rfl | rfl | rfl | rfl | rfl | rfl | rfl | rfl | rfl | rfl | rfl | rfl <;> rfl
theorem fb_len (F : Fd) (b : UInt8) : (F.fb b).2.length ≤ 1 := by
  have hsk : ∀ G : Fd, (G.skip b).2.length ≤ 1 := by
    intro G
    unfold Fd.skip
    split
    · simp
    · split <;> simp [Fd.tell]
  unfold Fd.fb
  repeat' split
  all_goals first | exact hsk _ | (simp [Fd.tell]) | skip
  all_goals (unfold Fd.end1; split <;> simp [Fd.tell])
theorem run_len : ∀ (l : Bs) (F : Fd), (F.run l).2.length ≤ l.length
  | [], F => by simp [Fd.run]
  | b :: t, F => by
    simp only [Fd.run, List.length_append, List.length_cons]
    have := run_len t (F.fb b).1
    have := fb_len F b
    omega
theorem flat_take {ps : List Bs} {k : Nat} {p : Bs} (h : ps[k]? = some p) : (ps.take (k + 1)).flatten = (ps.take k).flatten ++ p := by
  rw [List.take_add_one, h]
  simp
theorem flat_le (ps : List Bs) (k : Nat) : ((ps.take k).flatten).length ≤ ps.flatten.length := by
  have : ps.flatten = (ps.take k).flatten ++ (ps.drop k).flatten := by rw [← List.flatten_append, List.take_append_drop]
  rw [this, List.length_append]
  omega
end Go.Proofs.YtobegepebochkaaGreatDoor
namespace Go.Proofs.YtobegepebochkaaGreatDoor
open Go.RowKit Go.Maps
def LnC (q : Bs) (c : Cmd) (n k : Int) (t : Bs) (p : Int) : Prop := (lineS (trim q) = .inl (c, n) ∧ k = 0 ∧ t = [] ∧ p = 0) ∨ (lineS (trim q) = .inr (k, t, p) ∧ c = cmd0 0 false ∧ n = -1)
def RdX (w1 : World) (q : Bs) (v3 v4 v5 : Value) (wc : World) : Prop :=
  ∃ b3 b5 c n ka kn kc ma mn mc k t p, v3 = .pointer (some ⟨b3, 0, none⟩) ∧ v4 = .int .i64 n ∧ v5 = .pointer (some ⟨b5, 0, none⟩) ∧ w1.heap.size ≤ b3 ∧ w1.heap.size ≤ b5 ∧ w1.grownBy wc none ∧
    Box wc 41 b3 (cmA c (.slice ka kn kc) (.slice ma mn mc)) ∧ Box wc 43 b5 #[.int .i64 k, sv t, .int .i64 p] ∧ wc.ownsRow w1.heap.size 9 1 (.slice ka kn kc) c.keys.length (c.keys.map sv) ∧ wc.ownsRow w1.heap.size 79 3 (.slice ma mn mc) c.mt.length (fcs c.mt) ∧ LnC q c n k t p
theorem line_both {w : World} (hE : Er w) {v : Value} {q : Bs} (hB : By w v (trim q)) :
    Calls Tryz.prog 15 #[v] w fun e w' => ∃ c n ka kn kc ma mn mc k t p, e = .returned (.tuple #[.agg (cmA c (.slice ka kn kc) (.slice ma mn mc)), .int .i64 n, .agg #[.int .i64 k, sv t, .int .i64 p]]) ∧ w'.ownsRow w.heap.size 9 1 (.slice ka kn kc) c.keys.length (c.keys.map sv) ∧ w'.ownsRow w.heap.size 79 3 (.slice ma mn mc) c.mt.length (fcs c.mt) ∧ w.grownBy w' none ∧ LnC q c n k t p := by
  refine (Line_6 hE v _ hB).mono ?_
  rintro e w' ⟨hL, hg⟩
  rcases hL with ⟨c, n, kv, mv, hl, rfl, h1, h2⟩ | ⟨k, t, p, hl, rfl⟩
  · obtain ⟨ka, kc, rfl, -, -, -, -⟩ := row_shape h1
    obtain ⟨ma, mc, rfl, -, -, -, -⟩ := row_shape h2
    exact ⟨c, n, ka, _, kc, ma, _, mc, 0, [], 0, rfl, h1, h2, hg, .inl ⟨hl, rfl, rfl, rfl⟩⟩
  · exact ⟨cmd0 0 false, -1, none, 0, 0, none, 0, 0, k, t, p, rfl, World.ownsRow_nil _ _ _ _, World.ownsRow_nil _ _ _ _, hg, .inr ⟨hl, rfl, rfl⟩⟩
theorem rd_ok {G : Fd} {q : Bs} {c : Cmd} {n : Int} (hq : G.kept = q ++ [10]) (hl : lineS (trim q) = .inl (c, n)) : G.rd = if n < 0 then ({ G with head := G.kept.length, s := stpC c false }, true) else if (G.limit : Int) < n then (G.pass (stpC c true) n.toNat, false) else ({ G with head := G.kept.length, s := stpC c false }.await n.toNat, false) := by
  have e : G.kept.dropLast = q := by rw [hq]; simp
  unfold Fd.rd
  rw [e, hl]
theorem rd_no {G : Fd} {q : Bs} {k : Int} {t : Bs} {p : Int} (hq : G.kept = q ++ [10]) (hl : lineS (trim q) = .inr (k, t, p)) : G.rd = if p < 0 ∨ (G.limit : Int) < p then ({ G with head := G.kept.length, s := stpW k t p }, true) else (G.pass (stpW k t p) p.toNat, false) := by
  have e : G.kept.dropLast = q := by rw [hq]; simp
  unfold Fd.rd
  rw [e, hl]
theorem rd_done {w W : World} {fb g n0 cp B : Nat} {G F' : Fd} {kv' ck cd cm : Value} {hd lf hd' lf' : Int} {ka ma : Option Addr} {kn kc mn mc : Nat} {wh : Bool} (hx : IsFx w fb G (.slice (some ⟨g, 0, none⟩) n0 cp) hd lf ck cd cm) (hG : w.grownBy W (some fb)) (hb : Box W 136 fb (fdA fb F' kv' hd' lf' (.slice ka kn kc) (.slice none 0 0) (.slice ma mn mc)))
    (r1 : W.ownsRow B 9 1 (.slice ka kn kc) F'.s.cmd.keys.length (F'.s.cmd.keys.map sv)) (r2 : W.ownsRow B 79 3 (.slice ma mn mc) F'.s.cmd.mt.length (fcs F'.s.cmd.mt)) (hB : w.heap.size ≤ B) (hsd : F'.s.data = [])
    (hkp : (kv' = .slice (some ⟨g, 0, none⟩) n0 cp ∧ F'.kept = G.kept) ∨ (kv' = .slice none 0 0 ∧ F'.kept = [])) (hF : G.rd = (F', wh)) (h1 : F'.st = 1 ∨ F'.st = 2 ∨ F'.st = 3 → hd' = (F'.head : Int)) (h2 : F'.st = 1 ∨ F'.st = 4 → lf' = (F'.left : Int)) : RdF G w fb (.slice (some ⟨g, 0, none⟩) n0 cp) (.returned (.bool wh)) W := by
  have hfb := hx.box.lt
  have hg := row_lt hx.kept g rfl
  have hX : ∀ k, B ≤ k → ¬ XF fb kv' k := by
    rintro k hk (rfl | h)
    · omega
    · rcases hkp with ⟨rfl, -⟩ | ⟨rfl, -⟩
      · simp [Value.ownBlock] at h
        omega
      · simp [Value.ownBlock] at h
  refine ⟨kv', by rw [hF], ?_, gb_kp hG, fun k hk => ?_, fun k hk => .inr ?_⟩
  · rw [hF]
    refine ⟨hd', lf', _, _, _, ⟨hb, ⟨row_base r1 (Nat.zero_le _), by rw [hsd]; exact World.ownsRow_nil _ _ _ _, row_base r2 (Nat.zero_le _), fun k hk => hX k (World.ownsRow.lt r1 k hk).1, fun k hk => by simp [Value.ownBlock] at hk, fun k hk => hX k (World.ownsRow.lt r2 k hk).1, fun _ => rfl⟩, ?_⟩, h1, h2⟩
    rcases hkp with ⟨rfl, e⟩ | ⟨rfl, e⟩
    · rw [e]
      exact row_kept hx.kept hG (row_box hx.kept hx.box (by omega))
    · rw [e]; exact World.ownsRow_nil _ _ _ _
  · rcases hkp with ⟨rfl, -⟩ | ⟨rfl, -⟩
    · exact hk
    · simp [Value.ownBlock] at hk
  · rcases (pn_box hb).1 hk with h | h
    · exact Nat.le_trans hB (World.ownsRow.lt r1 k h).1
    · exact Nat.le_trans hB (World.ownsRow.lt r2 k h).1
theorem er_box {w : World} {fb : Nat} {G : Fd} {kv ck cd cm : Value} {hd lf : Int} (hE : Er w) (hb : Box w 136 fb (fdA fb G kv hd lf ck cd cm)) : fb ≠ 2 ∧ fb ≠ 3 := by
  obtain ⟨⟨a, b, e1⟩, c, d, e2⟩ := hE
  have c0 : w.cell? ⟨fb, 0, none⟩ = some (.int .i64 G.limit) := hb.cell 0
  constructor
  · rintro rfl
    rw [e1] at c0
    injection c0 with c0
    cases c0
  · rintro rfl
    rw [e2] at c0
    injection c0 with c0
    cases c0
end Go.Proofs.YtobegepebochkaaGreatDoor
