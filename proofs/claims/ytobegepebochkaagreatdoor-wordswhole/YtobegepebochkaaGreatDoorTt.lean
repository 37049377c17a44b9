import Derived.Test.YtobegepebochkaaGreatDoorTu
import Derived.Test.YtobegepebochkaaGreatDoorTp
import Derived.Deep.LoopGhost
import Derived.Deep.CutRange
/-
  Feed.
-/
namespace Go.Proofs.YtobegepebochkaaGreatDoor
open Go.RowKit Go.Maps
set_option linter.unusedVariables false
set_option linter.unusedSimpArgs false

theorem Tryz.info86b : (Tryz.prog.info? 86).map (fun i => (i.zero, i.size, i.bytes)) = some (some (.agg Z86), 16, 184) := by kernel_rfl
/-- The states' functions are entered. -/
theorem call_st (st : Nat) (args : Array Value) (w : World) : Sem.run Tryz.prog (callFunc (stF st) args) w = .ok (.enter (stF st) args) w := by
  unfold stF
  repeat' split
  all_goals go_simp
section
variable {w : World} {ops : Array Oper} {rest : List Oper} {o : Oper} {a : Act} {Q : Exit → Act → World → Prop}
theorem push86 (hgd : o.guard = none) (s x : Operand) (ho : o.op = .call { callee := .builtin .append, args := #[s, x], argTypes := #[57, 57] })
    (B : Nat) (v : Value) (n : Nat) (xs : List Value) (hs : a.eval s = v) (hown : w.ownsRow B 86 16 v n xs) (us : List Value) (hul : us.length = 16) (hu : ∀ u ∈ us, u.oneCell' = true) (hx : a.eval x = .slice (some ⟨w.heap.size, 0, none⟩) 1 1) (hn : n ≤ 100000000000) (hB : B ≤ w.heap.size)
    (h : ∀ g cap w', w'.ownsRow B 86 16 (.slice (some ⟨g, 0, none⟩) (n + 1) cap) (n + 1) (xs ++ us) → w.grownBy w' v.ownBlock → (v.ownBlock = some g ∨ w.heap.size ≤ g) → wpList Tryz.prog ops Q rest (a.put o.dst (.slice (some ⟨g, 0, none⟩) (n + 1) cap)) w') : wpList Tryz.prog ops Q (o :: rest) a (w.alloc (.cells us.toArray 86)) := by
  obtain ⟨i0, hi, hz0, hz1, hz2⟩ := info_parts Tryz.info86b
  exact wpList_pushN hgd s x 57 ho 86 i0 _ 16 184 Tryz.underlying57 hi hz0 hz1 hz2 rfl (by omega) (by omega) B v n xs hs hown us hul hu hx hn hB h
end
set_option maxRecDepth 100000 in
set_option maxHeartbeats 4000000 in
theorem feed_45 {w : World} {fb : Nat} {F : Fd} {kv : Value} (h : IsF w fb F kv) (hok : F.Ok) {v : Value} {l : Bs} (hv : Ck w (XF fb kv) v l) (hl2 : l.length ≤ 34359738368) (ht : F.taken + l.length ≤ 2199023255552) (hE : Er w) (hX : ¬ XF fb kv 2 ∧ ¬ XF fb kv 3) (h136 : Rd136 fb) :
    Calls Tryz.prog 45 #[.pointer (some ⟨fb, 0, none⟩), v] w fun e w' => FdP F l w fb kv e w' := by
  have start := FdI.start h hok hv
  obtain ⟨va, vn, vc, rfl, -⟩ := hv.slice
  clear h hv hok
  go_enter Tryz.func45, Tryz.ntmps45
  go_wp2
  go_loopg [1, 5, 6, 7] (2 * l.length + 1) (fun gk x1 x5 x6 x7 wr => ∃ l1 F1 kv1 q, FdI F l w fb kv gk x1 x5 wr l1 F1 kv1 q)
  case atStart => exact ⟨l, F, kv, [], start⟩
  case round =>
    clear start
    obtain ⟨l1, F1, kv1, q, hI⟩ := hrel
    obtain ⟨ra, rc, hrv, -, -, -, -⟩ := row_shape hI.ss.row
    subst hrv
    obtain ⟨ca, cn, cc, hcv, hcn⟩ := hI.ck.slice
    subst hcv
    by_cases hl : l1 = []
    · have hE2 := hI.done hl
      have hcn0 : cn = 0 := by rw [hcn, hl]; rfl
      subst hcn0
      clear hI hl hcn h136 hE hX
      go_wp2
      go_ret
      exact hE2
    · have hl0 : 0 < l1.length := List.length_pos_iff.2 hl
      have hll := hI.ll
      have htk := hI.tk
      obtain ⟨hEr, hX1⟩ := hI.er hE hX
      have hS := state_any hI.isf hI.ok hI.ck hl0 (by omega) (by omega) hEr hX1 h136
      obtain ⟨g, o, c, ecv, hc1, hc2, -, -⟩ := hI.ck.by hl0
      injection ecv with ea en ec
      subst ea en ec
      have c23 : wr.cell? ⟨fb, 23, none⟩ = some (.func (.func (stF F1.st)) #[.pointer (some ⟨fb, 0, none⟩)] #[]) := by
        obtain ⟨_, _, _, _, _, hx, -, -⟩ := hI.isf
        exact hx.box.cell 23
      obtain ⟨N, hN⟩ : ∃ N, stF F1.st = N := ⟨_, rfl⟩
      have hcf := call_st F1.st
      rw [hN] at c23 hS hcf
      have t0 : (0 : Int) < (l1.length : Int) := by omega
      clear h136 hEr hX1 hN hE hX hcn hl
      go_upto_region 4 with (fail)
      refine hS.mono ?_
      rintro e w4 ⟨u, wh, F2, kv2, rfl, hu, i4, k4, o4, z4, t4, m4, ok4, nw4, r4⟩
      go_upto_region 4 with (fail)
      obtain ⟨hd, lf, ck, cd, cm, hx4, hh4, hl4⟩ := i4
      obtain ⟨ka, kc, rfl, -, -, -, -⟩ := row_shape hx4.str.keys
      obtain ⟨da, dc, rfl, -, -, -, -⟩ := row_shape hx4.str.data
      obtain ⟨ma, mc, rfl, -, -, -, -⟩ := row_shape hx4.str.mt
      have d1 : w4.cell? ⟨fb, 1, none⟩ = some (.int .i64 F2.taken) := hx4.box.cell 1
      have z1 := hx4.box.fz 1
      obtain ⟨T, hT⟩ : ∃ T, F2.taken + u = T := ⟨_, rfl⟩
      have e1 : IntKind.i64.wrap ((F2.taken : Int) + (u : Int)) = (T : Int) := by rw [IntKind.wrap_i64]; omega
      have b5 : Box (w4.setCell ⟨fb, 1, none⟩ (.int .i64 (T : Int))) 136 fb (fdA fb (F2.tk u) kv2 hd lf (.slice ka F2.s.cmd.keys.length kc) (.slice da F2.s.data.length dc) (.slice ma F2.s.cmd.mt.length mc)) := by rw [← hT]; exact hx4.box.set 1 _
      have g45 : w4.grownBy (w4.setCell ⟨fb, 1, none⟩ (.int .i64 (T : Int))) (some fb) := gb_setCell (gb_refl _ _) _
      have i5 : IsFx (w4.setCell ⟨fb, 1, none⟩ (.int .i64 (T : Int))) fb (F2.tk u) kv2 hd lf (.slice ka F2.s.cmd.keys.length kc) (.slice da F2.s.data.length dc) (.slice ma F2.s.cmd.mt.length mc) := isfx_kp hx4 (gb_kp g45) b5 rfl (row_kept hx4.kept g45 (row_box hx4.kept hx4.box (by decide))) (fun k hk => .inl hk)
      have cvA := hI.ck.drop u hu
      have ovA : ∀ g' o' n' c', Value.slice (some ⟨g, o + u, none⟩) (l1.length - u) (cc - u) = .slice (some ⟨g', o', none⟩) n' c' → g' < w.heap.size := by
        intro g' o' n' c' e
        injection e with e
        injection e with e
        injection e with e
        subst e
        exact hI.old _ _ _ _ rfl
      have cvB : cc = u → Ck wr (XF fb kv1) (.slice (some ⟨g, o, none⟩) (l1.length - u) 0) (l1.drop u) := fun e => hI.ck.dropB0 u hu e
      have ovB : ∀ g' o' n' c', Value.slice (some ⟨g, o, none⟩) (l1.length - u) 0 = .slice (some ⟨g', o', none⟩) n' c' → g' < w.heap.size := by
        intro g' o' n' c' e
        injection e with e
        injection e with e
        injection e with e
        subst e
        exact hI.old _ _ _ _ rfl
      have b0 : u ≤ cc := by omega
      cases wh with
      | false =>
        have hno : ∀ v', Ck wr (XF fb kv1) v' (l1.drop u) → (∀ g' o' n' c', v' = .slice (some ⟨g', o', none⟩) n' c' → g' < w.heap.size) → ∃ gk', gk' < gk ∧ FdI F l w fb kv gk' v' (.slice ra q.length rc) (w4.setCell ⟨fb, 1, none⟩ (.int .i64 (T : Int))) (l1.drop u) (F2.tk u) kv2 q :=
          fun v' cv ov => FdI.no hI cv ov hu ⟨hd, lf, _, _, _, hx4, hh4, hl4⟩ k4 o4 z4 t4 (ok4 rfl) (by simpa using r4) g45 ⟨hd, lf, _, _, _, i5, hh4, hl4⟩
        clear r4 i5 hx4 hh4 hl4 k4 o4 z4 t4 ok4 nw4 hI hS b5 g45 hT m4 htk
        go_wp2
        · obtain ⟨gk', hlt, hI'⟩ := hno _ (cvB (by assumption)) ovB
          go_roundg gk'
          case measure => exact hlt
          case rel => exact ⟨_, _, _, _, hI'⟩
        · obtain ⟨gk', hlt, hI'⟩ := hno _ cvA ovA
          go_roundg gk'
          case measure => exact hlt
          case rel => exact ⟨_, _, _, _, hI'⟩
      | true =>
        have hlm : F2.limit ≤ 9223372036854775807 := by rw [m4]; exact hI.ok.limit
        have row6 : ∀ w6, (w4.setCell ⟨fb, 1, none⟩ (.int .i64 (T : Int))).grownBy w6 (some fb) → w6.ownsRow w.heap.size 86 16 (.slice ra q.length rc) q.length (q.flatMap tldL) := by
          intro w6 g6
          obtain ⟨_, _, _, _, _, hx, -, -⟩ := hI.isf
          exact row_kp hI.ss.row ((k4.step g45 (fun i hi => by injection hi with hi; exact .inl (.inl hi.symm))).step g6 (fun i hi => by injection hi with hi; exact .inl (.inl hi.symm))) (row_xf hI.ss.row (by decide) hx)
        have hql : q.length ≤ 100000000000 := by have := hI.ql; omega
        have hsz : ∀ w6, (w4.setCell ⟨fb, 1, none⟩ (.int .i64 (T : Int))).grownBy w6 (some fb) → w.heap.size ≤ w6.heap.size := fun w6 g6 => Nat.le_trans hI.kp.size (Nat.le_trans k4.size (Nat.le_trans g45.size g6.size))
        have h93 := tell_93 b5
        have hyes : ∀ v', Ck wr (XF fb kv1) v' (l1.drop u) → (∀ g' o' n' c', v' = .slice (some ⟨g', o', none⟩) n' c' → g' < w.heap.size) → ∀ w6 w7 g7 cap, (w4.setCell ⟨fb, 1, none⟩ (.int .i64 (T : Int))).grownBy w6 (some fb) → Box w6 136 fb (fdA fb (F2.tk u).tell.1 (.slice none 0 0) hd lf (.slice none 0 0) (.slice none 0 0) (.slice none 0 0)) → w7.ownsRow w.heap.size 86 16 (.slice (some ⟨g7, 0, none⟩) (q.length + 1) cap) (q.length + 1) (q.flatMap tldL ++ stpL ⟨(F2.tk u).s.cmd, (F2.tk u).s.data, (F2.tk u).s.large, (F2.tk u).s.wk, (F2.tk u).s.wt, (F2.tk u).s.wp, (F2.tk u).frm, (F2.tk u).taken⟩ (.slice ka F2.s.cmd.keys.length kc) (.slice da F2.s.data.length dc) (.slice ma F2.s.cmd.mt.length mc)) → w6.grownBy w7 (Value.slice ra q.length rc).ownBlock → ∃ gk' q', gk' < gk ∧ FdI F l w fb kv gk' v' (.slice (some ⟨g7, 0, none⟩) (q.length + 1) cap) w7 (l1.drop u) (F2.tk u).tell.1 (.slice none 0 0) q' :=
          fun v' cv ov w6 w7 g7 cap h1 h2 h3 h4 => FdI.yes hI cv ov hu k4 o4 t4 hlm (by simpa using r4) g45 i5 h1 h2 h3 h4 (nw4 rfl _ (hx4.box.cell 13))
        clear r4 i5 hx4 hh4 hl4 k4 o4 z4 t4 ok4 nw4 hI hS b5 g45 m4 htk
        go_wp2_with (first | (go_at_call 93; go_must ((with_reducible refine h93.mono ?_); rintro e w6 ⟨rfl, b6, g6⟩; (have r6 := row6 _ g6); (have s6 := hsz _ g6))) | (at_builtin; go_must (refine push86 rfl _ _ rfl w.heap.size _ q.length _ (by rfl) r6 _ rfl (by simp [Value.oneCell']) (by rfl) hql s6 ?_); intro g7 cap w7 r7 g67 _))
        · obtain ⟨gk', q', hlt, hI'⟩ := hyes _ (cvB (by assumption)) ovB _ _ _ _ g6 b6 r7 g67
          go_roundg gk'
          case measure => exact hlt
          case rel => exact ⟨_, _, _, _, hI'⟩
        · obtain ⟨gk', q', hlt, hI'⟩ := hyes _ cvA ovA _ _ _ _ g6 b6 r7 g67
          go_roundg gk'
          case measure => exact hlt
          case rel => exact ⟨_, _, _, _, hI'⟩
end Go.Proofs.YtobegepebochkaaGreatDoor
