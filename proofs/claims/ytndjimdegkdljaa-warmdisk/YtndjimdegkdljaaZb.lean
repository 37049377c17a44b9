import Derived.Test.YtndjimdegkdljaaZa
import Derived.Test.YtndjimdegkdljaaMh
/-
  Loose; how many bytes there is room for.
-/
namespace Go.Proofs.Ytndjimdegkdljaa
open Go.RowKit Go.MapKept
open Go.ChangeMaps (setBlock)
set_option linter.unusedVariables false
set_option linter.unusedSimpArgs false
attribute [local go_sem] Oper.semAt_some

/-- How many entries an iterator has left. -/
def itL (es : Array MapEntry) (r : Nat) (w : World) : Nat := match w.heap[r]? with | some (.mapIter _ _ seen _) => (leftOf es seen).size | _ => 0
/-- The bytes of the files of a list. -/
def sumL (M : Md) (l : List (Bs × Nat)) : Nat := (l.map (fun p => (M.file p.2).1.length)).sum
theorem sumL_perm {M : Md} {l l' : List (Bs × Nat)} (h : l.Perm l') : sumL M l = sumL M l' := (h.map _).sum_nat
theorem gb_setB {w w1 : World} {r : Nat} (h : w1 = w ∨ w1 = w.drew) (o : Obj) : w.grownBy (setBlock w1 r o) (some r) := by
  rcases h with rfl | rfl
  · exact gb_block
  · exact gb_trans (gb_drew (gb_refl _ _)) gb_block
theorem setB_at {w w1 : World} {r : Nat} {o o' : Obj} (h : w1 = w ∨ w1 = w.drew) (hr : w.heap[r]? = some o) : (setBlock w1 r o').heap[r]? = some o' := by
  rcases h with rfl | rfl
  · exact (heap_set hr).1
  · exact (heap_set (w := w.drew) hr).1
set_option maxRecDepth 100000 in
set_option maxHeartbeats 4000000 in
theorem room_82 {w : World} {p : Pl} {M : Md} (h : RP w p M) {L : List (Bs × Nat)} (hL : Rep L M.names) (hsm : sumL M L ≤ 1000000000000) :
    Calls Try.prog 82 #[pv p.d] w fun e w' => e = .returned (.int .i64 (max (M.space - (sumL M L : Int)) 0)) ∧ w.grownBy w' none := by
  obtain ⟨es, cl, hb, hs, hr⟩ := h.nm
  obtain ⟨dec, hE⟩ := hr.ent hs
  have hT : sumL M L = sumL M (es.toList.map dec) := sumL_perm (hL.perm hE.rep)
  rw [hT] at hsm ⊢
  have c0 : w.cell? ⟨p.d, 0, none⟩ = some (.int .i64 M.space) := h.box.cell 0
  have c5 : w.cell? ⟨p.d, 5, none⟩ = some (.map (some p.bn)) := h.box.cell 5
  have hrun := rg_start hb
  have hs0 := h.ok.s0
  have hs1 := h.ok.s1
  have hbl := lt_of_block hb
  have g0 := gb_alloc (gb_refl w none) (.mapIter (some p.bn) cl #[] cl)
  have hit : (w.alloc (.mapIter (some p.bn) cl #[] cl)).heap[w.heap.size]? = some (.mapIter (some p.bn) cl #[] cl) := heap_alloc_new w _
  obtain ⟨W, hW⟩ : ∃ W, w.alloc (.mapIter (some p.bn) cl #[] cl) = W := ⟨_, rfl⟩
  rw [hW] at hrun g0 hit
  have HH := Lib.hid (And.intro h (And.intro hE (And.intro hs hb)))
  obtain ⟨T, hTT⟩ : ∃ T, sumL M (es.toList.map dec) = T := ⟨_, rfl⟩
  rw [hTT] at hsm ⊢
  have HT := Lib.hid hTT
  have hlf0 : sumL M ((leftOf es #[]).toList.map dec) = T := by
    rw [← hTT]
    have : (leftOf es #[]).toList = es.toList := by unfold leftOf; simp
    rw [this]
  have HL0 := Lib.hid hlf0
  clear h hL hT hr hE hs hTT hW hlf0
  go_enter Try.func82, Try.ntmps82
  go_wp2_with fail
  go_loopw [3] (fun x3 wr => ∃ (seen : Array Nat) (a : Nat), x3 = .int .i64 (M.space - (a : Int)) ∧ a + sumL M ((leftOf es seen).toList.map dec) = T ∧ wr.heap[w.heap.size]? = some (.mapIter (some p.bn) cl seen cl) ∧ W.grownBy wr (some w.heap.size)) (fun _ wr => itL es w.heap.size wr)
  case atStart => exact ⟨#[], 0, by simp, by rw [Nat.zero_add]; exact HL0.out, hit, gb_refl _ _⟩
  case round =>
    obtain ⟨seen, a, rfl, hsum, hiter, hg⟩ := hrel
    obtain ⟨h, hE, hs, hb⟩ := HH.out
    have hbr : wr.heap[p.bn]? = some (.map es cl) := (hg.block p.bn (by have := g0.size; omega) (by simp; omega)).trans ((g0.block p.bn hbl (by simp)).trans hb)
    rcases run_next_at (P := Try.prog) wr 0 w.heap.size p.bn cl cl seen es cl hiter hbr hs.1 (Nat.le_refl _) with ⟨h0, hnx⟩ | ⟨e, he, w1, hw1, hnx⟩
    · have hz : sumL M ((leftOf es seen).toList.map dec) = 0 := by
        have : (leftOf es seen).toList = [] := List.eq_nil_of_length_eq_zero (by simpa using h0)
        rw [this]
        rfl
      have ha : a = T := by omega
      subst ha
      clear hE HH HL0 HT
      go_wp2_with fail
      go_ret
      exact ⟨rfl, gb_mine g0 hg (Nat.le_refl _)⟩
    · have hmem := (left_sub es seen).subset he
      obtain ⟨e1, e2, e3⟩ := hE.sp e hmem
      have hper := perm_pick ((hs.2.1.sublist ((left_sub es seen).map (·.born)))) he
      rw [← left_push] at hper
      have hr2 : (setBlock w1 w.heap.size (.mapIter (some p.bn) cl (seen.push e.born) cl)).heap[w.heap.size]? = some (.mapIter (some p.bn) cl (seen.push e.born) cl) := setB_at hw1 hiter
      have hg2 := gb_setB (r := w.heap.size) hw1 (.mapIter (some p.bn) cl (seen.push e.born) cl)
      have hb2 := (hg2.block p.bn (lt_of_block hbr) (by simp; omega)).trans hbr
      have hen := run_entry_at (P := Try.prog) _ w.heap.size p.bn cl seen es cl e hr2 hb2 hmem hs.2.1
      obtain ⟨V, hV⟩ : ∃ V, setBlock w1 w.heap.size (.mapIter (some p.bn) cl (seen.push e.born) cl) = V := ⟨_, rfl⟩
      rw [hV] at hr2 hg2 hb2 hen hnx
      rw [e1, e2] at hnx hen
      have hgV := gb_trans hg hg2
      have hrk := Md.names_reach e3
      have hlk := reach_lt h.ok hrk
      have hfl := h.fl _ _ hrk (file_some hlk)
      have hfb : p.fb (dec e).2 < w.heap.size := h.lt _ (by rw [h.cf _ hrk]; omega)
      obtain ⟨fao, fcp, ef, -⟩ := row_shape hfl.row
      have hbox := hfl.box
      rw [ef] at hbox
      obtain ⟨nl, hnl⟩ : ∃ nl, (M.file (dec e).2).1.length = nl := ⟨_, rfl⟩
      rw [hnl] at hbox
      have qv := (hbox.kept g0 (by simp)).kept hgV (by simp; omega)
      have q1 : V.cell? ⟨p.fb (dec e).2, 1, none⟩ = some (.slice fao nl fcp) := qv.cell 1
      have q2 : V.cell? ⟨p.fb (dec e).2, 2, none⟩ = some (.int .i64 ((M.file (dec e).2).2 : Int)) := qv.cell 2
      have hme : itL es w.heap.size V < itL es w.heap.size wr := by
        unfold itL
        rw [hr2, hiter]
        have := hper.length_eq
        simp only [List.length_cons, Array.length_toList] at this
        show (leftOf es (seen.push e.born)).size < (leftOf es seen).size
        omega
      have hsum2 : a + nl + sumL M ((leftOf es (seen.push e.born)).toList.map dec) = T := by
        have h1 := sumL_perm (M := M) (hper.map dec)
        have h2 : sumL M ((e :: (leftOf es (seen.push e.born)).toList).map dec) = nl + sumL M ((leftOf es (seen.push e.born)).toList.map dec) := by
          simp only [sumL, List.map_cons, List.sum_cons, hnl]
        omega
      have hww : IntKind.i64.wrap (M.space - (a : Int) - (nl : Int)) = M.space - ((a + nl : Nat) : Int) := by rw [IntKind.wrap_i64]; omega
      have HX := Lib.hid (And.intro hsum2 (And.intro hr2 (And.intro hgV hme)))
      clear hsum2 hr2 hgV hme hE HH HL0 HT hper hbox hfl qv hg2 hb2 hs hsum hV e3 ef hnl h hb hbr hiter hrk
      generalize p.fb (dec e).2 = gk at *
      go_wp2_with fail
      obtain ⟨x1, x2, x3, x4⟩ := HX.out
      exact ⟨⟨seen.push e.born, a + nl, by congr 1, x1, x2, x3⟩, x4⟩
/-- Some file of a list has more than is safe. -/
def anyL (M : Md) (l : List (Bs × Nat)) : Bool := l.any (fun p => decide ((M.file p.2).2 < (M.file p.2).1.length))
theorem anyL_perm {M : Md} {l l' : List (Bs × Nat)} (h : l.Perm l') : anyL M l = anyL M l' := h.any_eq
set_option maxRecDepth 100000 in
set_option maxHeartbeats 4000000 in
theorem loose_23 {w : World} {p : Pl} {M : Md} (h : RP w p M) {L : List (Bs × Nat)} (hL : Rep L M.names) :
    Calls Try.prog 23 #[pv p.d] w fun e w' => e = .returned (.bool (!M.ch.isEmpty || anyL M L)) ∧ w.grownBy w' none := by
  obtain ⟨es, cl, hb, hs, hr⟩ := h.nm
  obtain ⟨dec, hE⟩ := hr.ent hs
  have hT : anyL M L = anyL M (es.toList.map dec) := anyL_perm (hL.perm hE.rep)
  rw [hT]
  obtain ⟨cao, ccp, ec, -⟩ := row_shape h.ch
  have c7 : w.cell? ⟨p.d, 7, none⟩ = some p.cv := h.box.cell 7
  rw [ec] at c7
  have c5 : w.cell? ⟨p.d, 5, none⟩ = some (.map (some p.bn)) := h.box.cell 5
  have hnc := h.ok.nc
  have hna := h.ok.na
  have hrun := rg_start hb
  have hbl := lt_of_block hb
  have g0 := gb_alloc (gb_refl w none) (.mapIter (some p.bn) cl #[] cl)
  have hit : (w.alloc (.mapIter (some p.bn) cl #[] cl)).heap[w.heap.size]? = some (.mapIter (some p.bn) cl #[] cl) := heap_alloc_new w _
  obtain ⟨W, hW⟩ : ∃ W, w.alloc (.mapIter (some p.bn) cl #[] cl) = W := ⟨_, rfl⟩
  rw [hW] at hrun g0 hit
  have HH := Lib.hid (And.intro h (And.intro hE (And.intro hs hb)))
  obtain ⟨T, hTT⟩ : ∃ T, anyL M (es.toList.map dec) = T := ⟨_, rfl⟩
  rw [hTT]
  have hlf0 : anyL M ((leftOf es #[]).toList.map dec) = T := by
    rw [← hTT]
    have : (leftOf es #[]).toList = es.toList := by unfold leftOf; simp
    rw [this]
  have HL0 := Lib.hid hlf0
  obtain ⟨nc, hnn⟩ : ∃ nc, M.ch.length = nc := ⟨_, rfl⟩
  have hem : M.ch.isEmpty = (nc == 0) := by rw [← hnn]; cases M.ch <;> rfl
  rw [hem]
  rw [hnn] at c7 hnc
  clear h hL hT hr hE hs hTT hW hlf0 hem hnn ec
  by_cases hn0 : nc = 0
  · subst hn0
    simp only [beq_self_eq_true, Bool.not_true, Bool.false_or]
    go_enter Try.func23, Try.ntmps23
    go_wp2_with fail
    go_loopw [] (fun wr => ∃ (seen : Array Nat), anyL M ((leftOf es seen).toList.map dec) = T ∧ wr.heap[w.heap.size]? = some (.mapIter (some p.bn) cl seen cl) ∧ W.grownBy wr (some w.heap.size)) (fun wr => itL es w.heap.size wr)
    case atStart => exact ⟨#[], HL0.out, hit, gb_refl _ _⟩
    case round =>
      obtain ⟨seen, hsum, hiter, hg⟩ := hrel
      obtain ⟨h, hE, hs, hb⟩ := HH.out
      have hbr : wr.heap[p.bn]? = some (.map es cl) := (hg.block p.bn (by have := g0.size; omega) (by simp; omega)).trans ((g0.block p.bn hbl (by simp)).trans hb)
      rcases run_next_at (P := Try.prog) wr 0 w.heap.size p.bn cl cl seen es cl hiter hbr hs.1 (Nat.le_refl _) with ⟨h0, hnx⟩ | ⟨e, he, w1, hw1, hnx⟩
      · have hz : anyL M ((leftOf es seen).toList.map dec) = false := by
          have : (leftOf es seen).toList = [] := List.eq_nil_of_length_eq_zero (by simpa using h0)
          rw [this]
          rfl
        have ha : T = false := by rw [← hsum, hz]
        subst ha
        clear hE HH HL0
        go_wp2_with fail
        go_ret
        exact ⟨rfl, gb_mine g0 hg (Nat.le_refl _)⟩
      · have hmem := (left_sub es seen).subset he
        obtain ⟨e1, e2, e3⟩ := hE.sp e hmem
        have hper := perm_pick ((hs.2.1.sublist ((left_sub es seen).map (·.born)))) he
        rw [← left_push] at hper
        have hr2 : (setBlock w1 w.heap.size (.mapIter (some p.bn) cl (seen.push e.born) cl)).heap[w.heap.size]? = some (.mapIter (some p.bn) cl (seen.push e.born) cl) := setB_at hw1 hiter
        have hg2 := gb_setB (r := w.heap.size) hw1 (.mapIter (some p.bn) cl (seen.push e.born) cl)
        have hb2 := (hg2.block p.bn (lt_of_block hbr) (by simp; omega)).trans hbr
        have hen := run_entry_at (P := Try.prog) _ w.heap.size p.bn cl seen es cl e hr2 hb2 hmem hs.2.1
        obtain ⟨V, hV⟩ : ∃ V, setBlock w1 w.heap.size (.mapIter (some p.bn) cl (seen.push e.born) cl) = V := ⟨_, rfl⟩
        rw [hV] at hr2 hg2 hb2 hen hnx
        rw [e1, e2] at hnx hen
        have hgV := gb_trans hg hg2
        have hrk := Md.names_reach e3
        have hlk := reach_lt h.ok hrk
        have hfl := h.fl _ _ hrk (file_some hlk)
        have hfb : p.fb (dec e).2 < w.heap.size := h.lt _ (by rw [h.cf _ hrk]; omega)
        obtain ⟨fao, fcp, ef, -⟩ := row_shape hfl.row
        have hbox := hfl.box
        rw [ef] at hbox
        obtain ⟨nl, hnl⟩ : ∃ nl, (M.file (dec e).2).1.length = nl := ⟨_, rfl⟩
        obtain ⟨sl, hsl⟩ : ∃ sl, (M.file (dec e).2).2 = sl := ⟨_, rfl⟩
        rw [hnl, hsl] at hbox
        have qv := (hbox.kept g0 (by simp)).kept hgV (by simp; omega)
        have q1 : V.cell? ⟨p.fb (dec e).2, 1, none⟩ = some (.slice fao nl fcp) := qv.cell 1
        have q2 : V.cell? ⟨p.fb (dec e).2, 2, none⟩ = some (.int .i64 (sl : Int)) := qv.cell 2
        have hme : itL es w.heap.size V < itL es w.heap.size wr := by
          unfold itL
          rw [hr2, hiter]
          have := hper.length_eq
          simp only [List.length_cons, Array.length_toList] at this
          show (leftOf es (seen.push e.born)).size < (leftOf es seen).size
          omega
        have hsum2 : (decide (sl < nl) || anyL M ((leftOf es (seen.push e.born)).toList.map dec)) = T := by
          have h1 := anyL_perm (M := M) (hper.map dec)
          have h2 : anyL M ((e :: (leftOf es (seen.push e.born)).toList).map dec) = (decide (sl < nl) || anyL M ((leftOf es (seen.push e.born)).toList.map dec)) := by
            simp only [anyL, List.map_cons, List.any_cons, hnl, hsl]
          rw [← h2, ← h1, hsum]
        by_cases hlt : sl < nl
        · have hT : T = true := by rw [← hsum2]; simp [hlt]
          subst hT
          have HX := Lib.hid (gb_mine g0 hgV (Nat.le_refl _))
          clear hsum2 hr2 hgV hme hE HH HL0 hper hbox hfl qv hg2 hb2 hs hsum hV e3 ef hnl hsl h hb hbr hiter hrk hg
          generalize p.fb (dec e).2 = gk at *
          have hlt2 : (sl : Int) < (nl : Int) := by omega
          go_upto_region 6 with fail
          go_quiet (fail)
          go_wp2_with fail
          go_ret
          exact ⟨rfl, gb_drewN HX.out _⟩
        · have hsum3 : anyL M ((leftOf es (seen.push e.born)).toList.map dec) = T := by rw [← hsum2]; simp [hlt]
          have HX := Lib.hid (And.intro hsum3 (And.intro hr2 (And.intro hgV hme)))
          clear hsum2 hsum3 hr2 hgV hme hE HH HL0 hper hbox hfl qv hg2 hb2 hs hsum hV e3 ef hnl hsl h hb hbr hiter hrk
          generalize p.fb (dec e).2 = gk at *
          have hlt2 : (nl : Int) ≤ (sl : Int) := by omega
          go_upto_region 6 with fail
          go_quiet (fail)
          go_wp2_with fail
          obtain ⟨x1, x2, x3, x4⟩ := HX.out
          exact ⟨⟨seen.push e.born, x1, x2, gb_drewN x3 _⟩, x4⟩
  · have e0 : (nc == 0) = false := by simpa using hn0
    rw [e0]
    simp only [Bool.not_false, Bool.true_or]
    have hp0 : 0 < nc := by omega
    have hp1 : (0 : Int) < (nc : Int) := by omega
    clear HH HL0 hrun g0 hit hb
    go_enter Try.func23, Try.ntmps23
    go_wp2_with fail
    go_ret
    exact ⟨rfl, gb_refl _ _⟩
end Go.Proofs.Ytndjimdegkdljaa
