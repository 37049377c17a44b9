import Derived.Test.YtjkdflnnpdionaaGreatMe
/-
  own: a page becomes a class's.
-/
namespace Go.Proofs.YtjkdflnnpdionaaGreat
open Go.RowKit
set_option linter.unusedVariables false

section
variable {w : World} {sb : Nat} {F : Nat → Prop} {B : Bl} {b c d e f g : Int} {A : Ab} {zs : List Int}

set_option maxRecDepth 100000 in
set_option maxHeartbeats 8000000 in
theorem own_51 (h : IsS w sb F B b c d e f g A zs) (hA : Fit1 A) (i : Nat) (hi : i < A.n) (hnp : A.np < A.m) :
    Calls Tryz.prog 133 #[.pointer (some ⟨sb, 0, none⟩), .int .i64 i] w fun y w' => y = .returned (.tuple #[]) ∧ Kp F w w' ∧ ∃ F' B', IsS w' sb F' B' b c d e f g (A.owned i) zs ∧ B'.kb = B.kb ∧ ∀ k, F' k → F k ∨ w.heap.size ≤ k := by
  have c0 := h.sc 0
  have c8 := h.sc 8
  have c9 := h.sc 9
  simp [setC] at c0 c8 c9
  obtain ⟨ao, cp, hpv, hp1, hp2, _, _⟩ := row_shape h.pages
  have hpo : B.pv.ownBlock = some sb → False := fun e => by
    obtain ⟨cur, hc⟩ := row_block h.pages sb e
    exact ne_of_type h.box hc (by decide) rfl
  have e0 := h.kcell hi (j := 0) (by omega)
  have e1 := h.kcell hi (j := 1) (by omega)
  simp only [kindC, List.getElem?_cons_zero, List.getElem?_cons_succ, Nat.add_zero] at e0 e1
  have hps := hA.ps0
  have hmm := hA.mm
  have hn2 := hA.n2
  have hea := hA.toSzs.each hi
  have hlo := hA.lo i hi
  have hhi := hA.hi i hi
  have hrt := hA.rt i hi
  obtain ⟨fst, hfst⟩ : ∃ fst, fst = A.np * A.ps := ⟨_, rfl⟩
  have hfi : (A.np : Int) * A.ps = fst := by rw [hfst]; simp
  have hfb : fst ≤ 1073741824 := by rw [hfst]; exact Nat.le_trans (Nat.mul_le_mul (show A.np ≤ 1024 by omega) hps.2.1) (by decide)
  have HF : Hid (fst = A.np * A.ps) := hfst
  have hmk := fun W => run_make_chunks (A.each i) (by omega) W
  have hwf : IntKind.i64.wrap (fst : Int) = fst := by rw [IntKind.wrap_i64]; omega
  have HS : Hid (IsS w sb F B b c d e f g A zs) := h
  obtain ⟨io, hi0, hz0, hz1, hz2⟩ := info_parts Tryz.info263
  have hz := h.box.fz 9
  have hszw := h.lt _ h.fs
  have hpg := h.pages
  rw [hpv] at c9
  clear hfst h
  go_enter Tryz.func133, Tryz.ntmps133
  go_wp2
  go_quiet (fail)
  have hFV : w.grownBy (w.drewN nq) none := gb_drewN (gb_refl _ _) _
  have hsV : Hid ((w.drewN nq).heap.size = w.heap.size) := rfl
  have hbV : Box (w.drewN nq) 187 sb (setC A.ps b c d e f g B A.n) := HS.out.box
  generalize w.drewN nq = V at *
  replace c9 := gb_cellN hFV c9
  replace e1 := gb_cellN hFV e1
  replace hpg := row_kept hpg hFV (by simp)
  have al := fun (o : Obj) (x : Addr) (v : Value) (hv : V.cell? x = some v) => gb_cellN (World.grownBy_alloc V o none) hv
  have al2 := fun (o o2 : Obj) (x : Addr) (v : Value) (hv : V.cell? x = some v) => gb_cellN (gb_alloc (World.grownBy_alloc V o none) o2) hv
  have a9 := fun o => al o _ _ c9
  have a1 := fun o => al o _ _ e1
  have b9 := fun o o2 => al2 o o2 _ _ c9
  clear al al2 hz
  rw [hpv] at hpg
  go_wp2
  go_region_law ((refine step_append_lies _ (by rfl) _ _ _ (by rfl) 0 263 io _ 2 32 Tryz.underlying185 hi0 hz0 hz1 hz2 rfl (by omega) (.slice ao A.np cp) A.np _ (by rfl) (World.ownsRow.alloc (World.ownsRow.alloc (w := V) hpg _) _) ⟨V.heap.size + 1, 0, none⟩ 1 1 [.int .i64 i, .slice (some ⟨V.heap.size, 0, none⟩) (A.each i) (A.each i)] (by rfl) (by rfl) (World.news_of_block (cs := #[.int .i64 i, .slice (some ⟨V.heap.size, 0, none⟩) (A.each i) (A.each i)]) (t := 263) (fr := (0, 0)) (heap_alloc2_new V _ _)) (by simp [Value.oneCell']) (by omega) (by unfold maxLen; omega) (by omega) (Nat.zero_le _) (V.heap.size + 2) (by simp) ?_; intro g2 cap2 w5 hown5 hgrow5 hat5 hlt5; have hg5 : V.grownBy w5 B.pv.ownBlock := (by rw [hpv]; exact gb_trans (by first | exact gb_drew (gb_alloc (gb_alloc (gb_refl _ _) _) _) | exact gb_alloc (gb_drew (gb_alloc (gb_refl _ _) _)) _ | exact gb_alloc (gb_alloc (gb_drew (gb_refl _ _)) _) _) hgrow5); have b3 := hbV.kept hg5 (fun e => hpo e.symm); have b4 : w5.cell? ⟨sb, 9, none⟩ = some (.slice ao A.np cp) := (by rw [b3.cell 9]; simp [setC, hpv]); have b5 : w5.frozen? ⟨sb, 9, none⟩ = false := b3.fz 9; have hcb5 : w5.heap[V.heap.size]? = some (.cells (rng (A.each i) (fun _ => [.int .u32 0, .bool false])).toArray 210 (0, 0)) := (by rw [hgrow5.block V.heap.size (by simp; omega) (by intro e; have := hpg.lt _ e.symm; omega)]; exact heap_alloc2_old V _ _)))
  all_goals
    obtain ⟨hS2, hK2⟩ := HS.out.page (i := i) (cb := V.heap.size) (by have := hsV.out; omega) hcb5 hown5 (gb_trans (gb_none _ hFV) hg5) (by rw [hpv]; rcases hat5 with h | h; exact .inl h; have := hsV.out; exact .inr (by omega))
    have HF2 : Hid (∀ k, (F k ∨ k = g2 ∨ k = V.heap.size) → F k ∨ w.heap.size ≤ k) := by
      have e := hsV.out
      rintro k (hk | hk | hk)
      · exact .inl hk
      · subst hk
        rcases hat5 with h | h
        · exact .inl (HS.out.fp _ (by rw [hpv]; exact h))
        · exact .inr (by omega)
      · exact .inr (by omega)
    have hkb : Hid (({ B with pv := .slice (some ⟨g2, 0, none⟩) (A.np + 1) cap2, cb := upd B.cb A.np V.heap.size } : Bl).kb = B.kb) := rfl
    generalize w5.setCell ⟨sb, 9, none⟩ (.slice (some ⟨g2, 0, none⟩) (A.np + 1) cap2) = W at *
    generalize ({ B with pv := .slice (some ⟨g2, 0, none⟩) (A.np + 1) cap2, cb := upd B.cb A.np V.heap.size } : Bl) = B2 at *
    generalize hF2e : (fun k => F k ∨ k = g2 ∨ k = V.heap.size) = F2 at *
    have HF3 : Hid (∀ k, F2 k → F k ∨ w.heap.size ≤ k) := by rw [← hF2e]; exact HF2.out
    have HP2 : Hid (Kp F w W) := hK2
    have HS2 : Hid (IsS W sb F2 B2 b c d e f g (A.page i) zs) := hS2
    have d1 := hS2.kcell (i := i) hi (j := 1) (by omega)
    rw [hkb.out] at d1
    simp only [kindC, List.getElem?_cons_zero, List.getElem?_cons_succ] at d1
    change W.cell? ⟨B.kb, i * 4 + 1, none⟩ = some (.int .i64 (A.each i)) at d1
    clear hF2e HF2 hK2 hS2 b3 b4 b5 hcb5 hg5 hown5 hgrow5 hat5 hlt5 a9 a1 b9 hpg hbV hFV c9 e1 e0 hmk hsV hpo hpv hp1 hp2 hi0 hz0 hz1 hz2 c0 c8 hwf hfi
    go_wp2
    go_loopw [6] (fun v wr => ∃ (j : Nat) (Fr : Nat → Prop) (Br : Bl), j ≤ A.each i ∧ v = .int .i64 ((j : Int) - 1) ∧ IsS wr sb Fr Br b c d e f g ((A.page i).pushes i (A.nums i j)) zs ∧ Br.kb = B.kb ∧ Kp F w wr ∧ ∀ k, Fr k → F k ∨ w.heap.size ≤ k) (fun v _ => (intOf v + 1).toNat)
    case atStart => exact ⟨A.each i, F2, B2, Nat.le_refl _, rfl, by rw [nums_end, pushes_nil]; exact HS2.out, hkb.out, HP2.out, HF3.out⟩
    case round =>
      obtain ⟨j, Fr, Br, hj, rfl, hSr, hkr, hKr, hFr⟩ := hrel
      by_cases hlt : 0 < j
      · obtain ⟨j, rfl⟩ : ∃ i, j = i + 1 := ⟨j - 1, by omega⟩
        have r0 := hSr.kcell (i := i) hi (j := 0) (by omega)
        have r2 := hSr.kcell (i := i) hi (j := 2) (by omega)
        rw [hkr] at r0 r2
        simp only [kindC, List.getElem?_cons_zero, List.getElem?_cons_succ, Nat.add_zero] at r0 r2
        change wr.cell? ⟨B.kb, i * 4, none⟩ = some (.int .i64 (A.sz i)) at r0
        have hrow := hSr.rows i hi
        obtain ⟨cur, hcur⟩ := hSr.kbl
        rw [hkr] at hcur
        have rz : wr.frozen? ⟨B.kb, i * 4 + 2, none⟩ = false := by simp [World.frozen?, hcur]
        have hlen : (((A.page i).pushes i (A.nums i (j + 1))).row i).length ≤ 100000000 := by
          show (upd A.row i (A.row i ++ A.nums i (j + 1)) i).length ≤ _
          rw [upd_same, List.length_append]
          have : (A.nums i (j + 1)).length ≤ A.each i := by simp [Ab.nums]
          omega
        have hjs : (j + 1) * A.sz i ≤ A.each i * A.sz i := Nat.mul_le_mul_right _ hj
        rw [Nat.add_mul, Nat.one_mul] at hjs
        obtain ⟨pr, hpr⟩ : ∃ pr, pr = j * A.sz i := ⟨_, rfl⟩
        have hpi : (j : Int) * A.sz i = pr := by rw [hpr]; simp
        have hpb : pr ≤ 1048576 := by rw [hpr]; omega
        have hnum := fun W' => numberOf_60 (fst + pr) (by omega) W'
        have hci : ((fst + pr : Nat) : Int) = (fst : Int) + pr := by omega
        rw [hci] at hnum
        obtain ⟨x, hx⟩ : ∃ x, x = (fst + pr) / 8 + 1 := ⟨_, rfl⟩
        rw [← hx] at hnum
        have HX : Hid (x = (A.np * A.ps + j * A.sz i) / 8 + 1) := by show _ = _; rw [hx, HF.out, hpr]
        have HSr : Hid (IsS wr sb Fr Br b c d e f g ((A.page i).pushes i (A.nums i (j + 1))) zs) := hSr
        have HKr : Hid (Kp F w wr ∧ (∀ k, Fr k → F k ∨ w.heap.size ≤ k) ∧ Br.kb = B.kb) := ⟨hKr, hFr, hkr⟩
        have hnk : (Br.rv i).ownBlock = some B.kb → False := fun e => by
          obtain ⟨cur2, hc2⟩ := row_block hrow _ e
          exact ne_of_type hcur hc2 (by decide) rfl
        have hwp : IntKind.i64.wrap (pr : Int) = pr := by rw [IntKind.wrap_i64]; omega
        have hwx : IntKind.i64.wrap ((fst : Int) + pr) = fst + pr := by rw [IntKind.wrap_i64]; omega
        obtain ⟨iu, hu0, hy0, hy1, hy2⟩ := info_parts Tryz.info205
        generalize hrl : (((A.page i).pushes i (A.nums i (j + 1))).row i).length = rl at *
        generalize hrx : u32s (((A.page i).pushes i (A.nums i (j + 1))).row i) = rx at *
        generalize hrvv : Br.rv i = rvv at *
        have hbk : ∀ o, (wr.alloc o).cell? ⟨B.kb, i * 4 + 2, none⟩ = some rvv := fun o => gb_cellN (World.grownBy_alloc wr o none) r2
        have hbk0 : ∀ o, (wr.alloc o).cell? ⟨B.kb, i * 4, none⟩ = some (.int .i64 (A.sz i)) := fun o => gb_cellN (World.grownBy_alloc wr o none) r0
        clear hx hpr hSr hKr hFr hkr d1
        go_wp2
        first | (go_region_law ((first | (go_simp; go_at_call 176; refine (hnum _).mono ?_; rintro y w6 ⟨rfl, rfl⟩) | (refine step_append_lies _ (by rfl) _ _ _ (by rfl) 0 205 iu _ 1 4 Tryz.underlying188 hu0 hy0 hy1 hy2 rfl (by omega) rvv rl rx (by rfl) (World.ownsRow.alloc (w := wr) hrow _) ⟨wr.heap.size, 0, none⟩ 1 1 [.int .u32 (x : Int)] (by rfl) (by rfl) (World.news_of_block (cs := #[.int .u32 (x : Int)]) (t := 205) (fr := (0, 0)) (heap_alloc_new wr _)) (by simp [Value.oneCell']) (by omega) (by unfold maxLen; omega) (by omega) (Nat.zero_le _) (wr.heap.size + 1) (by simp) ?_; intro g3 cap3 w7 hown7 hgrow7 hat7 hlt7; have hg7 : wr.grownBy w7 rvv.ownBlock := gb_trans (by first | exact gb_drew (gb_alloc (gb_refl _ _) _) | exact gb_alloc (gb_drew (gb_refl _ _)) _) hgrow7; have hcur7 : w7.heap[B.kb]? = some (.cells cur 190 (0, 0)) := (by rw [hg7.block B.kb (lt_of_block hcur) (fun e => hnk e.symm)]; exact hcur); have b4 : w7.cell? ⟨B.kb, i * 4 + 2, none⟩ = some rvv := gb_cell hg7 r2 (fun e => hnk e.symm); have b5 : w7.frozen? ⟨B.kb, i * 4 + 2, none⟩ = false := (by simp [World.frozen?, hcur7]))))) | fail
        all_goals
          obtain ⟨hS8, hK8⟩ := HSr.out.push (i := i) (x := x) hi (g2 := g3) (cap2 := cap3) (by rw [hrl, hrx]; exact hown7) (by rw [hrvv]; exact hg7) (by rw [hrvv]; rcases hat7 with h | h; exact .inl h; exact .inr (by omega))
          rw [HKr.out.2.2, hrl, pushes_push, HX.out, nums_step A i j (by omega)] at hS8
          rw [HKr.out.2.2, hrl] at hK8
          have HF9 : Hid (∀ k, (Fr k ∨ k = g3) → F k ∨ w.heap.size ≤ k) := by
            rintro k (hk | hk)
            · exact HKr.out.2.1 k hk
            · subst hk
              rcases hat7 with h | h
              · exact HKr.out.2.1 _ (HSr.out.fr i _ hi (by rw [hrvv]; exact h))
              · have := HKr.out.1.size; exact .inr (by omega)
          have HE : Hid (∃ (j' : Nat) (Fr : Nat → Prop) (Br : Bl), j' ≤ A.each i ∧ Value.int .i64 ((j : Int) - 1) = .int .i64 ((j' : Int) - 1) ∧ IsS (w7.setCell ⟨B.kb, i * 4 + 2, none⟩ (.slice (some ⟨g3, 0, none⟩) (rl + 1) cap3)) sb Fr Br b c d e f g ((A.page i).pushes i (A.nums i j')) zs ∧ Br.kb = B.kb ∧ Kp F w (w7.setCell ⟨B.kb, i * 4 + 2, none⟩ (.slice (some ⟨g3, 0, none⟩) (rl + 1) cap3)) ∧ ∀ k, Fr k → F k ∨ w.heap.size ≤ k) :=
            ⟨j, _, _, by omega, rfl, hS8, rfl, HKr.out.1.trans hK8 (fun _ h => h) (fun k hk => HKr.out.2.1 k hk), HF9.out⟩
          generalize w7.setCell ⟨B.kb, i * 4 + 2, none⟩ (.slice (some ⟨g3, 0, none⟩) (rl + 1) cap3) = W9 at *
          clear hS8 hK8 b4 b5 hcur7 hg7 hown7 hgrow7 hat7 hlt7 hrow hcur r0 r2 rz hbk hbk0 hu0 hy0 hy1 hy2 hrl hrx hrvv hnum
          go_wp2
          go_roundw
          case rel =>
            obtain ⟨j', Fr', Br', q1, q2, q3, q4, q5, q6⟩ := HE.out
            have : j' = j := by simp at q2; omega
            subst this
            exact ⟨j', Fr', Br', q1, by simp, q3, q4, q5, q6⟩
          case measure => first | (simp [intOf]; done) | (simp [intOf]; omega)
      · obtain rfl : j = 0 := by omega
        have HH : Hid (_ ∧ _ ∧ _ ∧ _) := ⟨hSr, hKr, hkr, hFr⟩
        clear hSr hKr hkr hFr
        go_wp2
        go_end0
        exact ⟨rfl, HH.out.2.1, Fr, Br, HH.out.1, HH.out.2.2.1, HH.out.2.2.2⟩
end

end Go.Proofs.YtjkdflnnpdionaaGreat
