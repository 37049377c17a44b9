/-
  The document's wheel: Set, First.
-/
import Derived.Test.YtagcmfaljfaikaaRa
namespace Go.Proofs.Ytagcmfaljfaikaa
open Go.RowKit
set_option linter.unusedVariables false

section
variable {w : World} {rb : Nat} {G : Nat → Prop} {lv : Value} {l : List En}
theorem keepH_len (x : Int) (l : List En) : (keepH x l).length ≤ l.length := List.length_filter_le _ _

/-- What Set leaves. -/
def RsPost (w : World) (rb : Nat) (l : List En) (w' : World) : Prop := Kp (fun k => k = rb) w w' ∧ ∃ lv' G', (∀ k, G' k → k = rb ∨ w.heap.size ≤ k) ∧ Rw w' rb G' lv' l

set_option maxRecDepth 100000 in
set_option maxHeartbeats 4000000 in
theorem rset_low (h : Rw w rb G lv l) (hl : l.length < 900000) (x e : Int) (he : ¬ 0 < e) :
    Calls Try.prog 42 #[.pointer (some ⟨rb, 0, none⟩), .int .u64 x, .int .i64 e] w fun y w' => y = .returned (.tuple #[]) ∧ RsPost w rb (keepH x l) w' := by
  have h43 := rtake_43 h (by omega) x
  go_enter Try.func42, Try.ntmps42
  go_wp2_with fail
  refine h43.mono ?_
  rintro y w1 ⟨rfl, hk, hp⟩
  have hpost : RsPost w rb (keepH x l) w1 := ⟨hk, hp⟩
  clear hk hp
  go_wp2
  go_end0
  exact ⟨rfl, hpost⟩
set_option maxRecDepth 100000 in
set_option maxHeartbeats 4000000 in
theorem rset_high (h : Rw w rb G lv l) (hl : l.length < 900000) (x e t : Int) (he : 0 < e) :
    Calls Try.prog 42 #[.pointer (some ⟨rb, 0, none⟩), .int .u64 x, .int .i64 e] w fun y w' => y = .returned (.tuple #[]) ∧ RsPost w rb (keepH x l ++ [⟨x, e, t⟩]) w' := by
  have h43 := rtake_43 h (by omega) x
  have hkl := keepH_len x l
  go_enter Try.func42, Try.ntmps42
  go_wp2_with fail
  refine h43.mono ?_
  rintro y w1 ⟨rfl, hk, lv1, G1, hG1, h1⟩
  have c0 := h1.c0
  have hr1 := h1.row
  have hsz : 0 ≤ w1.heap.size := Nat.zero_le _
  have hfz := h1.box
  have hsn : entL (keepH x l) ++ [.int .u64 x, .int .i64 e] = entL (keepH x l ++ [⟨x, e, t⟩]) := by rw [entL_snoc]; rfl
  have hln : (keepH x l ++ [(⟨x, e, t⟩ : En)]).length = (keepH x l).length + 1 := by simp
  have HH : Hid (entL (keepH x l) ++ [.int .u64 x, .int .i64 e] = entL (keepH x l ++ [⟨x, e, t⟩]) ∧ (keepH x l ++ [(⟨x, e, t⟩ : En)]).length = (keepH x l).length + 1) := ⟨hsn, hln⟩
  clear hsn hln h43
  obtain ⟨ao, cp, hdv, _, _, _, _⟩ := row_shape hr1
  subst hdv
  go_wp2_with (at_builtin; go_must (refine push128 rfl _ _ rfl 0 _ _ _ (by rfl) hr1 x e (by rfl) (by omega) hsz ?_))
  intro g4 cap4 w4 hrow4 hgb4 hat4
  have hb4 := h1.box.kept hgb4 (fun e' => h1.ne e'.symm rfl)
  have c4 : w4.cell? ⟨rb, 0, none⟩ = some (.slice ao (keepH x l).length cp) := hb4.cell 0
  have f4 := hb4.fz 0
  obtain ⟨cur, hcur⟩ := row_block hrow4 g4 rfl
  have hne : rb ≠ g4 := ne_of_type hb4 hcur (by decide)
  have hgs : w4.grownBy (w4.setCell ⟨rb, 0, none⟩ (.slice (some ⟨g4, 0, none⟩) ((keepH x l).length + 1) cap4)) (some rb) := gb_setCell (gb_refl _ _) _
  have hown : ∀ j, (Value.slice ao (keepH x l).length cp).ownBlock = some j → j = rb ∨ w.heap.size ≤ j := fun j hj => hG1 j (h1.gr j hj)
  have hK : Kp (fun k => k = rb) w (w4.setCell ⟨rb, 0, none⟩ (.slice (some ⟨g4, 0, none⟩) ((keepH x l).length + 1) cap4)) := (hk.step hgb4 (fun j hj => hown j hj)).step hgs (fun j hj => by injection hj with hj; exact .inl hj.symm)
  have hfin : Rw (w4.setCell ⟨rb, 0, none⟩ (.slice (some ⟨g4, 0, none⟩) ((keepH x l).length + 1) cap4)) rb (fun k => k = rb ∨ k = g4) (.slice (some ⟨g4, 0, none⟩) ((keepH x l).length + 1) cap4) (keepH x l ++ [⟨x, e, t⟩]) := by
    have hq := row_kept hrow4 hgs (fun j hj e' => by simp [Value.ownBlock] at hj; subst hj; exact hne (Option.some.inj e').symm)
    rw [HH.out.1] at hq
    refine ⟨hb4.set 0 _, ?_, .inl rfl, fun k hk' => by simp [Value.ownBlock] at hk'; exact .inr hk'.symm, ?_, fun e' => by simp at e'⟩
    · rw [HH.out.2]; exact hq
    · rintro k (rfl | rfl)
      · exact Nat.lt_of_lt_of_le hb4.lt hgs.size
      · exact Nat.lt_of_lt_of_le (lt_of_block hcur) hgs.size
  have hpost : RsPost w rb (keepH x l ++ [⟨x, e, t⟩]) (w4.setCell ⟨rb, 0, none⟩ (.slice (some ⟨g4, 0, none⟩) ((keepH x l).length + 1) cap4)) := by
    refine ⟨hK, _, _, ?_, hfin⟩
    rintro k (hk' | hk')
    · exact .inl hk'
    · subst hk'
      rcases hat4 with h5 | h5
      · exact hown _ h5
      · exact .inr (Nat.le_trans hk.size h5)
  clear hfin hK hgs hrow4 hgb4 hat4 h1 hr1 c0 hfz hown hb4 hcur HH hk hG1
  go_wp2
  go_end0
  exact ⟨rfl, hpost⟩

theorem rfirst_no (h : Rw w rb G lv []) : Calls Try.prog 44 #[.pointer (some ⟨rb, 0, none⟩)] w fun y w' => y = .returned (.tuple #[.int .u64 0, .int .i64 0, .bool false]) ∧ w' = w := by
  obtain ⟨ao, cp, hdv, _, _, _, _⟩ := row_shape h.row
  subst hdv
  have c0 := h.c0
  go_enter Try.func44, Try.ntmps44
  go_wp2
  go_ret3
  exact ⟨rfl, rfl⟩

theorem gt_mem {l : List En} {i : Nat} (h : i < l.length) : gt l i ∈ l := by
  unfold gt
  rw [List.getD_eq_getElem?_getD, List.getElem?_eq_getElem h]
  exact List.getElem_mem _
theorem mem_gt {l : List En} {y : En} (h : y ∈ l) : ∃ i, i < l.length ∧ gt l i = y := by
  obtain ⟨i, hi, e⟩ := List.getElem_of_mem h
  refine ⟨i, hi, ?_⟩
  unfold gt
  rw [List.getD_eq_getElem?_getD, List.getElem?_eq_getElem hi]
  exact e
theorem gt_turn {l : List En} (hs : l.Pairwise (fun a b => a.t < b.t)) {i j : Nat} (hij : i < j) (hj : j < l.length) : (gt l i).t < (gt l j).t := by
  unfold gt
  rw [List.getD_eq_getElem?_getD, List.getD_eq_getElem?_getD, List.getElem?_eq_getElem hj, List.getElem?_eq_getElem (by omega)]
  exact (List.pairwise_iff_getElem.1 hs) i j (by omega) hj hij

set_option maxRecDepth 100000 in
set_option maxHeartbeats 4000000 in
theorem rfirst_44 (h : Rw w rb G lv l) (hl : l.length < 900000) (h0 : 0 < l.length) (hs : l.Pairwise (fun a b => a.t < b.t)) :
    ∃ e, e ∈ l ∧ (∀ y, y ∈ l → ¬ ah y e) ∧ Calls Try.prog 44 #[.pointer (some ⟨rb, 0, none⟩)] w fun y w' => y = .returned (.tuple #[.int .u64 e.h, .int .i64 e.x, .bool true]) ∧ w.grownBy w' none := by
  have hex : ∀ n, 0 < n → n ≤ l.length → ∃ m, m < n ∧ ∀ j, j < n → (gt l m).x ≤ (gt l j).x ∧ (j < m → (gt l m).x < (gt l j).x) := by
    intro n
    induction n with
    | zero => intro h1; omega
    | succ n ih =>
      intro _ h2
      by_cases hn : n = 0
      · subst hn; exact ⟨0, by omega, fun j hj => by (obtain rfl : j = 0 := by omega); exact ⟨by omega, fun h => by omega⟩⟩
      · obtain ⟨m, hm, hall⟩ := ih (by omega) (by omega)
        by_cases hx : (gt l n).x < (gt l m).x
        · refine ⟨n, by omega, fun j hj => ?_⟩
          by_cases e : j = n
          · subst e; exact ⟨by omega, fun h => by omega⟩
          · have := (hall j (by omega)).1; exact ⟨by omega, fun _ => by omega⟩
        · refine ⟨m, by omega, fun j hj => ?_⟩
          by_cases e : j = n
          · subst e; exact ⟨by omega, fun h => by omega⟩
          · exact hall j (by omega)
  obtain ⟨m0, hm0, hall0⟩ := hex l.length h0 (Nat.le_refl _)
  refine ⟨gt l m0, gt_mem hm0, fun y hy => ?_, ?_⟩
  · obtain ⟨j, hj, rfl⟩ := mem_gt hy
    have h1 := hall0 j hj
    unfold ah
    rcases Nat.lt_trichotomy j m0 with h2 | h2 | h2
    · have := h1.2 h2; omega
    · subst h2; omega
    · have := gt_turn hs h2 hj; omega
  clear hex
  obtain ⟨ao, cp, hdv, hnil, _, hmax, hpos⟩ := row_shape h.row
  subst hdv
  obtain ⟨g, rfl⟩ := hpos h0
  have c0 := h.c0
  obtain ⟨e0, e1⟩ := Rw.cells h.row rfl h0
  have hn0 : ¬ l.length = 0 := by omega
  have hn1 : (0 : Int) < l.length := by omega
  have hz0 : ((l.length : Int) == 0) = false := by simp; intro e; rw [e] at h0; simp at h0
  rw [Nat.zero_mul] at e0
  rw [Nat.zero_mul, Nat.zero_add] at e1
  have hal := World.grownBy_alloc w (.cells #[.int .u64 (gt l 0).h, .int .i64 (gt l 0).x] 128) none
  have hB : Box (w.alloc (.cells #[.int .u64 (gt l 0).h, .int .i64 (gt l 0).x] 128)) 128 w.heap.size #[.int .u64 (gt l 0).h, .int .i64 (gt l 0).x] := Box.new _ _ _
  go_enter Try.func44, Try.ntmps44
  go_wp2
  obtain ⟨bb, hbb⟩ : ∃ bb, bb = w.heap.size := ⟨_, rfl⟩
  rw [← hbb] at hB ⊢
  have hbl : w.heap.size ≤ bb := by omega
  clear hbb
  generalize w.alloc (.cells #[.int .u64 (gt l 0).h, .int .i64 (gt l 0).x] 128) = W at *
  go_loopw [6] (fun v wr => ∃ i m : Nat, i ≤ l.length ∧ m < i ∧ v = .int .i64 i ∧ Box wr 128 bb #[.int .u64 (gt l m).h, .int .i64 (gt l m).x] ∧ w.grownBy wr none ∧ ∀ j, j < i → (gt l m).x ≤ (gt l j).x ∧ (j < m → (gt l m).x < (gt l j).x)) (fun v _ => l.length - (intOf v).toNat)
  case atStart => exact ⟨1, 0, by omega, by omega, rfl, hB, hal, fun j hj => by (obtain rfl : j = 0 := by omega); exact ⟨by omega, fun h => by omega⟩⟩
  case round =>
    clear hB hal e0 e1
    obtain ⟨i, m, hi, hm, rfl, hB, hg, hall⟩ := hrel
    have hz := h.kept0 hg
    have c0 := hz.c0
    have k0 : wr.cell? ⟨bb, 0, none⟩ = some (.int .u64 (gt l m).h) := hB.cell 0
    have k1 : wr.cell? ⟨bb, 1, none⟩ = some (.int .i64 (gt l m).x) := hB.cell 1
    by_cases hil : i < l.length
    · obtain ⟨e0, e1⟩ := Rw.cells hz.row rfl hil
      have hib : (i : Int) < l.length := by omega
      by_cases hx : (gt l i).x < (gt l m).x
      · have hdx : decide ((gt l i).x < (gt l m).x) = true := by simp; omega
        have hfin : ∀ j, j < i + 1 → (gt l i).x ≤ (gt l j).x ∧ (j < i → (gt l i).x < (gt l j).x) := fun j hj => by
          by_cases e : j = i
          · subst e; exact ⟨by omega, fun h => by omega⟩
          · have := (hall j (by omega)).1; exact ⟨by omega, fun _ => by omega⟩
        have hfz := fun nq => (show Box (wr.drewN nq) 128 bb #[.int .u64 (gt l m).h, .int .i64 (gt l m).x] from hB)
        go_wp2
        go_quiet (fail)
        have hgV : wr.grownBy (wr.drewN nq) none := gb_drewN (gb_refl _ _) nq
        have hBV := hfz nq
        have c0V := gb_cellN hgV c0
        have e0V := gb_cellN hgV e0
        have e1V := gb_cellN hgV e1
        have hgw := gb_trans hg hgV
        clear hfz c0 e0 e1 k0 k1 hB hz
        generalize wr.drewN nq = V at *
        have k0 : V.cell? ⟨bb, 0, none⟩ = some (.int .u64 (gt l m).h) := hBV.cell 0
        have k1 : V.cell? ⟨bb, 1, none⟩ = some (.int .i64 (gt l m).x) := hBV.cell 1
        have f0 := hBV.fz 0
        have f1 := hBV.fz 1
        have hB2 : Box _ 128 bb #[.int .u64 (gt l i).h, .int .i64 (gt l i).x] := (hBV.set 0 (.int .u64 (gt l i).h)).set 1 (.int .i64 (gt l i).x)
        have hg2 : w.grownBy _ none := gb_mine hgw (gb_setCell (gb_setCell (gb_refl V (some bb)) (.int .u64 (gt l i).h) (i := 0)) (.int .i64 (gt l i).x) (i := 1)) hbl
        clear hBV
        go_wp2
        exact ⟨⟨i + 1, i, by omega, by omega, by go_num, hB2, hg2, hfin⟩, by simp [intOf]; omega⟩
      · have hdx : decide ((gt l i).x < (gt l m).x) = false := by simp; omega
        have hfin : ∀ j, j < i + 1 → (gt l m).x ≤ (gt l j).x ∧ (j < m → (gt l m).x < (gt l j).x) := fun j hj => by
          by_cases e : j = i
          · subst e; exact ⟨by omega, fun h => by omega⟩
          · exact hall j (by omega)
        have hBn := fun nq => (show Box (wr.drewN nq) 128 bb #[.int .u64 (gt l m).h, .int .i64 (gt l m).x] from hB)
        clear hz hB
        go_wp2
        go_quiet (fail)
        go_wp2
        exact ⟨⟨i + 1, m, by omega, by omega, by go_num, hBn _, gb_drewN hg _, hfin⟩, by simp [intOf]; omega⟩
    · obtain rfl : i = l.length := by omega
      have hmm : m = m0 := by
        have h1 := hall m0 (by omega)
        have h2 := hall0 m (by omega)
        rcases Nat.lt_trichotomy m m0 with h3 | h3 | h3
        · have := h2.2 h3; omega
        · exact h3
        · have := h1.2 h3; omega
      subst hmm
      clear hz hB
      go_wp2
      go_quiet (fail)
      go_wp2
      go_ret3
      exact ⟨rfl, gb_drewN hg _⟩
end

end Go.Proofs.Ytagcmfaljfaikaa
