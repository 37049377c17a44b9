import Derived.Test.YtohneboimmcocaaGreatXc
import Derived.Test.YtohneboimmcocaaGreatOb
import Derived.Test.YtohneboimmcocaaGreatOc
/-
  Both Sets: a chunk is taken, none can be, one is given back.
-/
namespace Go.Proofs.YtohneboimmcocaaGreat
open Go.RowKit
set_option linter.unusedVariables false

/-- The Set behind a call: which chunks are taken. -/
structure Kin (A A' : Ab) : Prop where
  n : A'.n = A.n
  ps : A'.ps = A.ps
  m : A'.m = A.m
  sz : ∀ i, A'.sz i = A.sz i
  np : A.np ≤ A'.np
  own : ∀ q, q < A.np → A'.own q = A.own q
theorem Kin.place {A A' : Ab} (h : Kin A A') {q : Nat} (hq : q < A.np) (l : Nat) : A'.place q l = A.place q l := by
  unfold Ab.place
  rw [h.ps, h.sz, h.own q hq]
theorem Kin.each {A A' : Ab} (h : Kin A A') (c : Nat) : A'.each c = A.each c := by
  unfold Ab.each
  rw [h.ps, h.sz]
/-- A chunk is taken. -/
structure Takes (A A' : Ab) (c H p k : Nat) : Prop where
  kin : Kin A A'
  good : IsH A' H p k
  own : A'.own p = c
  old : ∀ G q l, IsH A G q l → IsH A' G q l
  new : ∀ G q l, IsH A' G q l → (q = p ∧ l = k) ∨ IsH A G q l
  not : ∀ q l, ¬ IsH A H q l
/-- One is given back. -/
structure Gives (A A' : Ab) (H p k : Nat) : Prop where
  kin : Kin A A'
  new : ∀ G q l, IsH A' G q l ↔ IsH A G q l ∧ G ≠ H

theorem isH_inj {A : Ab} (hA : Fit2 A) {H p k q l : Nat} (h1 : IsH A H p k) (h2 : IsH A H q l) : p = q ∧ k = l := by
  have e1 := (h1.parts hA).1
  have e2 := (h2.parts hA).1
  exact num_inj hA.toFit1 h1.hp h1.hk h2.hp h2.hk (by rw [← e1, e2])

theorem kin_taken (A : Ab) (c p k : Nat) : Kin A (A.taken c p k) := ⟨rfl, rfl, rfl, fun _ => rfl, Nat.le_refl _, fun _ _ => rfl⟩
theorem kin_owned (A : Ab) (c : Nat) : Kin A (A.owned c) := ⟨owned_n, owned_ps, owned_m, fun i => owned_sz i, by rw [owned_np]; omega, fun q hq => by rw [owned_own, if_neg (by omega)]⟩
theorem Kin.trans {A B C : Ab} (h : Kin A B) (g : Kin B C) : Kin A C :=
  ⟨g.n.trans h.n, g.ps.trans h.ps, g.m.trans h.m, fun i => (g.sz i).trans (h.sz i), Nat.le_trans h.np g.np, fun q hq => (g.own q (Nat.lt_of_lt_of_le hq h.np)).trans (h.own q hq)⟩
theorem taken_tkn (A : Ab) (c p k q l : Nat) : (A.taken c p k).tkn q l = upd2 A.tkn p k true q l := rfl
theorem taken_gen (A : Ab) (c p k q l : Nat) : (A.taken c p k).gen q l = A.gen q l := rfl
theorem taken_hdl (A : Ab) (c p k q l : Nat) : (A.taken c p k).hdl q l = A.hdl q l := rfl
theorem takes_of {A : Ab} (hA : Fit2 A) {c p k : Nat} (hp : p < A.np) (ho : A.own p = c) (hk : k < A.each c) (ht : A.tkn p k = false) : Takes A (A.taken c p k) c (A.hdl p k) p k := by
  have hgood : IsH (A.taken c p k) (A.hdl p k) p k := ⟨hp, by show k < A.each (A.own p); rw [ho]; exact hk, by rw [taken_tkn]; simp [upd2], (taken_hdl A c p k p k).symm⟩
  refine ⟨kin_taken A c p k, hgood, ho, fun G q l h => ⟨h.hp, h.hk, ?_, h.hH⟩, fun G q l h => ?_, fun q l h => ?_⟩
  · rw [taken_tkn]
    unfold upd2
    split
    · rfl
    · exact h.ht
  · by_cases e : q = p ∧ l = k
    · exact .inl e
    · refine .inr ⟨h.hp, h.hk, ?_, h.hH⟩
      have := h.ht
      rw [taken_tkn] at this
      simpa only [upd2, if_neg e] using this
  · have h1 := (h.parts hA).1
    have hk' : k < A.each (A.own p) := by rw [ho]; exact hk
    have h2 : A.hdl p k % 4294967296 = A.num p k := by
      have := (num_lt hA.toFit1 hp hk').1
      unfold Ab.hdl
      omega
    obtain ⟨rfl, rfl⟩ := num_inj hA.toFit1 h.hp h.hk hp hk' (by rw [← h1, h2])
    rw [h.ht] at ht
    cases ht
theorem isH_owned {A : Ab} {c G q l : Nat} (h : IsH (A.owned c) G q l) : IsH A G q l := by
  have hq : q ≠ A.np := fun e => by
    have := h.ht
    rw [owned_tkn, if_pos e] at this
    cases this
  have hqn : q < A.np := by have := h.hp; rw [owned_np] at this; omega
  have hk := h.hk
  rw [owned_each, owned_own, if_neg hq] at hk
  have ht := h.ht
  rw [owned_tkn, if_neg hq] at ht
  refine ⟨hqn, hk, ht, ?_⟩
  rw [h.hH]
  unfold Ab.hdl
  rw [owned_gen, if_neg hq, owned_num q l hqn]
theorem isH_own2 {A : Ab} {c G q l : Nat} (h : IsH A G q l) : IsH (A.owned c) G q l := by
  have hq : q ≠ A.np := by have := h.hp; omega
  refine ⟨by rw [owned_np]; have := h.hp; omega, by rw [owned_each, owned_own, if_neg hq]; exact h.hk, by rw [owned_tkn, if_neg hq]; exact h.ht, ?_⟩
  rw [h.hH]
  unfold Ab.hdl
  rw [owned_gen, if_neg hq, owned_num q l h.hp]
theorem Takes.page {A A' : Ab} {c H p k : Nat} (h : Takes (A.owned c) A' c H p k) : Takes A A' c H p k :=
  ⟨(kin_owned A c).trans h.kin, h.good, h.own, fun G q l g => h.old G q l (isH_own2 g), fun G q l g => (h.new G q l g).imp id isH_owned, fun q l g => h.not q l (isH_own2 g)⟩

/-- What both Sets answer to Take. -/
theorem take2_any {A : Ab} (hI : Inv A) (c : Nat) (hc : c < A.n) :
    ((∀ w sb F B b c' d e f g zs, IsS w sb F B b c' d e f g A zs → Calls Tryz.prog 88 #[.pointer (some ⟨sb, 0, none⟩), .int .i64 c] w fun y w' => y = .returned (.tuple #[.int .u64 0, .int .i64 21]) ∧ w.grownBy w' none) ∧
      (∀ w rb G Q c' d e R, IsR w rb G Q c' d e R → RFit R → Rep A R → Calls Tryz.prog 89 #[.pointer (some ⟨rb, 0, none⟩), .int .i64 c] w fun y w' => y = .returned (.tuple #[.int .u64 0, .int .i64 21]) ∧ w.grownBy w' none)) ∨
    ∃ A' H p k, Inv A' ∧ Takes A A' c H p k ∧
      (∀ w sb F B b c' d e f g zs, IsS w sb F B b c' d e f g A zs → Calls Tryz.prog 88 #[.pointer (some ⟨sb, 0, none⟩), .int .i64 c] w fun y w' => y = .returned (.tuple #[.int .u64 H, .int .i64 0]) ∧ Kp F w w' ∧ ∃ F' B', IsS w' sb F' B' b c' d e f g A' (headZ zs (A'.place p k) (A'.gen p k)) ∧ ∀ k, F' k → F k ∨ w.heap.size ≤ k) ∧
      (∀ w rb G Q c' d e R, IsR w rb G Q c' d e R → RFit R → Rep A R → Calls Tryz.prog 89 #[.pointer (some ⟨rb, 0, none⟩), .int .i64 c] w fun y w' => y = .returned (.tuple #[.int .u64 H, .int .i64 0]) ∧ Kp G w w' ∧ ∃ G' Q' R', IsR w' rb G' Q' c' d e R' ∧ RFit R' ∧ Rep A' R' ∧ ∀ k, G' k → G k ∨ w.heap.size ≤ k) := by
  have hfit := hI.fit
  by_cases hr : A.row c = []
  · by_cases hm : A.np = A.m
    · refine .inl ⟨fun w sb F B b c' d e f g zs h => take_room h hfit.toFit hc hr hm, fun w rb G Q c' d e R h hR hrep => ?_⟩
      have hrr : R.row c = [] := by
        have h1 := hrep.row c hc
        rw [hr] at h1
        exact List.map_eq_nil_iff.1 h1
      exact rtake_room h hR (i := c) (by rw [hrep.n]; exact hc) hrr (fun q hq => by rw [hrep.m] at hq; rw [hrep.ow q hq, if_pos (by omega)]; omega)
    · have hnp : A.np < A.m := by have := hI.nm; omega
      have he := (hI.toSzs.each hc).1
      have hIo := hI.own hc hnp
      have hrl : ((A.owned c).row c).getLast? = some ((A.owned c).num A.np 0) := by
        rw [owned_row, if_pos rfl, hr, List.nil_append, nums_last A c (by omega), owned_num2]
      have ho2 : (A.owned c).own A.np = c := by rw [owned_own, if_pos rfl]
      have ht2 : (A.owned c).tkn A.np 0 = false := by rw [owned_tkn, if_pos rfl]
      have hp2 : A.np < (A.owned c).np := by rw [owned_np]; omega
      have hk2 : 0 < (A.owned c).each c := by rw [owned_each]; omega
      have hIt := hIo.take (c := c) (p := A.np) (k := 0) (by rw [owned_n]; exact hc) hp2 ho2 hk2 ht2 hrl
      refine .inr ⟨_, _, _, _, hIt, (takes_of hIo.fit hp2 ho2 hk2 ht2).page, fun w sb F B b c' d e f g zs h => take_page h hI hc hr hnp, fun w rb G Q c' d e R h hR hrep => ?_⟩
      have hrr : R.row c = [] := by
        have h1 := hrep.row c hc
        rw [hr] at h1
        exact List.map_eq_nil_iff.1 h1
      have hee : R.ps / R.sz c = A.each c := by unfold Ab.each; rw [hrep.ps, hrep.sz]
      have hNb : R.N + R.ps / R.sz c ≤ 16777216 := by
        have h1 := hrep.nb
        have h2 : A.each c ≤ A.ps / 64 := by unfold Ab.each; exact Nat.div_le_div_left (hI.lo c hc) (by omega)
        have h3 : (A.np + 1) * (A.ps / 64) ≤ 1024 * 16384 := by
          refine Nat.mul_le_mul (by have := hI.mm; omega) ?_
          have := hR.ps
          rw [hrep.ps] at this
          omega
        rw [Nat.add_mul, Nat.one_mul] at h3
        rw [hee]; omega
      have h1 := hrep.paged hI hc hnp
      have hNlt : R.N < (R.page c A.np).N := by rw [(page_facts R c A.np).1, hee]; omega
      have hplR : (R.page c A.np).pl R.N = (A.owned c).place A.np 0 := by
        have := (page_new R c A.np 0 (by rw [hee]; omega)).1
        rw [Nat.add_zero] at this
        rw [this, hrep.ps, hrep.sz]
        unfold Ab.place
        rw [owned_ps, owned_sz, owned_own, if_pos rfl]
      have hof := h1.of hIo.fit.toFit1 hNlt (p := A.np) (k := 0) hp2 (by rw [ho2]; exact hk2) hplR
      have h2 := h1.took hIo.fit.toFit1 (c := c) (p := A.np) (k := 0) (by rw [owned_n]; exact hc) hp2 ho2 hk2 hNlt hplR
      have := rtake_page h hR (i := c) (p := A.np) (by rw [hrep.n]; exact hc) hrr (by rw [hrep.m]; exact hnp) (by rw [hrep.ow _ hnp, if_neg (by omega)]; decide) (fun q hq => by rw [hrep.ow q (by omega), if_pos hq]; omega) hNb (by rw [hee]; omega)
      rw [hof.2.2.2] at this
      refine this.mono ?_
      rintro y w' ⟨rfl, hK, F', Q', hS, hF'⟩
      exact ⟨rfl, hK, F', Q', _, hS, took_fit (page_fit hR (by rw [hrep.n]; exact hc) (by rw [hrep.m]; exact hnp) hNb (by rw [hrr]; simp; omega)) c R.N, h2, hF'⟩
  · obtain ⟨x, hx⟩ : ∃ x, (A.row c).getLast? = some x := by
      cases h : (A.row c).getLast? with
      | none => exact absurd (List.getLast?_eq_none_iff.1 h) hr
      | some x => exact ⟨x, rfl⟩
    obtain ⟨p, k, hp, ho, hk, rfl, ht⟩ := hI.rs c hc x (List.mem_of_getLast? hx)
    have hIt := hI.take hc hp ho hk ht hx
    refine .inr ⟨_, _, _, _, hIt, takes_of hfit hp ho hk ht, fun w sb F B b c' d e f g zs h => ?_, fun w rb G Q c' d e R h hR hrep => ?_⟩
    · refine (take_row h hfit hc hp ho hk ht hx).mono ?_
      rintro y w' ⟨rfl, ⟨B', _, hS⟩, hK⟩
      exact ⟨rfl, hK, F, B', hS, fun k hk => .inl hk⟩
    · obtain ⟨x, n1, hx2, hplx, hlen, hlast⟩ := hrep.last hfit.toFit1 hc hp ho hk hx
      have hof := hrep.of hfit.toFit1 hx2 hp (by rw [ho]; exact hk) hplx
      have h2 := hrep.took hfit.toFit1 hc hp ho hk hx2 hplx
      have := rtake_row h hR (i := c) (by rw [hrep.n]; exact hc) hlen hlast hx2
      rw [hof.2.2.2] at this
      refine this.mono ?_
      rintro y w' ⟨rfl, hK, Q', hS⟩
      exact ⟨rfl, hK, G, Q', _, hS, took_fit hR c x, h2, fun k hk => .inl hk⟩

theorem given_facts (A : Ab) (p k v : Nat) : (A.given p k v).np = A.np ∧ (A.given p k v).n = A.n ∧ (A.given p k v).ps = A.ps ∧ (A.given p k v).m = A.m ∧ (A.given p k v).sz = A.sz ∧ (A.given p k v).own = A.own ∧ (A.given p k v).tkn = upd2 A.tkn p k false ∧ (A.given p k v).gen = upd2 A.gen p k v ∧ (A.given p k v).row = upd A.row (A.own p) (A.row (A.own p) ++ [A.num p k]) := ⟨rfl, rfl, rfl, rfl, rfl, rfl, rfl, rfl, rfl⟩
theorem Rep.goodp {A : Ab} {R : Rb} (hr : Rep A R) (hA : Fit2 A) {H p k : Nat} (hH : IsH A H p k) : ∃ i, i < R.N ∧ R.tk i = true ∧ R.hdl i = H ∧ R.pl i = A.place p k ∧ R.cl i = A.own p ∧ ∀ j, j < i → R.tk j = true → R.hdl j ≠ H := by
  obtain ⟨i, a1, a2, a3, a4, a5⟩ := hr.good hA hH
  obtain ⟨q, l, hq, hl, e1, e2, e3, e4⟩ := hr.at' i a1
  have : IsH A H q l := ⟨hq, hl, by rw [← e4]; exact a2, by rw [← a3]; unfold Rb.hdl Ab.hdl Ab.num; rw [e3, e1]⟩
  obtain ⟨rfl, rfl⟩ := isH_inj hA this hH
  exact ⟨i, a1, a2, a3, e1, a4, a5⟩
theorem Rep.gave {A : Ab} {R : Rb} (h : Rep A R) (hA : Fit2 A) {p k i : Nat} (hp : p < A.np) (hk : k < A.each (A.own p)) (hi : i < R.N) (he : R.pl i = A.place p k) (v : Nat) (hv : v = (A.gen p k + 1) % 4294967296) : Rep (A.given p k v) (R.gave i) := by
  obtain ⟨f1, f2, f3, f4, f5, f6, f7, f8, f9⟩ := given_facts A p k v
  have hof := h.of hA.toFit1 hi hp hk he
  have hpl : ∀ q l, (A.given p k v).place q l = A.place q l := fun q l => by unfold Ab.place; rw [f3, f5, f6]
  have hea : ∀ c, (A.given p k v).each c = A.each c := fun c => by unfold Ab.each; rw [f3, f5]
  refine ⟨h.ps.trans f3.symm, h.m.trans f4.symm, h.n.trans f2.symm, h.sz.trans f5.symm, fun q hq => ?_, fun j hj => ?_, h.inj, fun q l hq hl => ?_, fun c2 hc2 j hj => ?_, fun c2 hc2 => ?_, ?_⟩
  · rw [f1, f6]; rw [f4] at hq; exact h.ow q hq
  · obtain ⟨q, l, hq, hl, e1, e2, e3, e4⟩ := h.at' j hj
    refine ⟨q, l, by rw [f1]; exact hq, by rw [hea, f6]; exact hl, by rw [hpl]; exact e1, by rw [f6]; exact e2, ?_, ?_⟩
    · show upd R.gn i ((R.gn i + 1) % 4294967296) j = _
      rw [f8]
      by_cases e : j = i
      · subst e
        obtain ⟨rfl, rfl⟩ := place_inj hA.toFit1 hq hl hp hk (by rw [← e1, he])
        rw [upd_same, e3]
        simp [upd2, hv]
      · have hne : ¬ (q = p ∧ l = k) := by
          rintro ⟨rfl, rfl⟩
          exact e (h.inj j i hj hi (by rw [e1, he]))
        rw [upd_other _ _ e, e3]
        simp only [upd2, if_neg hne]
    · show upd R.tk i false j = _
      rw [f7]
      by_cases e : j = i
      · subst e
        obtain ⟨rfl, rfl⟩ := place_inj hA.toFit1 hq hl hp hk (by rw [← e1, he])
        rw [upd_same]
        simp [upd2]
      · have hne : ¬ (q = p ∧ l = k) := by
          rintro ⟨rfl, rfl⟩
          exact e (h.inj j i hj hi (by rw [e1, he]))
        rw [upd_other _ _ e, e4]
        simp only [upd2, if_neg hne]
  · rw [f1] at hq
    rw [hea, f6] at hl
    obtain ⟨j, hj, e⟩ := h.sur q l hq hl
    exact ⟨j, hj, by rw [hpl]; exact e⟩
  · rw [f2] at hc2
    have hj2 : j ∈ upd R.row (R.cl i) (R.row (R.cl i) ++ [i]) c2 := hj
    by_cases e : c2 = R.cl i
    · subst e
      rw [upd_same] at hj2
      rcases List.mem_append.1 hj2 with h1 | h1
      · exact h.rlt _ hc2 j h1
      · simp at h1; subst h1; exact hi
    · rw [upd_other _ _ e] at hj2
      exact h.rlt c2 hc2 j hj2
  · rw [f2] at hc2
    rw [f9]
    show (upd R.row (R.cl i) (R.row (R.cl i) ++ [i]) c2).map (fun i => R.pl i / 8 + 1) = _
    rw [hof.1]
    by_cases e : c2 = A.own p
    · subst e
      rw [upd_same, upd_same, List.map_append, h.row _ hc2]
      simp only [List.map_cons, List.map_nil]
      rw [he]
      rfl
    · rw [upd_other _ _ e, upd_other _ _ e, h.row c2 hc2]
  · rw [f1, f3]; exact h.nb
theorem gave_fit {R : Rb} (hR : RFit R) (i : Nat) (hl : (R.row (R.cl i)).length < 16777216) : RFit (R.gave i) := by
  refine ⟨hR.n0, hR.n2, hR.m0, hR.m2, fun j => ?_, hR.pl, hR.N, hR.s0, hR.s1, hR.ps, fun j hj => ?_⟩
  · show upd R.gn i ((R.gn i + 1) % 4294967296) j < _
    by_cases e : j = i
    · subst e; rw [upd_same]; omega
    · rw [upd_other _ _ e]; exact hR.gn j
  · show (upd R.row (R.cl i) (R.row (R.cl i) ++ [i]) j).length ≤ _
    by_cases e : j = R.cl i
    · subst e; rw [upd_same, List.length_append]; simp; omega
    · rw [upd_other _ _ e]; exact hR.rl j hj
/-- Both Sets give a chunk back. -/
theorem give2_yes {A : Ab} (hI : Inv A) {H p k : Nat} (hH : IsH A H p k) (hr : ∀ c, c < A.n → (A.row c).length < 16777216) : ∃ A', Inv A' ∧ Gives A A' H p k ∧
      (∀ w sb F B b c' d e f g zs, IsS w sb F B b c' d e f g A zs → Calls Tryz.prog 51 #[.pointer (some ⟨sb, 0, none⟩), .int .u64 H] w fun y w' => y = .returned (.int .i64 0) ∧ Kp F w w' ∧ ∃ F' B', IsS w' sb F' B' b c' d e f g A' zs ∧ ∀ k, F' k → F k ∨ w.heap.size ≤ k) ∧
      (∀ w rb G Q c' d e R, IsR w rb G Q c' d e R → RFit R → Rep A R → Calls Tryz.prog 94 #[.pointer (some ⟨rb, 0, none⟩), .int .u64 H] w fun y w' => y = .returned (.int .i64 0) ∧ Kp G w w' ∧ ∃ G' Q' R', IsR w' rb G' Q' c' d e R' ∧ RFit R' ∧ Rep A' R' ∧ ∀ k, G' k → G k ∨ w.heap.size ≤ k) := by
  have hfit := hI.fit
  obtain ⟨v, hv⟩ : ∃ v, v = (A.gen p k + 1) % 4294967296 := ⟨_, rfl⟩
  have hv2 : v < 4294967296 := by omega
  obtain ⟨f1, f2, f3, f4, f5, f6, f7, f8, f9⟩ := given_facts A p k v
  refine ⟨A.given p k v, hI.give hv2 hH.hp hH.hk hH.ht, ⟨⟨f2, f3, f4, fun i => by rw [f5], by rw [f1]; exact Nat.le_refl _, fun q hq => by rw [f6]⟩, fun G q l => ⟨fun hG => ?_, fun hG => ?_⟩⟩, fun w sb F B b c' d e f g zs h => give_yes h hI hH v hv, fun w rb G Q c' d e R h hR hrep => ?_⟩
  · have ht := hG.ht
    rw [f7] at ht
    have hne : ¬ (q = p ∧ l = k) := by
      rintro ⟨rfl, rfl⟩
      simp [upd2] at ht
    simp only [upd2, if_neg hne] at ht
    have hhd : (A.given p k v).hdl q l = A.hdl q l := by
      unfold Ab.hdl Ab.num Ab.place
      rw [f3, f5, f6, f8]
      simp only [upd2, if_neg hne]
    have h1 : IsH A G q l := ⟨by have := hG.hp; rw [f1] at this; exact this, by have := hG.hk; unfold Ab.each at this ⊢; rw [f3, f5, f6] at this; exact this, ht, by rw [← hhd]; exact hG.hH⟩
    exact ⟨h1, fun e => hne (isH_inj hfit (e ▸ h1) hH)⟩
  · obtain ⟨hG, hne0⟩ := hG
    have hne : ¬ (q = p ∧ l = k) := by
      rintro ⟨rfl, rfl⟩
      exact hne0 (by rw [hG.hH, hH.hH])
    refine ⟨by rw [f1]; exact hG.hp, by unfold Ab.each; rw [f3, f5, f6]; exact hG.hk, by rw [f7]; simp only [upd2, if_neg hne]; exact hG.ht, ?_⟩
    rw [hG.hH]
    unfold Ab.hdl Ab.num Ab.place
    rw [f3, f5, f6, f8]
    simp only [upd2, if_neg hne]
  · obtain ⟨i, a1, a2, a3, a4, a5, a6⟩ := hrep.goodp hfit hH
    have hfd := rfind_yes h hR a1 a2 a3 a6
    have hc : R.cl i < R.n := by rw [a5, hrep.n]; exact hI.on p hH.hp
    have hl : (R.row (R.cl i)).length < 16777216 := by
      rw [a5]
      have h1 := congrArg List.length (hrep.row (A.own p) (hI.on p hH.hp))
      rw [List.length_map] at h1
      rw [h1]
      exact hr _ (hI.on p hH.hp)
    refine (rgive_yes h hR a1 hc hl hfd).mono ?_
    rintro y w' ⟨rfl, hK, F', Q', hS, hF⟩
    exact ⟨rfl, hK, F', Q', _, hS, gave_fit hR i hl, hrep.gave hfit hH.hp hH.hk a1 a4 v hv, hF⟩
end Go.Proofs.YtohneboimmcocaaGreat
/-
  The document's Push; the document's Lru: Is, Enter, Leave, Hit, Len.
-/
namespace Go.Proofs.YtohneboimmcocaaGreat
open Go.RowKit
set_option linter.unusedVariables false

section
variable {w : World} {lb rb lsb : Nat} {lv : Value} {vs : Nat → Value} {Y : Nat → List Nat} {szb szc : Nat}
set_option maxRecDepth 100000 in
theorem rpush_arg {H : Nat} {k : Int} {l : Bool} (hk : ¬ (1 ≤ k ∧ k ≤ 3)) (w : World) :
    Calls Tryz.prog 96 #[.pointer (some ⟨lb, 0, none⟩), .int .u64 H, .int .i64 k, .bool l] w fun y w' => y = .returned (.int .i64 1) ∧ w = w' := by
  by_cases k1 : k < 1
  · clear hk
    go_enter Tryz.func96, Tryz.ntmps96
    go_wp2
    go_ret
    exact ⟨rfl, rfl⟩
  · have k2 : (3 : Int) < k := by omega
    clear hk
    go_enter Tryz.func96, Tryz.ntmps96
    go_wp2
    go_ret
    exact ⟨rfl, rfl⟩
set_option maxRecDepth 100000 in
/-- Push that is refused: no item. -/
theorem rpush_handle {H k : Nat} {l : Bool} (hk : k < 3) (hIs : Calls Tryz.prog 43 #[.pointer (some ⟨lb, 0, none⟩), .int .u64 H] w fun y w' => y = .returned (.bool false) ∧ w.grownBy w' none) :
    Calls Tryz.prog 96 #[.pointer (some ⟨lb, 0, none⟩), .int .u64 H, .int .i64 ((k : Int) + 1), .bool l] w fun y w' => y = .returned (.int .i64 20) ∧ w.grownBy w' none := by
  have k1 : ¬ (k : Int) + 1 < 1 := by omega
  have k2 : ¬ (3 : Int) < (k : Int) + 1 := by omega
  go_enter Tryz.func96, Tryz.ntmps96
  go_wp2_with (first | (go_at_call 43; go_must (refine hIs.mono ?_); rintro y w1 ⟨rfl, hf1⟩) | fail)
  go_ret
  exact ⟨rfl, hf1⟩
set_option maxRecDepth 100000 in
/-- Push that is refused: it stands in a list. -/
theorem rpush_twice (h : RQ w lb rb lsb lv vs Y szb szc) {H k j : Nat} {U V : List Nat} {l : Bool} (hk : k < 3) (hS : Stands Y H j U V) (hIs : Calls Tryz.prog 43 #[.pointer (some ⟨lb, 0, none⟩), .int .u64 H] w fun y w' => y = .returned (.bool true) ∧ w.grownBy w' none) :
    Calls Tryz.prog 96 #[.pointer (some ⟨lb, 0, none⟩), .int .u64 H, .int .i64 ((k : Int) + 1), .bool l] w fun y w' => y = .returned (.int .i64 8) ∧ w.grownBy w' none := by
  have k1 : ¬ (k : Int) + 1 < 1 := by omega
  have k2 : ¬ (3 : Int) < (k : Int) + 1 := by omega
  have hw := fun W (hW : w.grownBy W none) => where_yes (h.kept0 hW) hS
  have hj : (j : Int) ≥ 0 := by omega
  generalize U.length = ul at *
  clear h hS
  go_enter Tryz.func96, Tryz.ntmps96
  go_wp2_with (first | (go_at_call 43; go_must (refine hIs.mono ?_); rintro y w1 ⟨rfl, hf1⟩) | (go_at_call 50; go_must (refine (hw _ hf1).mono ?_); rintro y w' ⟨rfl, rfl⟩) | fail)
  go_ret
  exact ⟨rfl, hf1⟩
set_option maxRecDepth 100000 in
/-- Push at the head. -/
theorem rpush_yes (h : RQ w lb rb lsb lv vs Y szb szc) (hrb : rb ≠ lsb) {H c k : Nat} {pl : Int} (hc : c < 3) (hk : k < 3) (hln : (Y (3 * c + k)).length < 1000) (hS : Nowhere Y H) (hIs : Calls Tryz.prog 43 #[.pointer (some ⟨lb, 0, none⟩), .int .u64 H] w fun y w' => y = .returned (.bool true) ∧ w.grownBy w' none)
    (hAt : ∀ W, w.grownBy W none → Calls Tryz.prog 148 #[.pointer (some ⟨rb, 0, none⟩), .int .u64 H] W fun y w' => y = .returned (.tuple #[.int .i64 pl, .int .i64 c, .int .i64 0]) ∧ W.grownBy w' none) :
    Calls Tryz.prog 96 #[.pointer (some ⟨lb, 0, none⟩), .int .u64 H, .int .i64 ((k : Int) + 1), .bool false] w fun y w' => y = .returned (.int .i64 0) ∧ Kp (fun k => k = lsb) w w' ∧ ∃ v', RQ w' lb rb lsb lv (upV vs (3 * c + k) v') (upY Y (3 * c + k) (H :: Y (3 * c + k))) szb szc ∧ ∀ k, v'.ownBlock = some k → w.heap.size ≤ k := by
  have k1 : ¬ (k : Int) + 1 < 1 := by omega
  have k2 : ¬ (3 : Int) < (k : Int) + 1 := by omega
  have hw := fun W (hW : w.grownBy W none) => where_no (h.kept0 hW) hS
  have hp := fun W (hW : w.grownBy W none) => (put_103 (h.kept0 hW) hrb hc hk hln (hAt W hW)).mono (R' := fun y w' => y = .returned (.tuple #[]) ∧ Hid (Kp (fun k => k = lsb) w w' ∧ ∃ v', RQ w' lb rb lsb lv (upV vs (3 * c + k) v') (upY Y (3 * c + k) (H :: Y (3 * c + k))) szb szc ∧ ∀ k, v'.ownBlock = some k → w.heap.size ≤ k)) (by
    rintro y w' ⟨rfl, h1, v', h2, h3⟩
    exact ⟨rfl, (Kp.of hW).trans h1 (fun _ h => h) (fun k hk => .inl hk), v', h2, fun k hk => Nat.le_trans hW.size (h3 k hk)⟩)
  clear h hS hAt
  go_enter Tryz.func96, Tryz.ntmps96
  go_wp2_with (first | (go_at_call 43; go_must (refine hIs.mono ?_); rintro y w1 ⟨rfl, hf1⟩) | (go_at_call 50; go_must (refine (hw _ hf1).mono ?_); rintro y w' ⟨rfl, rfl⟩) | (go_at_call 103; go_must (with_reducible refine (hp _ hf1).mono ?_); rintro y w2 ⟨rfl, hE2⟩) | fail)
  go_ret
  exact ⟨rfl, hE2.out⟩

set_option maxRecDepth 100000 in
set_option maxHeartbeats 1000000 in
/-- Is an item active? -/
theorem ris_45 {mb : Nat} {hot warm : Nat} {av : Value} {xs : List Nat} (hb : Box w 104 mb #[.pointer (some ⟨lb, 0, none⟩), .int .i64 hot, .int .i64 warm, av]) (hr : w.ownsRow 0 27 1 av xs.length (uvs xs)) (hl : xs.length ≤ 1000000) (H : Nat) :
    Calls Tryz.prog 45 #[.pointer (some ⟨mb, 0, none⟩), .int .u64 H] w fun y w' => y = .returned (.bool (decide (H ∈ xs))) ∧ w = w' := by
  obtain ⟨ao, cc, rfl, _, _, _, hao⟩ := row_shape hr
  have c3 := hb.cell 3
  simp at c3
  have hcell : ∀ k (hk : k < xs.length), ∃ gg, ao = some ⟨gg, 0, none⟩ ∧ w.cell? ⟨gg, k, none⟩ = some (.int .u64 ((xs[k] : Nat) : Int)) := fun k hk => by
    obtain ⟨gg, rfl⟩ := hao (by omega)
    exact ⟨gg, rfl, row_cell hr _ _ (uvs_get (by simp [hk]))⟩
  obtain ⟨n, hn⟩ : ∃ n, xs.length = n := ⟨_, rfl⟩
  rw [hn] at c3 hl
  clear hr hao hb
  go_enter Tryz.func45, Tryz.ntmps45
  go_wp2
  go_loopw [5] (fun iv wr => ∃ (k : Nat), iv = .int .i64 k ∧ k ≤ n ∧ wr = w ∧ ∀ j (hj : j < xs.length), j < k → xs[j] ≠ H) (fun iv _ => n - (intOf iv).toNat)
  case atStart => exact ⟨0, rfl, by omega, rfl, fun j _ hj => by omega⟩
  case round =>
    obtain ⟨k, rfl, hk, rfl, hno⟩ := hrel
    by_cases hk2 : k < n
    · obtain ⟨gg, rfl, hc⟩ := hcell k (by omega)
      have hkz : (k : Int) < (n : Int) := by omega
      have hd : decide ((k : Int) < n) = true := decide_eq_true hkz
      obtain ⟨xk, hxk⟩ : ∃ xk, xs[k]'(by omega) = xk := ⟨_, rfl⟩
      rw [hxk] at hc
      by_cases hx : xk = H
      · have hxx : ((xk : Nat) : Int) = (H : Int) := by omega
        have HM : Hid (H ∈ xs) := by
          show H ∈ xs
          rw [← hx, ← hxk]; exact List.getElem_mem _
        clear hcell hno hxk
        go_wp2
        go_ret
        exact ⟨by rw [decide_eq_true HM.out]; rfl, rfl⟩
      · have hxx : ¬ ((xk : Nat) : Int) = (H : Int) := by omega
        have HN : Hid (∀ j (hj : j < xs.length), j < k + 1 → xs[j] ≠ H) := fun j hj hjk => by
          rcases Nat.lt_or_ge j k with h1 | h1
          · exact hno j hj h1
          · obtain rfl : j = k := by omega
            rw [hxk]; exact hx
        clear hcell hno hxk
        go_wp2
        exact ⟨⟨k + 1, by go_num, by omega, trivial, HN.out⟩, by simp [intOf]; omega⟩
    · obtain rfl : k = n := by omega
      have HM : Hid (H ∉ xs) := fun hm => by
        obtain ⟨j, hj, e⟩ := List.getElem_of_mem hm
        exact hno j hj (by omega) e
      clear hcell hno
      go_wp2
      go_ret
      exact ⟨by rw [decide_eq_false HM.out]; rfl, rfl⟩
end
end Go.Proofs.YtohneboimmcocaaGreat
/-
  The law's World in memory, with the document's nine lists.
-/
namespace Go.Proofs.YtohneboimmcocaaGreat
open Go.RowKit
set_option linter.unusedVariables false

/-- The blocks of the nine lists. -/
def Rk (lsb : Nat) (vs : Nat → Value) (k : Nat) : Prop := k = lsb ∨ ∃ j, j < 9 ∧ (vs j).ownBlock = some k
def P8 (P : Nat → Prop) (lsb : Nat) (vs : Nat → Value) (k : Nat) : Prop := P k ∧ ¬ Rk lsb vs k
structure MS9 (w : World) (P : Nat → Prop) (wb : Nat) (D : Wd) (hot warm lsb : Nat) (vs : Nat → Value) (Y : Nat → List Nat) : Prop where
  ms : MS8 w (P8 P lsb vs) wb D hot warm
  lsv : D.lsv = .slice (some ⟨lsb, 0, none⟩) 9 9
  rl : RL w lsb vs Y
  pr : ∀ k, Rk lsb vs k → P k
/-- A value, or one of new memory. -/
def NewV (N : Nat) (v v' : Value) : Prop := v' = v ∨ ∀ k, v'.ownBlock = some k → N ≤ k
theorem NewV.refl (N : Nat) (v : Value) : NewV N v v := .inl rfl
theorem NewV.trans {N M : Nat} {v v' v'' : Value} (h : NewV N v v') (g : NewV M v' v'') (hN : N ≤ M) : NewV N v v'' := by
  rcases g with rfl | g
  · exact h
  · exact .inr fun k hk => Nat.le_trans hN (g k hk)

section
variable {w : World} {P : Nat → Prop} {wb : Nat} {D : Wd} {hot warm lsb : Nat} {vs : Nat → Value} {Y : Nat → List Nat}
theorem RL.lt (h : RL w lsb vs Y) : ∀ k, Rk lsb vs k → k < w.heap.size := by
  rintro k (rfl | ⟨j, hj, hk⟩)
  · exact h.blk.lt
  · exact row_lt (h.ls j hj) k hk
theorem RL.kept {w' : World} {G : Nat → Prop} (h : RL w lsb vs Y) (hK : Kp G w w') (hn : ∀ k, Rk lsb vs k → ¬ G k) : RL w' lsb vs Y :=
  ⟨hK.box h.blk (hn _ (.inl rfl)), fun j hj => row_same (h.ls j hj) (fun k hk => hK.block k (row_lt (h.ls j hj) k hk) (hn k (.inr ⟨j, hj, hk⟩))), h.ln⟩
theorem MS8.kept {w' : World} {G P' : Nat → Prop} (h : MS8 w P wb D hot warm) (hK : Kp G w w') (hn : ∀ k, k < w.heap.size → P k → ¬ G k) (hP' : ∀ k, k < w.heap.size → P k → P' k) : MS8 w' P' wb D hot warm := by
  have hno : ∀ j k, D.pt wb j k → ¬ G k := fun j k hj => hn k (h.lt j k hj) (h.sep.inP hj)
  have hrow : ∀ {t : TypeId} {s n : Nat} {v : Value} {xs : List Value} (j : Nat) (hr : w.ownsRow 0 t s v n xs) (hv : ∀ k, v.ownBlock = some k → D.pt wb j k), w'.ownsRow 0 t s v n xs := fun j hr hv => row_same hr (fun k hk => hK.block k (row_lt hr k hk) (hno j k (hv k hk)))
  refine ⟨hK.box h.box (hno 5 _ rfl), h.iss.kept hK (fun k hk => hno 1 k hk), hK.box h.qbx (hno 7 _ rfl), hrow 8 h.qrow (fun k hk => by simp [Value.ownBlock] at hk; exact hk.symm), h.isr.kept hK (fun k hk => hno 2 k hk), hK.box h.lbx (hno 6 _ rfl), hrow 3 h.lrow (fun k hk => hk), hrow 4 h.trow (fun k hk => hk), hK.box h.xbx (hno 9 _ rfl), hK.box h.mbx (hno 10 _ rfl), hrow 11 h.arow (fun k hk => hk), ?_⟩
  obtain ⟨c, hc⟩ := h.sep.ex
  exact ⟨c, fun j k hj => ⟨(hc j k hj).1, hP' k (h.lt j k hj) (hc j k hj).2⟩⟩
theorem MS9.kept0 {w' : World} (h : MS9 w P wb D hot warm lsb vs Y) (hf : w.grownBy w' none) : MS9 w' P wb D hot warm lsb vs Y :=
  ⟨h.ms.kept0 hf, h.lsv, h.rl.kept0 hf, h.pr⟩
theorem MS9.hP (h : MS9 w P wb D hot warm lsb vs Y) (hP : ∀ k, w.heap.size ≤ k → P k) : ∀ k, w.heap.size ≤ k → P8 P lsb vs k := fun k hk => ⟨hP k hk, fun hR => by have := h.rl.lt k hR; omega⟩
/-- What is not the lists' is turned. -/
theorem MS9.step {w' : World} {D' : Wd} (h : MS9 w P wb D hot warm lsb vs Y) (hM : MS8 w' (P8 P lsb vs) wb D' hot warm) (hK : Kp (P8 P lsb vs) w w') (hl : D'.lsv = D.lsv) : MS9 w' P wb D' hot warm lsb vs Y ∧ Kp P w w' :=
  ⟨⟨hM, hl.trans h.lsv, h.rl.kept hK (fun k hR hP => hP.2 hR), h.pr⟩, hK.mono (fun k hk => .inl hk.1)⟩
theorem MS9.stepS {w' : World} (h : MS9 w P wb D hot warm lsb vs Y) (hP : ∀ k, w.heap.size ≤ k → P k) (hK : Kp D.F w w') {F' : Nat → Prop} {B' : Bl} {A' : Ab} {zs' : List Int} (hS : IsS w' D.sb F' B' 4 200 64 256 0 0 A' zs') (hF : ∀ k, F' k → D.F k ∨ w.heap.size ≤ k) : MS9 w' P wb { D with F := F', B := B', A := A', zs := zs' } hot warm lsb vs Y ∧ Kp P w w' :=
  h.step (h.ms.stepS (h.hP hP) hK hS hF) (hK.mono (fun k hk => .inl (h.ms.sep.inP (j := 1) hk))) rfl
theorem MS9.stepR {w' : World} (h : MS9 w P wb D hot warm lsb vs Y) (hP : ∀ k, w.heap.size ≤ k → P k) (hK : Kp D.G w w') {G' : Nat → Prop} {Q' : Rl} {R' : Rb} (hS : IsR w' D.rb G' Q' 200 64 256 R') (hG : ∀ k, G' k → D.G k ∨ w.heap.size ≤ k) : MS9 w' P wb { D with G := G', Q := Q', R := R' } hot warm lsb vs Y ∧ Kp P w w' :=
  h.step (h.ms.stepR (h.hP hP) hK hS hG) (hK.mono (fun k hk => .inl (h.ms.sep.inP (j := 2) hk))) rfl
theorem MS9.stepL {w' : World} (h : MS9 w P wb D hot warm lsb vs Y) (hP : ∀ k, w.heap.size ≤ k → P k) (hK : Kp (fun k => k = D.lb ∨ D.lv.ownBlock = some k) w w') {lv' : Value} {xl' : List Nat} (hb : Box w' 127 D.lb #[.pointer (some ⟨D.rb, 0, none⟩), lv', D.lsv]) (hr : w'.ownsRow 0 27 1 lv' xl'.length (uvs xl')) (hl : ∀ k, lv'.ownBlock = some k → D.lv.ownBlock = some k ∨ w.heap.size ≤ k) : MS9 w' P wb { D with lv := lv', xl := xl' } hot warm lsb vs Y ∧ Kp P w w' := by
  obtain ⟨h1, h2⟩ := h.ms.stepL (h.hP hP) hK hb hr hl
  exact h.step h1 h2 rfl
theorem MS9.stepT {w' : World} (h : MS9 w P wb D hot warm lsb vs Y) (hP : ∀ k, w.heap.size ≤ k → P k) (hf : w.grownBy w' D.tv.ownBlock) {tv' : Value} {xt' : List Nat} (hr : w'.ownsRow 0 27 1 tv' xt'.length (uvs xt')) (ht : ∀ k, tv'.ownBlock = some k → D.tv.ownBlock = some k ∨ w.heap.size ≤ k) :
    MS9 (w'.setCell ⟨wb, 6, none⟩ tv') P wb { D with tv := tv', xt := xt' } hot warm lsb vs Y ∧ Box w' 46 wb #[.pointer (some ⟨D.sb, 0, none⟩), .pointer (some ⟨D.qb, 0, none⟩), .pointer (some ⟨D.xb, 0, none⟩), .pointer (some ⟨D.rb, 0, none⟩), .pointer (some ⟨D.lb, 0, none⟩), .pointer (some ⟨D.mb, 0, none⟩), D.tv] ∧ Kp P w (w'.setCell ⟨wb, 6, none⟩ tv') ∧ Kp (fun k => k = wb ∨ D.tv.ownBlock = some k) w (w'.setCell ⟨wb, 6, none⟩ tv') := by
  obtain ⟨h1, h2, h3, h4⟩ := h.ms.stepT (h.hP hP) hf hr ht
  obtain ⟨g1, g2⟩ := h.step h1 h3 rfl
  exact ⟨g1, h2, g2, h4⟩
theorem MS9.stepQ {w' : World} (h : MS9 w P wb D hot warm lsb vs Y) (hK : Kp (fun k => D.F k ∨ k = D.gl) w w') {zs' : List Int} {L' : Ls} (hS : IsS w' D.sb D.F D.B 4 200 64 256 0 0 D.A zs') (hb : Box w' 169 D.qb #[.pointer (some ⟨D.sb, 0, none⟩), .slice (some ⟨D.gl, 0, none⟩) 3 D.gc]) (hr : w'.ownsRow 0 170 9 (.slice (some ⟨D.gl, 0, none⟩) 3 D.gc) 3 (rng 3 (lsC L'))) : MS9 w' P wb { D with zs := zs', L := L' } hot warm lsb vs Y ∧ Kp P w w' := by
  obtain ⟨h1, h2⟩ := h.ms.stepQ hK hS hb hr
  exact h.step h1 h2 rfl

/-- The document's lists and marks. -/
structure DS (w : World) (mb lb rb lsb : Nat) (lv : Value) (vs : Nat → Value) (Y : Nat → List Nat) (szb szc : Nat) (av : Value) (xa : List Nat) (hot warm : Nat) : Prop where
  rq : RQ w lb rb lsb lv vs Y szb szc
  mbx : Box w 104 mb #[.pointer (some ⟨lb, 0, none⟩), .int .i64 hot, .int .i64 warm, av]
  arow : w.ownsRow 0 27 1 av xa.length (uvs xa)
  nl : rb ≠ lsb
  nm : rb ≠ mb
  ap : ∀ i, i < 9 → ∀ k, (vs i).ownBlock = some k → av.ownBlock ≠ some k
theorem MS9.ds (h : MS9 w P wb D hot warm lsb vs Y) (hR : RFit D.R) (h3 : D.R.n = 3) : ∃ szb szc, DS w D.mb D.lb D.rb lsb D.lv vs Y szb szc D.av D.xa hot warm := by
  obtain ⟨sb, sc, ob, oc, vb, vc, hsv, hov, hrv⟩ := h.ms.isr.shapes hR.n0 hR.m0
  have c5 := h.ms.isr.sc 5
  simp [rset, hsv] at c5
  rw [h3] at c5
  have hb := h.ms.lbx
  rw [h.lsv] at hb
  refine ⟨sb, sc, ⟨hb, h.rl, c5⟩, h.ms.mbx, h.ms.arow, fun e => ?_, fun e => ?_, fun i hi k hk e => (h.ms.sep.inP (j := 11) e).2 (.inr ⟨i, hi, hk⟩)⟩
  · have := h.ms.sep.inP (j := 2) (k := D.rb) h.ms.isr.fb
    exact this.2 (.inl e)
  · have := h.ms.sep.ne (i := 2) (j := 10) (k := D.rb) h.ms.isr.fb e
    omega
/-- The document's side is turned. -/
theorem MS9.stepD {w' : World} (h : MS9 w P wb D hot warm lsb vs Y) (hP : ∀ k, w.heap.size ≤ k → P k) (hK : Kp (fun k => k = lsb ∨ k = D.mb) w w') {vs' : Nat → Value} {Y' : Nat → List Nat} {szb szc : Nat} {av' : Value} {xa' : List Nat} (hD : DS w' D.mb D.lb D.rb lsb D.lv vs' Y' szb szc av' xa' hot warm) (hv : ∀ i, i < 9 → NewV w.heap.size (vs i) (vs' i)) (ha : NewV w.heap.size D.av av') :
    MS9 w' P wb { D with av := av', xa := xa' } hot warm lsb vs' Y' ∧ Kp P w w' := by
  have hM := h.ms
  have hno : ∀ j k, D.pt wb j k → j ≠ 10 → ¬ (k = lsb ∨ k = D.mb) := fun j k hj hne e => by
    rcases e with e | e
    · exact (hM.sep.inP hj).2 (.inl e)
    · exact hne (hM.sep.ne hj (j := 10) e)
  have hrow : ∀ {t : TypeId} {s n : Nat} {v : Value} {xs : List Value} (j : Nat) (hr : w.ownsRow 0 t s v n xs) (hv : ∀ k, v.ownBlock = some k → D.pt wb j k) (hne : j ≠ 10), w'.ownsRow 0 t s v n xs := fun j hr hv hne => row_same hr (fun k hk => hK.block k (row_lt hr k hk) (hno j k (hv k hk) hne))
  have hlb : D.lsv = .slice (some ⟨lsb, 0, none⟩) 9 9 := h.lsv
  refine ⟨⟨⟨hK.box hM.box (hno 5 _ rfl (by decide)), hM.iss.kept hK (fun k hk => hno 1 k hk (by decide)), hK.box hM.qbx (hno 7 _ rfl (by decide)), hrow 8 hM.qrow (fun k hk => by simp [Value.ownBlock] at hk; exact hk.symm) (by decide), hM.isr.kept hK (fun k hk => hno 2 k hk (by decide)), ?_, hrow 3 hM.lrow (fun k hk => hk) (by decide), hrow 4 hM.trow (fun k hk => hk) (by decide), hK.box hM.xbx (hno 9 _ rfl (by decide)), hD.mbx, hD.arow, ?_⟩, h.lsv, hD.rq.rl, ?_⟩, ?_⟩
  · show Box w' 127 D.lb #[_, D.lv, D.lsv]
    rw [hlb]
    exact hD.rq.box
  · have hP9 := h.hP hP
    obtain ⟨c, hc⟩ := hM.sep.ex
    refine ⟨fun k => if k < w.heap.size then c k else 11, fun j k hj => ?_⟩
    have key : D.pt wb j k ∨ (j = 11 ∧ w.heap.size ≤ k) := by
      match j, hj with
      | 1, hj => exact .inl hj
      | 2, hj => exact .inl hj
      | 3, hj => exact .inl hj
      | 4, hj => exact .inl hj
      | 5, hj => exact .inl hj
      | 6, hj => exact .inl hj
      | 7, hj => exact .inl hj
      | 8, hj => exact .inl hj
      | 9, hj => exact .inl hj
      | 10, hj => exact .inl hj
      | 11, hj =>
        have hj2 : av'.ownBlock = some k := hj
        rcases ha with rfl | ha
        · exact .inl hj2
        · exact .inr ⟨rfl, ha k hj2⟩
    have hrk : ∀ k, k < w.heap.size → Rk lsb vs' k → Rk lsb vs k := by
      rintro k hk (rfl | ⟨i, hi, hb⟩)
      · exact .inl rfl
      · rcases hv i hi with e | e
        · rw [e] at hb; exact .inr ⟨i, hi, hb⟩
        · have := e k hb; omega
    rcases key with hj2 | ⟨rfl, hk⟩
    · have h2 := hM.lt j k hj2
      refine ⟨?_, (hc j k hj2).2.1, fun hR => (hc j k hj2).2.2 (hrk k h2 hR)⟩
      show (if k < w.heap.size then c k else 11) = j
      rw [if_pos h2]
      exact (hc j k hj2).1
    · refine ⟨if_neg (by omega), hP k hk, ?_⟩
      rintro (e | ⟨i, hi, hb⟩)
      · have := h.rl.blk.lt; omega
      · have h11 : av'.ownBlock = some k := hj
        exact hD.ap i hi k hb h11
  · rintro k (rfl | ⟨i, hi, hb⟩)
    · exact h.pr _ (.inl rfl)
    · rcases hv i hi with e | e
      · rw [e] at hb; exact h.pr k (.inr ⟨i, hi, hb⟩)
      · exact hP k (e k hb)
  · refine hK.mono (fun k hk => .inl ?_)
    rcases hk with rfl | rfl
    · exact h.pr _ (.inl rfl)
    · exact (hM.sep.inP (j := 10) (k := D.mb) rfl).1
end
end Go.Proofs.YtohneboimmcocaaGreat
/-
  The document's Lru: Set, Enter, Leave, Hit, Len.
-/
namespace Go.Proofs.YtohneboimmcocaaGreat
open Go.RowKit
set_option linter.unusedVariables false

section
variable {w : World} {mb lb rb lsb : Nat} {lv : Value} {vs : Nat → Value} {Y : Nat → List Nat} {szb szc : Nat} {av : Value} {xa : List Nat} {hot warm : Nat}
theorem DS.kept0 {w' : World} (h : DS w mb lb rb lsb lv vs Y szb szc av xa hot warm) (hf : w.grownBy w' none) : DS w' mb lb rb lsb lv vs Y szb szc av xa hot warm :=
  ⟨h.rq.kept0 hf, h.mbx.kept hf (by simp), row_kept h.arow hf (by simp), h.nl, h.nm, h.ap⟩
theorem DS.nml (h : DS w mb lb rb lsb lv vs Y szb szc av xa hot warm) : mb ≠ lsb := ne_of_type h.mbx h.rq.rl.blk (by decide)
/-- Some of its lists are others now. -/
theorem DS.lists {w' : World} (h : DS w mb lb rb lsb lv vs Y szb szc av xa hot warm) (hK : Kp (fun k => k = lsb) w w') {vs' : Nat → Value} {Y' : Nat → List Nat} (hq : RQ w' lb rb lsb lv vs' Y' szb szc) (hv : ∀ i, i < 9 → NewV w.heap.size (vs i) (vs' i)) : DS w' mb lb rb lsb lv vs' Y' szb szc av xa hot warm := by
  have hal := row_lt h.arow
  refine ⟨hq, hK.box h.mbx h.nml, row_same h.arow (fun k hk => hK.block k (hal k hk) (fun e => ?_)), h.nl, h.nm, fun i hi k hk e => ?_⟩
  · obtain ⟨cur, hc⟩ := row_block h.arow k hk
    exact ne_of_type hc h.rq.rl.blk (by decide) e
  · rcases hv i hi with e2 | e2
    · rw [e2] at hk; exact h.ap i hi k hk e
    · have := e2 k hk
      have := hal k e
      omega
theorem upV_new {vs : Nat → Value} {j N : Nat} {v : Value} (hn : ∀ k, v.ownBlock = some k → N ≤ k) : ∀ i, i < 9 → NewV N (vs i) (upV vs j v i) := fun i hi => by
  by_cases e : i = j
  · subst e
    exact .inr (by simpa [upV] using hn)
  · exact .inl (by simp [upV, e])
/-- Set. -/
theorem d_set (h : DS w mb lb rb lsb lv vs Y szb szc av xa hot warm) (hl : xa.length ≤ 1000000) (H : Nat) (on : Bool) :
    Calls Tryz.prog 65 #[.pointer (some ⟨mb, 0, none⟩), .int .u64 H, .bool on] w fun y w' => y = .returned (.tuple #[]) ∧ Kp (fun k => k = mb) w w' ∧ ∃ av', DS w' mb lb rb lsb lv vs Y szb szc av' (nox H xa ++ if on then [H] else []) hot warm ∧ NewV w.heap.size av av' := by
  refine (mset_65 h.mbx h.arow hl H on).mono ?_
  rintro y w' ⟨rfl, hK, av', g1, g2, g3⟩
  have hbl : ∀ j, j < 9 → ∀ k, (vs j).ownBlock = some k → k ≠ mb := fun j hj k hk e => by
    obtain ⟨cur, hc⟩ := row_block (h.rq.rl.ls j hj) k hk
    exact ne_of_type hc h.mbx (by decide) e
  refine ⟨rfl, hK, av', ⟨⟨hK.box h.rq.box (ne_of_type h.rq.box h.mbx (by decide)), ⟨hK.box h.rq.rl.blk (fun e => h.nml e.symm), fun j hj => row_same (h.rq.rl.ls j hj) (fun k hk => hK.block k (row_lt (h.rq.rl.ls j hj) k hk) (hbl j hj k hk)), h.rq.rl.ln⟩, ?_⟩, g1, g2, h.nl, h.nm, fun i hi k hk e => ?_⟩, .inr g3⟩
  · have hlt := World.block_lt_of_cell? _ _ h.rq.sz
    have hb := hK.block rb hlt h.nm
    have := h.rq.sz
    simpa [World.cell?, hb] using this
  · have h1 := g3 k e
    have h2 := row_lt (h.rq.rl.ls i hi) k hk
    omega

theorem nox_mem {H G : Nat} {xa : List Nat} {on : Bool} : G ∈ (nox H xa ++ if on then [H] else []) ↔ if G = H then on = true else G ∈ xa := by
  unfold nox
  by_cases e : G = H
  · subst e
    cases on <;> simp
  · cases on <;> simp [e]
theorem nox_len {H : Nat} {xa : List Nat} {on : Bool} : (nox H xa ++ if on then [H] else []).length ≤ xa.length + 1 := by
  have : (nox H xa).length ≤ xa.length := List.length_filter_le _ _
  rw [List.length_append]
  cases on <;> simp <;> omega
theorem nox_len0 {H : Nat} {xa : List Nat} : (nox H xa ++ if false then [H] else []).length ≤ xa.length := by
  have : (nox H xa).length ≤ xa.length := List.length_filter_le _ _
  simpa using this

/-- Enter that is refused. -/
theorem d_enter_no {er : Int} (her : er = 20 ∨ er = 8) (h : DS w mb lb rb lsb lv vs Y szb szc av xa hot warm) {H : Nat}
    (hp : Calls Tryz.prog 96 #[.pointer (some ⟨lb, 0, none⟩), .int .u64 H, .int .i64 ((0 : Nat) + 1), .bool false] w fun y w' => y = .returned (.int .i64 er) ∧ w.grownBy w' none) :
    Calls Tryz.prog 53 #[.pointer (some ⟨mb, 0, none⟩), .int .u64 H] w fun y w' => y = .returned (.int .i64 er) ∧ w.grownBy w' none := by
  have c0 := h.mbx.cell 0
  simp at c0
  simp only [show (((0 : Nat) : Int) + 1) = 1 from rfl] at hp
  clear h
  rcases her with rfl | rfl
  all_goals
    go_enter Tryz.func53, Tryz.ntmps53
    go_wp2_with (first | (go_at_call 96; go_must (refine hp.mono ?_); rintro y w1 ⟨rfl, hf1⟩) | fail)
    go_ret
    exact ⟨rfl, hf1⟩
/-- Enter. -/
theorem d_enter_yes (h : DS w mb lb rb lsb lv vs Y szb szc av xa hot warm) (hl : xa.length ≤ 1000000) {H c : Nat} {vs' : Nat → Value} {Y' : Nat → List Nat}
    (hp : Calls Tryz.prog 96 #[.pointer (some ⟨lb, 0, none⟩), .int .u64 H, .int .i64 ((0 : Nat) + 1), .bool false] w fun y w' => y = .returned (.int .i64 0) ∧ Kp (fun k => k = lsb) w w' ∧ ∃ vs', RQ w' lb rb lsb lv vs' Y' szb szc ∧ ∀ i, i < 9 → NewV w.heap.size (vs i) (vs' i)) :
    Calls Tryz.prog 53 #[.pointer (some ⟨mb, 0, none⟩), .int .u64 H] w fun y w' => y = .returned (.int .i64 0) ∧ Kp (fun k => k = lsb ∨ k = mb) w w' ∧ ∃ vs' av', DS w' mb lb rb lsb lv vs' Y' szb szc av' (nox H xa) hot warm ∧ (∀ i, i < 9 → NewV w.heap.size (vs i) (vs' i)) ∧ NewV w.heap.size av av' := by
  have c0 := h.mbx.cell 0
  simp at c0
  simp only [show (((0 : Nat) : Int) + 1) = 1 from rfl] at hp
  have hp2 := hp.mono (R' := fun y w1 => y = .returned (.int .i64 0) ∧ Hid (Kp (fun k => k = lsb) w w1 ∧ ∃ vs', DS w1 mb lb rb lsb lv vs' Y' szb szc av xa hot warm ∧ ∀ i, i < 9 → NewV w.heap.size (vs i) (vs' i))) (by
    rintro y w1 ⟨rfl, hK, vs1, hq, hv⟩
    exact ⟨rfl, hK, vs1, h.lists hK hq hv, hv⟩)
  have hst := fun W (hE : Hid (Kp (fun k => k = lsb) w W ∧ ∃ vs', DS W mb lb rb lsb lv vs' Y' szb szc av xa hot warm ∧ ∀ i, i < 9 → NewV w.heap.size (vs i) (vs' i))) => (show Calls Tryz.prog 65 #[.pointer (some ⟨mb, 0, none⟩), .int .u64 H, .bool false] W fun y w' => y = .returned (.tuple #[]) ∧ Hid (Kp (fun k => k = lsb ∨ k = mb) w w' ∧ ∃ vs' av', DS w' mb lb rb lsb lv vs' Y' szb szc av' (nox H xa) hot warm ∧ (∀ i, i < 9 → NewV w.heap.size (vs i) (vs' i)) ∧ NewV w.heap.size av av') by
    obtain ⟨hK1, vs1, hD1, hv1⟩ := hE.out
    refine (d_set hD1 hl H false).mono ?_
    rintro y w' ⟨rfl, hK2, av', hD2, ha⟩
    have e : (nox H xa ++ if false = true then [H] else []) = nox H xa := by simp
    rw [e] at hD2
    exact ⟨rfl, hK1.trans hK2 (fun k hk => .inl hk) (fun k hk => .inl (.inr hk)), vs1, av', hD2, hv1, (NewV.refl _ _).trans ha hK1.size⟩)
  have hC : ∀ W, Hid (Kp (fun k => k = lsb) w W ∧ ∃ vs', DS W mb lb rb lsb lv vs' Y' szb szc av xa hot warm ∧ ∀ i, i < 9 → NewV w.heap.size (vs i) (vs' i)) → W.cell? ⟨mb, 0, none⟩ = some (.pointer (some ⟨lb, 0, none⟩)) := fun W hE => by
    obtain ⟨hK1, vs1, hD1, hv1⟩ := hE.out
    exact hD1.mbx.cell 0
  clear h hp
  go_enter Tryz.func53, Tryz.ntmps53
  go_wp2_with (first | (go_at_call 96; go_must (refine hp2.mono ?_); rintro y w1 ⟨rfl, hE1⟩; (have c1 := hC _ hE1)) | (go_at_call 65; go_must (refine (hst _ hE1).mono ?_); rintro y w2 ⟨rfl, hE2⟩) | fail)
  go_ret
  exact ⟨rfl, hE2.out⟩
/-- Leave. -/
theorem d_leave {H : Nat} {er : Int} {R : World → Prop} (h : DS w mb lb rb lsb lv vs Y szb szc av xa hot warm) (hd : Calls Tryz.prog 97 #[.pointer (some ⟨lb, 0, none⟩), .int .u64 H] w fun y w' => y = .returned (.int .i64 er) ∧ R w') :
    Calls Tryz.prog 54 #[.pointer (some ⟨mb, 0, none⟩), .int .u64 H] w fun y w' => y = .returned (.int .i64 er) ∧ R w' := by
  have c0 := h.mbx.cell 0
  simp at c0
  clear h
  go_enter Tryz.func54, Tryz.ntmps54
  go_wp2_with (first | (go_at_call 97; go_must (refine hd.mono ?_); rintro y w1 ⟨rfl, hR⟩) | fail)
  go_ret
  exact ⟨rfl, hR⟩
/-- Hit. -/
theorem d_hit_no (h : DS w mb lb rb lsb lv vs Y szb szc av xa hot warm) {H : Nat} (hN : Nowhere Y H) :
    Calls Tryz.prog 55 #[.pointer (some ⟨mb, 0, none⟩), .int .u64 H] w fun y w' => y = .returned (.int .i64 20) ∧ w.grownBy w' none := by
  have c0 := h.mbx.cell 0
  simp at c0
  have hw := where_no h.rq hN
  clear h
  go_enter Tryz.func55, Tryz.ntmps55
  go_wp2_with (first | (go_at_call 50; go_must (refine hw.mono ?_); rintro y w1 ⟨rfl, rfl⟩) | fail)
  go_ret
  exact ⟨rfl, gb_refl _ _⟩
theorem d_hit_yes (h : DS w mb lb rb lsb lv vs Y szb szc av xa hot warm) (hl : xa.length ≤ 1000000) {H j : Nat} {U V : List Nat} (hS : Stands Y H j U V) :
    Calls Tryz.prog 55 #[.pointer (some ⟨mb, 0, none⟩), .int .u64 H] w fun y w' => y = .returned (.int .i64 0) ∧ Kp (fun k => k = mb) w w' ∧ ∃ av', DS w' mb lb rb lsb lv vs Y szb szc av' (nox H xa ++ [H]) hot warm ∧ NewV w.heap.size av av' := by
  have c0 := h.mbx.cell 0
  simp at c0
  have hw := where_yes h.rq hS
  have hst := (d_set h hl H true).mono (R' := fun y w' => y = .returned (.tuple #[]) ∧ Hid (Kp (fun k => k = mb) w w' ∧ ∃ av', DS w' mb lb rb lsb lv vs Y szb szc av' (nox H xa ++ [H]) hot warm ∧ NewV w.heap.size av av')) (by
    rintro y w' ⟨rfl, h1, av', h2, h3⟩
    exact ⟨rfl, h1, av', by simpa using h2, h3⟩)
  have hj : decide ((j : Int) < 0) = false := by simp
  have hj2 : ¬ (j : Int) < 0 := by omega
  clear h hS
  generalize U.length = ul at *
  go_enter Tryz.func55, Tryz.ntmps55
  go_wp2_with (first | (go_at_call 50; go_must (refine hw.mono ?_); rintro y w1 ⟨rfl, rfl⟩) | (go_at_call 65; go_must (refine hst.mono ?_); rintro y w2 ⟨rfl, hE⟩) | fail)
  go_ret
  exact ⟨rfl, hE.out⟩
/-- Len. -/
theorem d_len (h : DS w mb lb rb lsb lv vs Y szb szc av xa hot warm) {c : Nat} (hc : c < 3) :
    Calls Tryz.prog 42 #[.pointer (some ⟨mb, 0, none⟩), .int .i64 c] w fun y w' => y = .returned (.tuple #[.int .i64 (Y (3 * c)).length, .int .i64 (Y (3 * c + 1)).length, .int .i64 (Y (3 * c + 2)).length]) ∧ w.grownBy w' none := by
  have h0 := fun W (hf : w.grownBy W none) => len_84 (h.kept0 hf).rq hc (k := 0) (by omega)
  have h1 := fun W (hf : w.grownBy W none) => len_84 (h.kept0 hf).rq hc (k := 1) (by omega)
  have h2 := fun W (hf : w.grownBy W none) => len_84 (h.kept0 hf).rq hc (k := 2) (by omega)
  simp only [show ((0 : Nat) : Int) + 1 = 1 from rfl, show ((1 : Nat) : Int) + 1 = 2 from rfl, show ((2 : Nat) : Int) + 1 = 3 from rfl, Nat.add_zero] at h0 h1 h2
  have hC : ∀ W, w.grownBy W none → W.cell? ⟨mb, 0, none⟩ = some (.pointer (some ⟨lb, 0, none⟩)) := fun W hf => (h.kept0 hf).mbx.cell 0
  clear h
  generalize (Y (3 * c)).length = n0 at *
  generalize (Y (3 * c + 1)).length = n1 at *
  generalize (Y (3 * c + 2)).length = n2 at *
  have hdr : w.grownBy w.drew none := gb_drew (gb_refl _ _)
  go_enter Tryz.func42, Tryz.ntmps42
  go_wp2
  go_region_held3 (fun w' => w'.cell? ⟨mb, 0, none⟩ = some (.pointer (some ⟨lb, 0, none⟩))) ((first | with_reducible exact hC _ hf3 | with_reducible exact hC _ hf2 | with_reducible exact hC _ hf1 | with_reducible exact hC _ hdr | go_keep)) ((first | (go_at_call 84; with_reducible refine (h0 _ hdr).mono ?_; rintro y w1 ⟨rfl, hg1⟩; (have hf1 := gb_trans hdr hg1)) | (go_at_call 84; with_reducible refine (h1 _ hf1).mono ?_; rintro y w2 ⟨rfl, hg2⟩; (have hf2 := gb_trans hf1 hg2)) | (go_at_call 84; with_reducible refine (h2 _ hf2).mono ?_; rintro y w3 ⟨rfl, hg3⟩; (have hf3 := gb_trans hf2 hg3))))
  go_wp2
  go_ret3
  exact ⟨rfl, hf3⟩
theorem d_lenNo (h : DS w mb lb rb lsb lv vs Y szb szc av xa hot warm) {c : Int} (hc : ¬ (0 ≤ c ∧ c < 3)) :
    Calls Tryz.prog 42 #[.pointer (some ⟨mb, 0, none⟩), .int .i64 c] w fun y w' => y = .returned (.tuple #[.int .i64 0, .int .i64 0, .int .i64 0]) ∧ w.grownBy w' none := by
  have h0 := fun k W (hf : w.grownBy W none) => len_no (h.kept0 hf).rq (c := c) (k := k) (fun hh => hc ⟨hh.1, hh.2.1⟩)
  have hC : ∀ W, w.grownBy W none → W.cell? ⟨mb, 0, none⟩ = some (.pointer (some ⟨lb, 0, none⟩)) := fun W hf => (h.kept0 hf).mbx.cell 0
  clear h hc
  have hdr : w.grownBy w.drew none := gb_drew (gb_refl _ _)
  go_enter Tryz.func42, Tryz.ntmps42
  go_wp2
  go_region_held3 (fun w' => w'.cell? ⟨mb, 0, none⟩ = some (.pointer (some ⟨lb, 0, none⟩))) ((first | with_reducible exact hC _ hdr | go_keep)) ((first | (go_at_call 84; with_reducible refine (h0 1 _ hdr).mono ?_; rintro y w1 ⟨rfl, rfl⟩) | (go_at_call 84; with_reducible refine (h0 2 _ hdr).mono ?_; rintro y w2 ⟨rfl, rfl⟩) | (go_at_call 84; with_reducible refine (h0 3 _ hdr).mono ?_; rintro y w3 ⟨rfl, rfl⟩)))
  go_wp2
  go_ret3
  exact ⟨rfl, hdr⟩
end
end Go.Proofs.YtohneboimmcocaaGreat
