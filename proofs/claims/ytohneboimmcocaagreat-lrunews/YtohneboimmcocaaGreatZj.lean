import Derived.Test.YtohneboimmcocaaGreatRe
import Derived.Test.YtohneboimmcocaaGreatTh
import Derived.Test.YtohneboimmcocaaGreatZa
/-
  The document's Set and the program's speak of the same chunks.
-/
namespace Go.Proofs.YtohneboimmcocaaGreat
open Go.RowKit
set_option linter.unusedVariables false

structure Rep (A : Ab) (R : Rb) : Prop where
  ps : R.ps = A.ps
  m : R.m = A.m
  n : R.n = A.n
  sz : R.sz = A.sz
  ow : ∀ p, p < A.m → R.ow p = if p < A.np then (A.own p : Int) else -1
  at' : ∀ i, i < R.N → ∃ p k, p < A.np ∧ k < A.each (A.own p) ∧ R.pl i = A.place p k ∧ R.cl i = A.own p ∧ R.gn i = A.gen p k ∧ R.tk i = A.tkn p k
  inj : ∀ i j, i < R.N → j < R.N → R.pl i = R.pl j → i = j
  sur : ∀ p k, p < A.np → k < A.each (A.own p) → ∃ i, i < R.N ∧ R.pl i = A.place p k
  rlt : ∀ c, c < A.n → ∀ i, i ∈ R.row c → i < R.N
  row : ∀ c, c < A.n → (R.row c).map (fun i => R.pl i / 8 + 1) = A.row c
  nb : R.N ≤ A.np * (A.ps / 64)

theorem place_inj {A : Ab} (hA : Fit1 A) {p k q l : Nat} (hp : p < A.np) (hk : k < A.each (A.own p)) (hq : q < A.np) (hl : l < A.each (A.own q)) (h : A.place p k = A.place q l) : p = q ∧ k = l :=
  num_inj hA hp hk hq hl (by unfold Ab.num; rw [h])

section
variable {A : Ab} {R : Rb}
/-- The document's chunk of a place. -/
theorem Rep.of (h : Rep A R) (hA : Fit1 A) {p k i : Nat} (hi : i < R.N) (hp : p < A.np) (hk : k < A.each (A.own p)) (he : R.pl i = A.place p k) : R.cl i = A.own p ∧ R.gn i = A.gen p k ∧ R.tk i = A.tkn p k ∧ R.hdl i = A.hdl p k := by
  obtain ⟨q, l, hq, hl, e1, e2, e3, e4⟩ := h.at' i hi
  obtain ⟨rfl, rfl⟩ := place_inj hA hp hk hq hl (by rw [← he, e1])
  refine ⟨e2, e3, e4, ?_⟩
  unfold Rb.hdl Ab.hdl Ab.num
  rw [e3, e1]
theorem Rep.last (h : Rep A R) (hA : Fit1 A) {c p k : Nat} (hc : c < A.n) (hp : p < A.np) (ho : A.own p = c) (hk : k < A.each c) (hl : (A.row c).getLast? = some (A.num p k)) :
    ∃ x n, x < R.N ∧ R.pl x = A.place p k ∧ (R.row c).length = n + 1 ∧ (ixs (R.row c))[n]? = some (.int .i64 (x : Int)) := by
  have hr := h.row c hc
  rw [← hr, List.getLast?_map] at hl
  cases hx : (R.row c).getLast? with
  | none => rw [hx] at hl; simp at hl
  | some x =>
    rw [hx] at hl
    simp only [Option.map_some, Option.some.injEq] at hl
    have hm : x ∈ R.row c := List.mem_of_getLast? hx
    have hxN := h.rlt c hc x hm
    obtain ⟨q, l, hq, hl2, e1, _⟩ := h.at' x hxN
    have e2 : A.num q l = A.num p k := by unfold Ab.num at hl ⊢; rw [← e1]; exact hl
    obtain ⟨rfl, rfl⟩ := num_inj hA hq hl2 hp (ho ▸ hk) e2
    have hne : R.row c ≠ [] := fun e => by rw [e] at hx; simp at hx
    have hlen : 0 < (R.row c).length := List.length_pos_iff.2 hne
    refine ⟨x, (R.row c).length - 1, hxN, e1, by omega, ?_⟩
    rw [List.getLast?_eq_getElem?] at hx
    simp [ixs, hx]
theorem taken_place (A : Ab) (c p k q l : Nat) : (A.taken c p k).place q l = A.place q l := rfl
theorem Rep.took (h : Rep A R) (hA : Fit1 A) {c p k x : Nat} (hc : c < A.n) (hp : p < A.np) (ho : A.own p = c) (hk : k < A.each c) (hx : x < R.N) (he : R.pl x = A.place p k) : Rep (A.taken c p k) (R.took c x) := by
  refine ⟨h.ps, h.m, h.n, h.sz, h.ow, fun i hi => ?_, h.inj, h.sur, fun c2 hc2 i hi => ?_, fun c2 hc2 => ?_, h.nb⟩
  · obtain ⟨q, l, hq, hl, e1, e2, e3, e4⟩ := h.at' i hi
    refine ⟨q, l, hq, hl, e1, e2, e3, ?_⟩
    show upd R.tk x true i = upd2 A.tkn p k true q l
    by_cases e : i = x
    · subst e
      obtain ⟨rfl, rfl⟩ := place_inj hA hq hl hp (ho ▸ hk) (by rw [← e1, he])
      rw [upd_same]
      simp [upd2]
    · rw [upd_other _ _ e, e4]
      have hne : ¬ (q = p ∧ l = k) := by
        rintro ⟨rfl, rfl⟩
        exact e (h.inj i x hi hx (by rw [e1, he]))
      simp only [upd2, if_neg hne]
  · have hi2 : i ∈ upd R.row c (R.row c).dropLast c2 := hi
    by_cases e : c2 = c
    · subst e
      rw [upd_same] at hi2
      exact h.rlt c2 hc2 i (List.dropLast_subset _ hi2)
    · rw [upd_other _ _ e] at hi2
      exact h.rlt c2 hc2 i hi2
  · show (upd R.row c (R.row c).dropLast c2).map (fun i => R.pl i / 8 + 1) = upd A.row c (A.row c).dropLast c2
    by_cases e : c2 = c
    · subst e
      rw [upd_same, upd_same, List.map_dropLast, h.row c2 hc2]
    · rw [upd_other _ _ e, upd_other _ _ e, h.row c2 hc2]
theorem Rep.paged (h : Rep A R) (hI : Inv A) {c : Nat} (hc : c < A.n) (hm : A.np < A.m) : Rep (A.owned c) (R.page c A.np) := by
  have hA := hI.fit.toFit1
  have hlo := hI.lo c hc
  have hee : R.ps / R.sz c = A.each c := by unfold Ab.each; rw [h.ps, h.sz]
  obtain ⟨g1, g2, g3, g4, g5, g6, g7⟩ := page_facts R c A.np
  have pold := page_old R c A.np
  have pnew := page_new R c A.np
  rw [hee] at g1 g6 pnew
  have hopl : ∀ q l, q < A.np → (A.owned c).place q l = A.place q l := fun q l hq => by
    unfold Ab.place
    rw [owned_ps, owned_sz, owned_own, if_neg (by omega)]
  have hopn : ∀ l, (A.owned c).place A.np l = A.np * A.ps + l * A.sz c := fun l => by
    unfold Ab.place
    rw [owned_ps, owned_sz, owned_own, if_pos rfl]
  have hplo : ∀ i, i < R.N → R.pl i < A.np * A.ps := fun i hi => by
    obtain ⟨q, l, hq, hl, e1, _⟩ := h.at' i hi
    have h1 := (place_div hA hq hl).2.2
    have h2 : (q + 1) * A.ps ≤ A.np * A.ps := Nat.mul_le_mul_right _ hq
    have h3 := hI.lo _ (hI.on q hq)
    rw [e1]; omega
  have hcase : ∀ i, i < (R.page c A.np).N → i < R.N ∨ ∃ k, k < A.each c ∧ i = R.N + k := fun i hi => by
    rw [g1] at hi
    rcases Nat.lt_or_ge i R.N with h1 | h1
    · exact .inl h1
    · exact .inr ⟨i - R.N, by omega, by omega⟩
  refine ⟨by rw [g2, owned_ps, h.ps], by rw [g5, owned_m, h.m], by rw [g4, owned_n, h.n], by rw [g3, h.sz]; funext j; rw [owned_sz], fun p hp => ?_, fun i hi => ?_, fun i j hi hj he => ?_, fun p k hp hk => ?_, fun c2 hc2 i hi => ?_, fun c2 hc2 => ?_, ?_⟩
  · rw [g7, owned_np, owned_own]
    rw [owned_m] at hp
    by_cases e : p = A.np
    · subst e
      rw [upd_same, if_pos (by omega), if_pos rfl]
    · rw [upd_other _ _ e, h.ow p hp, if_neg e]
      by_cases e2 : p < A.np
      · rw [if_pos e2, if_pos (by omega)]
      · rw [if_neg e2, if_neg (by omega)]
  · rcases hcase i hi with h1 | ⟨k, hk, rfl⟩
    · obtain ⟨q, l, hq, hl, e1, e2, e3, e4⟩ := h.at' i h1
      obtain ⟨o1, o2, o3, o4⟩ := pold i h1
      refine ⟨q, l, by rw [owned_np]; omega, by rw [owned_each, owned_own, if_neg (by omega)]; exact hl, by rw [o1, e1, hopl q l hq], by rw [o2, e2, owned_own, if_neg (by omega)], by rw [o3, e3, owned_gen, if_neg (by omega)], by rw [o4, e4, owned_tkn, if_neg (by omega)]⟩
    · obtain ⟨o1, o2, o3, o4⟩ := pnew k hk
      refine ⟨A.np, k, by rw [owned_np]; omega, by rw [owned_each, owned_own, if_pos rfl]; exact hk, by rw [o1, hopn, h.ps, h.sz], by rw [o2, owned_own, if_pos rfl], by rw [o3, owned_gen, if_pos rfl], by rw [o4, owned_tkn, if_pos rfl]⟩
  · rcases hcase i hi with h1 | ⟨k, hk, rfl⟩ <;> rcases hcase j hj with h2 | ⟨l, hl, rfl⟩
    · rw [(pold i h1).1, (pold j h2).1] at he
      exact h.inj i j h1 h2 he
    · rw [(pold i h1).1, (pnew l hl).1, h.ps] at he
      have := hplo i h1
      omega
    · rw [(pold j h2).1, (pnew k hk).1, h.ps] at he
      have := hplo j h2
      omega
    · rw [(pnew k hk).1, (pnew l hl).1, h.sz] at he
      have : k * A.sz c = l * A.sz c := by omega
      have := Nat.eq_of_mul_eq_mul_right (by omega) this
      omega
  · rw [owned_np] at hp
    by_cases e : p = A.np
    · subst e
      rw [owned_each, owned_own, if_pos rfl] at hk
      exact ⟨R.N + k, by rw [g1]; omega, by rw [(pnew k hk).1, hopn, h.ps, h.sz]⟩
    · rw [owned_each, owned_own, if_neg e] at hk
      obtain ⟨i, hi, e1⟩ := h.sur p k (by omega) hk
      exact ⟨i, by rw [g1]; omega, by rw [(pold i hi).1, e1, hopl p k (by omega)]⟩
  · rw [owned_n] at hc2
    rw [g6] at hi
    rw [g1]
    by_cases e : c2 = c
    · subst e
      rw [upd_same] at hi
      rcases List.mem_append.1 hi with h1 | h1
      · have := h.rlt c2 hc2 i h1
        omega
      · simp [dwn] at h1
        obtain ⟨a, ha, rfl⟩ := h1
        omega
    · rw [upd_other _ _ e] at hi
      have := h.rlt c2 hc2 i hi
      omega
  · rw [owned_n] at hc2
    rw [g6, owned_row]
    have hold : ∀ c3, c3 < A.n → (R.row c3).map (fun i => (R.page c A.np).pl i / 8 + 1) = A.row c3 := fun c3 hc3 => by
      rw [← h.row c3 hc3]
      exact List.map_congr_left fun i hi => by rw [(pold i (h.rlt c3 hc3 i hi)).1]
    by_cases e : c2 = c
    · subst e
      rw [upd_same, if_pos rfl, List.map_append, hold c2 hc2]
      congr 1
      unfold dwn Ab.nums
      rw [List.map_map]
      refine List.map_congr_left fun k hk => ?_
      simp at hk
      show (R.page c2 A.np).pl (R.N + k) / 8 + 1 = _
      rw [(pnew k hk).1, h.ps, h.sz]
    · rw [upd_other _ _ e, if_neg e, hold c2 hc2]
  · rw [g1, owned_np, owned_ps, Nat.add_mul, Nat.one_mul]
    have h1 := h.nb
    have h2 : A.each c ≤ A.ps / 64 := by unfold Ab.each; exact Nat.div_le_div_left hlo (by omega)
    omega
end

section
variable {w w' : World} {rb : Nat} {F : Nat → Prop} {Q : Rl} {c d e : Int} {R : Rb}
set_option maxRecDepth 100000 in
set_option maxHeartbeats 2000000 in
theorem rtake_row (h : IsR w rb F Q c d e R) (hR : RFit R) {i x n1 : Nat} (hi : i < R.n) (hrl : (R.row i).length = n1 + 1) (hlast : (ixs (R.row i))[n1]? = some (.int .i64 (x : Int))) (hx : x < R.N) :
    Calls Tryz.prog 89 #[.pointer (some ⟨rb, 0, none⟩), .int .i64 i] w fun y w' => y = .returned (.tuple #[.int .u64 (R.hdl x), .int .i64 0]) ∧ Kp F w w' ∧ ∃ Q', IsR w' rb F Q' c d e (R.took i x) := by
  have his := (ris_yes h hi).mono (R' := fun y w2 => ∃ (vb vc gg cap cb cc : Nat), y = .returned (.bool true) ∧ n1 + 1 ≤ cap ∧ cap ≤ maxLen ∧
      w2.cell? ⟨rb, 8, none⟩ = some (.slice (some ⟨vb, 0, none⟩) R.n vc) ∧ w2.cell? ⟨vb, i, none⟩ = some (.slice (some ⟨gg, 0, none⟩) (n1 + 1) cap) ∧ w2.cell? ⟨gg, n1, none⟩ = some (.int .i64 (x : Int)) ∧ w2.drew.frozen? ⟨vb, i, none⟩ = false ∧
      (∀ v, (w2.drew.setCell ⟨vb, i, none⟩ v).frozen? ⟨cb, x * 4 + 3, none⟩ = false) ∧ (∀ v, (w2.drew.setCell ⟨vb, i, none⟩ v).cell? ⟨rb, 7, none⟩ = some (.slice (some ⟨cb, 0, none⟩) R.N cc)) ∧ (∃ tt, ∀ v, (w2.drew.setCell ⟨vb, i, none⟩ v).cell? ⟨cb, x * 4 + 3, none⟩ = some (.bool tt)) ∧
      Hid (w.grownBy w2 none ∧ (∃ Q', IsR ((w2.drew.setCell ⟨vb, i, none⟩ (.slice (some ⟨gg, 0, none⟩) n1 cap)).setCell ⟨cb, x * 4 + 3, none⟩ (.bool true)) rb F Q' c d e (R.took i x)) ∧ Kp F w2.drew ((w2.drew.setCell ⟨vb, i, none⟩ (.slice (some ⟨gg, 0, none⟩) n1 cap)).setCell ⟨cb, x * 4 + 3, none⟩ (.bool true)))) (by
    rintro y w2 ⟨rfl, hf⟩
    have hS := (h.kept0 hf).kept0 (gb_drew (gb_refl w2 none))
    obtain ⟨vb2, vc2, gg, cap, cb, cc, a1, a2, a3, k1, k2, b1, b2, b3, b4, b5, b6, b7, b8, b9⟩ := take_cells hS hR (i := i) (n := n1) (x := x) hi hrl hlast hx
    have hT2 := hS.took (i := i) (n := n1) (x := x) hi hrl hx a1 a2 a3
    exact ⟨vb2, vc2, gg, cap, cb, cc, rfl, k1, k2, b1, b2, b3, b4, b7, b8, ⟨_, b9⟩, hf, hT2.1, hT2.2⟩)
  have hhd := fun W Q2 (hS : IsR W rb F Q2 c d e (R.took i x)) => rhandle_any hS (took_fit hR i x) (i := x) hx
  have hhe : (R.took i x).hdl x = R.hdl x := rfl
  rw [hhe] at hhd
  have hiz : (i : Int) < (R.n : Int) := by omega
  have hN := hR.N
  have hrb := hR.rl i hi
  have hNz : (x : Int) < (R.N : Int) := by omega
  generalize R.hdl x = H at *
  clear h hR hlast hhe
  go_enter Tryz.func89, Tryz.ntmps89
  go_wp2_with (first | (go_at_call 132; go_must (refine his.mono ?_); rintro y w2 ⟨vb2, vc2, gg, cap, cb, cc, rfl, k1, k2, b1, b2, b3, b4, b7, b8, ⟨tt, b9⟩, hE⟩; (have hnz : ¬ n1 + 1 = 0 := by omega)) | fail)
  have hnc : n1 ≤ cap := by omega
  have d7 := b7 (.slice (some ⟨gg, 0, none⟩) n1 cap)
  have d8 := b8 (.slice (some ⟨gg, 0, none⟩) n1 cap)
  have d9 := b9 (.slice (some ⟨gg, 0, none⟩) n1 cap)
  clear b7 b8 b9
  go_region_law (fail)
  all_goals
    have hcm : (w2.setCell ⟨vb2, i, none⟩ (.slice (some ⟨gg, 0, none⟩) n1 cap)).drew = w2.drew.setCell ⟨vb2, i, none⟩ (.slice (some ⟨gg, 0, none⟩) n1 cap) := by first | rfl | simp
    rw [hcm]
    clear hcm
    generalize w2.drew.setCell ⟨vb2, i, none⟩ (.slice (some ⟨gg, 0, none⟩) n1 cap) = W3 at *
    go_wp2_with (first | (go_at_call 121; go_must (refine (hhd _ hE.out.2.1.choose hE.out.2.1.choose_spec).mono ?_); rintro y w5 ⟨rfl, hf5⟩) | fail)
    go_ret2
    obtain ⟨hf, ⟨Q', hS'⟩, hK2⟩ := hE.out
    refine ⟨rfl, ?_, Q', hS'.kept0 hf5⟩
    exact (((Kp.of hf).step (gb_drew (gb_refl _ none)) (by simp)).trans hK2 (fun _ h => h) (fun k hk => .inl hk)).step hf5 (by simp)
end
end Go.Proofs.YtohneboimmcocaaGreat
