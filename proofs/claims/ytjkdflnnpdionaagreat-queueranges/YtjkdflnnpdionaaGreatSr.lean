import Derived.Test.YtjkdflnnpdionaaGreatSq
/-
  The invariant behind a page more.
-/
namespace Go.Proofs.YtjkdflnnpdionaaGreat
open Go.RowKit
set_option linter.unusedVariables false

theorem mem_nums {A : Ab} {i x : Nat} : x ∈ A.nums i 0 ↔ ∃ k, k < A.each i ∧ x = (A.np * A.ps + k * A.sz i) / 8 + 1 := by
  simp only [Ab.nums, List.drop_zero, List.mem_map, List.mem_reverse, List.mem_range]
  constructor
  · rintro ⟨k, h1, h2⟩; exact ⟨k, h1, h2.symm⟩
  · rintro ⟨k, h1, h2⟩; exact ⟨k, h1, h2.symm⟩
theorem nums_inj {A : Ab} (hA : Szs A) {i : Nat} (hi : i < A.n) {k l : Nat} (h : (A.np * A.ps + k * A.sz i) / 8 + 1 = (A.np * A.ps + l * A.sz i) / 8 + 1) : k = l := by
  have h8 := hA.m8 i hi
  have hlo := hA.lo i hi
  have hps := hA.ps0
  have e1 : A.np * A.ps % 8 = 0 := by rw [Nat.mul_mod, hps.2.2]; simp
  have e2 : k * A.sz i % 8 = 0 := by rw [Nat.mul_mod, h8]; simp
  have e3 : l * A.sz i % 8 = 0 := by rw [Nat.mul_mod, h8]; simp
  exact Nat.eq_of_mul_eq_mul_right (show 0 < A.sz i by omega) (by omega)
theorem nodup_nums {A : Ab} (hA : Szs A) {i : Nat} (hi : i < A.n) : (A.nums i 0).Nodup := by
  unfold Ab.nums
  rw [List.drop_zero]
  have h0 : (List.range (A.each i)).Pairwise (· ≠ ·) := List.nodup_range
  have h1 : (List.range (A.each i)).reverse.Pairwise (· ≠ ·) := by
    rw [List.pairwise_reverse]; exact h0.imp fun h => h.symm
  show List.Pairwise (· ≠ ·) _
  rw [List.pairwise_map]
  exact h1.imp fun {a b} hab e => hab (nums_inj hA hi e)
theorem length_nums (A : Ab) (i : Nat) : (A.nums i 0).length = A.each i := by simp [Ab.nums]

section
variable {A : Ab} {i : Nat}
theorem owned_row (j : Nat) : (A.owned i).row j = if j = i then A.row i ++ A.nums i 0 else A.row j := by simp only [Ab.owned, Ab.pushes, Ab.page, upd]
theorem owned_tkn (q l : Nat) : (A.owned i).tkn q l = if q = A.np then false else A.tkn q l := by simp only [Ab.owned, Ab.pushes, Ab.page]
theorem owned_gen (q l : Nat) : (A.owned i).gen q l = if q = A.np then 0 else A.gen q l := by simp only [Ab.owned, Ab.pushes, Ab.page]
theorem owned_own (q : Nat) : (A.owned i).own q = if q = A.np then i else A.own q := by simp only [Ab.owned, Ab.pushes, Ab.page, upd]
theorem owned_tk (j : Nat) : (A.owned i).tk j = A.tk j := by simp only [Ab.owned, Ab.pushes, Ab.page]
theorem owned_np : (A.owned i).np = A.np + 1 := by simp only [Ab.owned, Ab.pushes, Ab.page]
theorem owned_n : (A.owned i).n = A.n := by simp only [Ab.owned, Ab.pushes, Ab.page]
theorem owned_m : (A.owned i).m = A.m := by simp only [Ab.owned, Ab.pushes, Ab.page]
theorem owned_ps : (A.owned i).ps = A.ps := by simp only [Ab.owned, Ab.pushes, Ab.page]
theorem owned_sz (j : Nat) : (A.owned i).sz j = A.sz j := by simp only [Ab.owned, Ab.pushes, Ab.page]
theorem owned_each (j : Nat) : (A.owned i).each j = A.each j := by simp only [Ab.each, owned_ps, owned_sz]
theorem owned_num (q l : Nat) (h : q < A.np) : (A.owned i).num q l = A.num q l := by
  simp only [Ab.num, Ab.place, owned_ps, owned_sz, owned_own]
  rw [if_neg (by omega)]
theorem owned_num2 (l : Nat) : (A.owned i).num A.np l = (A.np * A.ps + l * A.sz i) / 8 + 1 := by
  simp only [Ab.num, Ab.place, owned_ps, owned_sz, owned_own, if_true]

theorem owned_szs (h : Szs A) : Szs (A.owned i) := by
  refine ⟨?_, ?_, ?_, ?_, ?_, ?_, ?_, ?_⟩
  · rw [owned_n]; exact h.n1
  · rw [owned_n]; exact h.n2
  · intro j hj; rw [owned_n] at hj; rw [owned_sz]; exact h.lo j hj
  · intro j hj; rw [owned_n] at hj; rw [owned_sz, owned_ps]; exact h.hi j hj
  · intro j hj; rw [owned_n] at hj; rw [owned_sz]; exact h.m8 j hj
  · intro j l hjl hl; rw [owned_n] at hl; rw [owned_sz, owned_sz]; exact h.up j l hjl hl
  · rw [owned_ps]; exact h.pp
  · rw [owned_m]; exact h.mm

theorem Inv.own (h : Inv A) (hi : i < A.n) (hnp : A.np < A.m) : Inv (A.owned i) := by
  have hS := owned_szs (i := i) h.toSzs
  have hon : ∀ p, p < (A.owned i).np → (A.owned i).own p < (A.owned i).n := by
    intro p hp
    rw [owned_np] at hp
    rw [owned_own, owned_n]
    by_cases e : p = A.np
    · rw [if_pos e]; exact hi
    · rw [if_neg e]; exact h.on p (by omega)
  have hcount : ∀ j, ((List.range (A.np + 1)).countP fun p => (A.owned i).own p = j) = ((List.range A.np).countP fun p => A.own p = j) + (if j = i then 1 else 0) := by
    intro j
    rw [List.range_succ, List.countP_append]
    have e1 : ((List.range A.np).countP fun p => (A.owned i).own p = j) = ((List.range A.np).countP fun p => A.own p = j) := by
      apply List.countP_congr
      intro p hp
      simp at hp
      rw [owned_own, if_neg (by omega)]
    rw [e1]
    congr 1
    simp only [List.countP_cons, List.countP_nil, owned_own, if_true]
    by_cases e : j = i
    · subst e; simp
    · have : ¬ i = j := fun e2 => e e2.symm
      simp [e, this]
  -- numbers fit, so that chunks are told by them
  have hfit : Fit1 (A.owned i) := by
    refine ⟨⟨hS, by rw [owned_np, owned_m]; omega, fun c hc => ?_⟩, hon⟩
    rw [owned_n] at hc
    rw [owned_row, owned_tk]
    have h1 := h.rl c hc
    have h2 : ((List.range A.np).countP fun p => A.own p = c) ≤ A.np := by
      have := List.countP_le_length (p := fun p => decide (A.own p = c)) (l := List.range A.np)
      simpa using this
    have h3 := h.mm
    have h4 := (h.toSzs.each hc).2.1
    have h5 : (A.np + 1) * A.each c ≤ 1024 * 16384 := Nat.mul_le_mul (by omega) h4
    have h6 : ((List.range A.np).countP fun p => A.own p = c) * A.each c ≤ A.np * A.each c := Nat.mul_le_mul_right _ h2
    rw [Nat.add_mul, Nat.one_mul] at h5
    by_cases e : c = i
    · subst e
      rw [if_pos rfl, List.length_append, length_nums]
      omega
    · rw [if_neg e]; omega
  refine ⟨hS, by rw [owned_np, owned_m]; omega, hon, ?_, ?_, ?_, ?_, ?_, ?_⟩
  · intro p k
    rw [owned_gen]
    by_cases e : p = A.np
    · rw [if_pos e]; omega
    · rw [if_neg e]; exact h.gn p k
  · intro c hc x hx
    rw [owned_n] at hc
    rw [owned_row] at hx
    have old : x ∈ A.row c → ∃ p k, p < (A.owned i).np ∧ (A.owned i).own p = c ∧ k < (A.owned i).each c ∧ x = (A.owned i).num p k ∧ (A.owned i).tkn p k = false := by
      intro hx
      obtain ⟨p, k, h1, h2, h3, h4, h5⟩ := h.rs c hc x hx
      refine ⟨p, k, by rw [owned_np]; omega, ?_, by rw [owned_each]; exact h3, by rw [owned_num p k h1]; exact h4, ?_⟩
      · rw [owned_own, if_neg (by omega)]; exact h2
      · rw [owned_tkn, if_neg (by omega)]; exact h5
    by_cases e : c = i
    · subst e
      rw [if_pos rfl, List.mem_append] at hx
      rcases hx with hx | hx
      · exact old hx
      · obtain ⟨k, h1, h2⟩ := mem_nums.1 hx
        refine ⟨A.np, k, by rw [owned_np]; omega, by rw [owned_own, if_pos rfl], by rw [owned_each]; exact h1, by rw [owned_num2]; exact h2, by rw [owned_tkn, if_pos rfl]⟩
    · rw [if_neg e] at hx; exact old hx
  · intro p k hp hk ht
    rw [owned_np] at hp
    rw [owned_each, owned_own] at hk
    rw [owned_own]
    by_cases e : p = A.np
    · subst e
      rw [if_pos rfl] at hk ⊢
      rw [owned_num2, owned_row, if_pos rfl, List.mem_append]
      exact .inr (mem_nums.2 ⟨k, hk, rfl⟩)
    · have hp' : p < A.np := by omega
      rw [if_neg e] at hk ⊢
      rw [owned_tkn, if_neg e] at ht
      rw [owned_num p k hp', owned_row]
      have h1 := h.rc p k hp' hk ht
      by_cases e2 : A.own p = i
      · rw [if_pos e2, List.mem_append]; rw [e2] at h1; exact .inl h1
      · rw [if_neg e2]; exact h1
  · intro c hc
    rw [owned_n] at hc
    rw [owned_row]
    by_cases e : c = i
    · subst e
      rw [if_pos rfl, List.nodup_append]
      refine ⟨h.nd c hc, nodup_nums h.toSzs hc, ?_⟩
      intro x hx y hy exy
      subst exy
      obtain ⟨p, k, h1, h2, h3, h4, h5⟩ := h.rs c hc x hx
      obtain ⟨l, h6, h7⟩ := mem_nums.1 hy
      have := num_inj hfit (p := p) (k := k) (q := A.np) (l := l) (by rw [owned_np]; omega) (by rw [owned_each, owned_own, if_neg (by omega), h2]; exact h3) (by rw [owned_np]; omega) (by rw [owned_each, owned_own, if_pos rfl]; exact h6) (by rw [owned_num p k h1, owned_num2, ← h4, ← h7])
      omega
    · rw [if_neg e]; exact h.nd c hc
  · intro c hc
    rw [owned_n] at hc
    rw [owned_tk, h.tc c hc]
    unfold Ab.tkc
    rw [owned_np, List.range_succ, List.map_append, List.sum_append]
    have e1 : (List.range A.np).map (fun p => if (A.owned i).own p = c then (A.owned i).tkp p else 0) = (List.range A.np).map (fun p => if A.own p = c then A.tkp p else 0) := by
      refine List.map_congr_left fun p hp => ?_
      simp at hp
      have hne : p ≠ A.np := by omega
      have e2 : (A.owned i).tkp p = A.tkp p := by
        unfold Ab.tkp
        rw [owned_own, if_neg hne, owned_each]
        exact List.countP_congr fun k _ => by rw [owned_tkn, if_neg hne]
      rw [owned_own, if_neg hne, e2]
    rw [e1]
    have e3 : (A.owned i).tkp A.np = 0 := by
      unfold Ab.tkp
      rw [List.countP_eq_zero]
      intro k _
      rw [owned_tkn, if_pos rfl]; simp
    simp [e3]
  · intro c hc
    rw [owned_n] at hc
    have h1 := h.rl c hc
    rw [owned_np, owned_each, hcount, owned_row, owned_tk]
    by_cases e : c = i
    · subst e
      rw [if_pos rfl, if_pos rfl, List.length_append, length_nums, Nat.add_mul, Nat.one_mul, ← h1]
      omega
    · rw [if_neg e, if_neg e, Nat.add_zero]; exact h1
end

end Go.Proofs.YtjkdflnnpdionaaGreat
