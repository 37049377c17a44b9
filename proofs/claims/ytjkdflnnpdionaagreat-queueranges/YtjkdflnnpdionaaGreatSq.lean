import Derived.Test.YtjkdflnnpdionaaGreatMe
/-
  What holds of a Set at every moment.
-/
namespace Go.Proofs.YtjkdflnnpdionaaGreat
open Go.RowKit
set_option linter.unusedVariables false

/-- How many chunks of a page are taken. -/
def Ab.tkp (A : Ab) (p : Nat) : Nat := (List.range (A.each (A.own p))).countP (A.tkn p)
/-- How many of a class. -/
def Ab.tkc (A : Ab) (c : Nat) : Nat := ((List.range A.np).map fun p => if A.own p = c then A.tkp p else 0).sum

/-- The invariant. -/
structure Inv (A : Ab) : Prop extends Szs A where
  nm : A.np ≤ A.m
  on : ∀ p, p < A.np → A.own p < A.n
  gn : ∀ p k, A.gen p k < 4294967296
  rs : ∀ c, c < A.n → ∀ x, x ∈ A.row c → ∃ p k, p < A.np ∧ A.own p = c ∧ k < A.each c ∧ x = A.num p k ∧ A.tkn p k = false
  rc : ∀ p k, p < A.np → k < A.each (A.own p) → A.tkn p k = false → A.num p k ∈ A.row (A.own p)
  nd : ∀ c, c < A.n → (A.row c).Nodup
  tc : ∀ c, c < A.n → A.tk c = A.tkc c
  rl : ∀ c, c < A.n → (A.row c).length + A.tk c = ((List.range A.np).countP fun p => A.own p = c) * A.each c

theorem Inv.fit {A : Ab} (h : Inv A) : Fit2 A := by
  refine ⟨⟨⟨h.toSzs, h.nm, fun c hc => ?_⟩, h.on⟩, h.gn⟩
  rw [h.rl c hc]
  have h1 : ((List.range A.np).countP fun p => A.own p = c) ≤ A.np := by
    have := List.countP_le_length (p := fun p => decide (A.own p = c)) (l := List.range A.np)
    simpa using this
  have h2 := h.nm
  have h3 := h.mm
  have h4 := (h.toSzs.each hc).2.1
  exact Nat.le_trans (Nat.mul_le_mul (show _ ≤ 1024 by omega) h4) (by decide)

/-- A chunk's number tells the chunk. -/
theorem num_inj {A : Ab} (hA : Fit1 A) {p k q l : Nat} (hp : p < A.np) (hk : k < A.each (A.own p)) (hq : q < A.np) (hl : l < A.each (A.own q)) (h : A.num p k = A.num q l) : p = q ∧ k = l := by
  have h1 := (num_lt hA hp hk).2.2
  have h2 := (num_lt hA hq hl).2.2
  have hpl : A.place p k = A.place q l := by omega
  obtain ⟨a1, a2, _⟩ := place_div hA hp hk
  obtain ⟨b1, b2, _⟩ := place_div hA hq hl
  rw [hpl, b1] at a1
  subst a1
  rw [hpl, b2] at a2
  have hlo := hA.lo _ (hA.on _ hp)
  exact ⟨rfl, (Nat.eq_of_mul_eq_mul_right (by omega) a2).symm⟩

theorem countP_one {P Q : Nat → Bool} {k : Nat} (hP : P k = false) (hQ : Q k = true) (h : ∀ j, j ≠ k → Q j = P j) : ∀ n, k < n → (List.range n).countP Q = (List.range n).countP P + 1
  | 0, hk => by omega
  | n + 1, hk => by
    rw [List.range_succ, List.countP_append, List.countP_append]
    by_cases e : k = n
    · subst e
      have : ∀ m, m ≤ k → (List.range m).countP Q = (List.range m).countP P := by
        intro m hm
        apply List.countP_congr
        intro j hj
        rw [h j (by simp at hj; omega)]
      rw [this k (Nat.le_refl _)]
      simp [hP, hQ]
    · rw [countP_one hP hQ h n (by omega)]
      have : [n].countP Q = [n].countP P := by simp [h n (by omega)]
      omega
theorem sum_one {f g : Nat → Nat} {p : Nat} (hp : g p = f p + 1) (h : ∀ q, q ≠ p → g q = f q) : ∀ n, p < n → ((List.range n).map g).sum = ((List.range n).map f).sum + 1
  | 0, hn => by omega
  | n + 1, hn => by
    rw [List.range_succ, List.map_append, List.map_append, List.sum_append, List.sum_append]
    by_cases e : p = n
    · subst e
      have : (List.range p).map g = (List.range p).map f := List.map_congr_left fun j hj => h j (by simp at hj; omega)
      rw [this]; simp [hp]; omega
    · rw [sum_one hp h n (by omega)]
      simp [h n (by omega)]; omega

/-- The count behind a Take. -/
theorem tkc_take {A : Ab} {p k : Nat} (hp : p < A.np) (hk : k < A.each (A.own p)) (ht : A.tkn p k = false) (c : Nat) : (A.stkn p k true).tkc c = A.tkc c + (if A.own p = c then 1 else 0) := by
  have hpp : ∀ q, (A.stkn p k true).tkp q = A.tkp q + (if q = p then 1 else 0) := by
    intro q
    by_cases e : q = p
    · subst e
      simp only [if_true]
      refine countP_one (k := k) ht (by simp [Ab.stkn, upd2]) (fun j hj => by simp [Ab.stkn, upd2, hj]) _ hk
    · simp only [e, if_false]
      exact List.countP_congr fun j _ => by simp [Ab.stkn, upd2, e]
  by_cases e : A.own p = c
  · simp only [e, if_true]
    refine sum_one (p := p) ?_ ?_ _ hp
    · show (if A.own p = c then (A.stkn p k true).tkp p else 0) = (if A.own p = c then A.tkp p else 0) + 1
      rw [if_pos e, if_pos e, hpp]; simp
    · intro q hq
      show (if A.own q = c then (A.stkn p k true).tkp q else 0) = (if A.own q = c then A.tkp q else 0)
      rw [hpp]; simp [hq]
  · simp only [e, if_false, Nat.add_zero]
    show ((List.range A.np).map fun q => if A.own q = c then (A.stkn p k true).tkp q else 0).sum = _
    unfold Ab.tkc
    congr 1
    refine List.map_congr_left fun q hq => ?_
    by_cases e2 : A.own q = c
    · have : q ≠ p := fun e3 => e (e3 ▸ e2)
      rw [if_pos e2, if_pos e2, hpp]; simp [this]
    · rw [if_neg e2, if_neg e2]

/-- A chunk is taken that stood last in its row. -/
def Ab.taken (A : Ab) (c p k : Nat) : Ab := ((A.pop c).stk c (A.tk c + 1)).stkn p k true
/-- A chunk is given. -/
def Ab.given (A : Ab) (p k v : Nat) : Ab := ((((A.stkn p k false).sgen p k v).stk (A.own p) (A.tk (A.own p) - 1)).push (A.own p) (A.num p k))

theorem Inv.take {A : Ab} (h : Inv A) {c p k : Nat} (hc : c < A.n) (hp : p < A.np) (ho : A.own p = c) (hk : k < A.each c) (ht : A.tkn p k = false) (hl : (A.row c).getLast? = some (A.num p k)) : Inv (A.taken c p k) := by
  have hne : A.row c ≠ [] := by intro e; rw [e] at hl; simp at hl
  have hdl : A.row c = (A.row c).dropLast ++ [A.num p k] := by
    have e1 := List.dropLast_concat_getLast hne
    have e2 : (A.row c).getLast hne = A.num p k := by
      have e3 := List.getLast?_eq_some_getLast hne
      rw [hl] at e3
      injection e3 with e3
      exact e3.symm
    rw [e2] at e1
    exact e1.symm
  have hnd := h.nd c hc
  rw [hdl, List.nodup_append] at hnd
  have hnot : A.num p k ∉ (A.row c).dropLast := fun hm => hnd.2.2 _ hm _ (by simp) rfl
  have hrow : ∀ j, (A.taken c p k).row j = if j = c then (A.row c).dropLast else A.row j := fun j => rfl
  have htkn : ∀ q l, (A.taken c p k).tkn q l = if q = p ∧ l = k then true else A.tkn q l := fun q l => rfl
  have hsub : ∀ j x, x ∈ (A.taken c p k).row j → x ∈ A.row j := by
    intro j x hx
    rw [hrow] at hx
    by_cases e : j = c
    · rw [if_pos e] at hx
      rw [e]; exact List.dropLast_subset _ hx
    · rwa [if_neg e] at hx
  have htk : ∀ j, (A.taken c p k).tk j = if j = c then A.tk c + 1 else A.tk j := fun j => rfl
  have hfit := h.fit.toFit1
  refine ⟨⟨h.n1, h.n2, h.lo, h.hi, h.m8, h.up, h.pp, h.mm⟩, h.nm, h.on, h.gn, ?_, ?_, ?_, ?_, ?_⟩
  · intro j hj x hx
    obtain ⟨q, l, h1, h2, h3, h4, h5⟩ := h.rs j hj x (hsub j x hx)
    refine ⟨q, l, h1, h2, h3, h4, ?_⟩
    rw [htkn, if_neg ?_]
    · exact h5
    · rintro ⟨rfl, rfl⟩
      rw [hrow, if_pos (by omega)] at hx
      exact hnot (h4 ▸ hx)
  · intro q l hq hlq htq
    rw [htkn] at htq
    have hnpk : ¬ (q = p ∧ l = k) := fun e => by rw [if_pos e] at htq; cases htq
    rw [if_neg hnpk] at htq
    have h1 := h.rc q l hq hlq htq
    show A.num q l ∈ (A.taken c p k).row (A.own q)
    rw [hrow]
    by_cases e : A.own q = c
    · rw [if_pos e]
      rw [e, hdl, List.mem_append] at h1
      rcases h1 with h1 | h1
      · exact h1
      · have h2 : A.num q l = A.num p k := by simpa using h1
        exact absurd (num_inj hfit hq hlq hp (by rw [ho]; exact hk) h2) hnpk
    · rw [if_neg e]; exact h1
  · intro j hj
    rw [hrow]
    by_cases e : j = c
    · rw [if_pos e]; exact hnd.1
    · rw [if_neg e]; exact h.nd j hj
  · intro j hj
    have e1 := tkc_take (A := A) hp (by rw [ho]; exact hk) ht j
    have e2 : (A.taken c p k).tkc j = (A.stkn p k true).tkc j := rfl
    rw [htk, e2, e1, ho]
    by_cases e : j = c
    · subst e; simp [h.tc j hj]
    · rw [if_neg e, if_neg (by omega)]; exact h.tc j hj
  · intro j hj
    have e1 := h.rl j hj
    show ((A.taken c p k).row j).length + (A.taken c p k).tk j = ((List.range A.np).countP fun q => A.own q = j) * A.each j
    rw [← e1, hrow, htk]
    by_cases e : j = c
    · subst e
      rw [if_pos rfl, if_pos rfl]
      have : (A.row j).length ≠ 0 := by simpa using hne
      simp
      omega
    · rw [if_neg e, if_neg e]

theorem tkc_give {A : Ab} {p k : Nat} (hp : p < A.np) (hk : k < A.each (A.own p)) (ht : A.tkn p k = true) (c : Nat) : A.tkc c = (A.stkn p k false).tkc c + (if A.own p = c then 1 else 0) := by
  have e : (A.stkn p k false).stkn p k true = A := by
    have : upd2 (upd2 A.tkn p k false) p k true = A.tkn := by
      funext q l
      by_cases e : q = p ∧ l = k
      · obtain ⟨rfl, rfl⟩ := e; simp [upd2, ht]
      · simp [upd2, e]
    unfold Ab.stkn
    simp only
    rw [this]
  have := tkc_take (A := A.stkn p k false) (p := p) (k := k) hp hk (by simp [Ab.stkn, upd2]) c
  rw [e] at this
  exact this

set_option maxHeartbeats 2000000 in
theorem Inv.give {A : Ab} (h : Inv A) {p k v : Nat} (hv : v < 4294967296) (hp : p < A.np) (hk : k < A.each (A.own p)) (ht : A.tkn p k = true) : Inv (A.given p k v) := by
  have hfit := h.fit.toFit1
  have ho := h.on p hp
  have hrow : ∀ j, (A.given p k v).row j = if j = A.own p then A.row (A.own p) ++ [A.num p k] else A.row j := fun j => rfl
  have htkn : ∀ q l, (A.given p k v).tkn q l = if q = p ∧ l = k then false else A.tkn q l := fun q l => rfl
  have htk : ∀ j, (A.given p k v).tk j = if j = A.own p then A.tk (A.own p) - 1 else A.tk j := fun j => rfl
  have hgen : ∀ q l, (A.given p k v).gen q l = if q = p ∧ l = k then v else A.gen q l := fun q l => rfl
  have hnum : ∀ q l, (A.given p k v).num q l = A.num q l := by intro q l; simp only [Ab.num, Ab.place, Ab.given, Ab.push, Ab.stk, Ab.sgen, Ab.stkn]
  have hown : ∀ q, (A.given p k v).own q = A.own q := fun q => rfl
  have heach : ∀ q, (A.given p k v).each q = A.each q := by intro q; simp only [Ab.each, Ab.given, Ab.push, Ab.stk, Ab.sgen, Ab.stkn]
  have hnp : (A.given p k v).np = A.np := rfl
  have hn : (A.given p k v).n = A.n := rfl
  have hnot : A.num p k ∉ A.row (A.own p) := by
    intro hm
    obtain ⟨q, l, h1, h2, h3, h4, h5⟩ := h.rs _ ho _ hm
    obtain ⟨rfl, rfl⟩ := num_inj hfit hp hk h1 (by rw [h2]; exact h3) h4
    rw [ht] at h5; cases h5
  have hpos : 1 ≤ A.tk (A.own p) := by
    rw [h.tc _ ho, tkc_give hp hk ht (A.own p)]; simp
  refine ⟨⟨h.n1, h.n2, h.lo, h.hi, h.m8, h.up, h.pp, h.mm⟩, h.nm, h.on, ?_, ?_, ?_, ?_, ?_, ?_⟩
  · intro q l
    rw [hgen]
    by_cases e : q = p ∧ l = k
    · rw [if_pos e]; exact hv
    · rw [if_neg e]; exact h.gn q l
  · intro j hj x hx
    rw [hn] at hj
    rw [hrow] at hx
    have old : x ∈ A.row j → ∃ q l, q < A.np ∧ A.own q = j ∧ l < A.each j ∧ x = A.num q l ∧ (A.given p k v).tkn q l = false := by
      intro hx
      obtain ⟨q, l, h1, h2, h3, h4, h5⟩ := h.rs j hj x hx
      refine ⟨q, l, h1, h2, h3, h4, ?_⟩
      rw [htkn]
      by_cases e : q = p ∧ l = k
      · rw [if_pos e]
      · rw [if_neg e]; exact h5
    by_cases e : j = A.own p
    · rw [if_pos e, List.mem_append] at hx
      rcases hx with hx | hx
      · exact old (e ▸ hx)
      · refine ⟨p, k, hp, e.symm, by rw [e]; exact hk, (by simpa using hx : x = A.num p k), ?_⟩
        rw [htkn, if_pos ⟨rfl, rfl⟩]
    · rw [if_neg e] at hx
      exact old hx
  · intro q l hq hl htq
    rw [hnp] at hq
    rw [hown, heach] at hl
    rw [hnum, hown, hrow]
    rw [htkn] at htq
    clear hgen htk
    by_cases e : q = p ∧ l = k
    · obtain ⟨rfl, rfl⟩ := e
      rw [if_pos rfl]
      exact List.mem_append.2 (.inr (List.mem_singleton.2 rfl))
    · rw [if_neg e] at htq
      have h1 := h.rc q l hq hl htq
      by_cases e2 : A.own q = A.own p
      · rw [if_pos e2, List.mem_append]; exact .inl (e2 ▸ h1)
      · rw [if_neg e2]; exact h1
  · intro j hj
    rw [hn] at hj
    rw [hrow]
    by_cases e : j = A.own p
    · rw [if_pos e, List.nodup_append]
      refine ⟨h.nd _ ho, by simp, fun x hx y hy => ?_⟩
      simp at hy; subst hy
      intro e3; subst e3
      exact hnot hx
    · rw [if_neg e]; exact h.nd j hj
  · intro j hj
    rw [hn] at hj
    have e1 := tkc_give hp hk ht j
    have e2 : (A.given p k v).tkc j = (A.stkn p k false).tkc j := rfl
    rw [htk, e2]
    by_cases e : j = A.own p
    · rw [if_pos e]
      rw [if_pos e.symm] at e1
      have := h.tc j hj
      rw [← e]
      omega
    · rw [if_neg e]
      rw [if_neg (fun e3 => e e3.symm)] at e1
      rw [h.tc j hj, e1]; rfl
  · intro j hj
    rw [hn] at hj
    have e1 := h.rl j hj
    rw [hnp, heach, hrow, htk]
    simp only [hown]
    rw [← e1]
    by_cases e : j = A.own p
    · rw [if_pos e, if_pos e, ← e]
      rw [← e] at hpos
      simp
      omega
    · rw [if_neg e, if_neg e]

end Go.Proofs.YtjkdflnnpdionaaGreat
