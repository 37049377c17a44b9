import Derived.Test.YtoaaaeefcipdcaaYc
/-
  ClassOnce: what is carried along, as plain data.
-/
namespace Go.Proofs.Ytoaaaeefcipdcaa
open Go.RowKit
set_option linter.unusedVariables false

def pc (A : Ab) (t : Nat × Nat) : Nat × Nat × Nat := (A.hdl t.1 t.2, A.place t.1 t.2, A.place t.1 t.2 + A.sz (A.own t.1))
def pcs (A : Ab) (T : List (Nat × Nat)) : List (Nat × Nat × Nat) := T.map (pc A)
/-- How many pages a class has. -/
def Ab.pg (A : Ab) (i : Nat) : Nat := (List.range A.np).countP fun p => A.own p = i
/-- The taken chunks, the old handles. -/
structure Oc (A : Ab) (T : List (Nat × Nat)) (O : List Nat) : Prop where
  inv : Inv A
  tk : ∀ t, t ∈ T → t.1 < A.np ∧ t.2 < A.each (A.own t.1) ∧ A.tkn t.1 t.2 = true
  nd : T.Nodup
  ct : ∀ i, i < A.n → T.countP (fun t => A.own t.1 = i) = A.tk i
  od : ∀ h, h ∈ O → ∃ p k g, p < A.np ∧ k < A.each (A.own p) ∧ g < A.gen p k ∧ h = g * 4294967296 + A.num p k
  gb : ∀ p k, A.gen p k ≤ O.length

theorem Oc.ish {A : Ab} {T : List (Nat × Nat)} {O : List Nat} (h : Oc A T O) {t : Nat × Nat} (ht : t ∈ T) : IsH A (A.hdl t.1 t.2) t.1 t.2 := ⟨(h.tk t ht).1, (h.tk t ht).2.1, (h.tk t ht).2.2, rfl⟩
theorem hdl_inj {A : Ab} (hA : Fit2 A) {p k q l : Nat} (hp : p < A.np) (hk : k < A.each (A.own p)) (hq : q < A.np) (hl : l < A.each (A.own q)) {g : Nat} (h : g * 4294967296 + A.num p k = A.hdl q l) : p = q ∧ k = l ∧ g = A.gen q l := by
  have h1 := (num_lt hA.toFit1 hp hk).1
  have h2 := (num_lt hA.toFit1 hq hl).1
  unfold Ab.hdl at h
  have e1 : A.num p k = A.num q l := by omega
  have e2 : g = A.gen q l := by omega
  obtain ⟨e3, e4⟩ := num_inj hA.toFit1 hp hk hq hl e1
  exact ⟨e3, e4, e2⟩
theorem apart_lt {A : Ab} (hA : Fit2 A) {p k q l : Nat} (hp : p < A.np) (hk : k < A.each (A.own p)) (hq : q < A.np) (hl : l < A.each (A.own q)) (h : p < q ∨ p = q ∧ k < l) : A.place p k + A.sz (A.own p) ≤ A.place q l := by
  rcases h with h | ⟨rfl, h⟩
  · have h1 := (place_div hA.toFit1 hp hk).2.2
    have h2 : (p + 1) * A.ps ≤ q * A.ps := Nat.mul_le_mul_right _ h
    unfold Ab.place at *
    omega
  · have h2 : (k + 1) * A.sz (A.own p) ≤ l * A.sz (A.own p) := Nat.mul_le_mul_right _ h
    unfold Ab.place
    rw [Nat.add_mul, Nat.one_mul] at h2
    omega
theorem apart {A : Ab} (hA : Fit2 A) {p k q l : Nat} (hp : p < A.np) (hk : k < A.each (A.own p)) (hq : q < A.np) (hl : l < A.each (A.own q)) (h : (p, k) ≠ (q, l)) : A.place p k + A.sz (A.own p) ≤ A.place q l ∨ A.place q l + A.sz (A.own q) ≤ A.place p k := by
  have h0 : p < q ∨ q < p ∨ p = q := by omega
  rcases h0 with h1 | h1 | rfl
  · exact .inl (apart_lt hA hp hk hq hl (.inl h1))
  · exact .inr (apart_lt hA hq hl hp hk (.inl h1))
  · have h2 : k < l ∨ l < k ∨ k = l := by omega
    rcases h2 with h1 | h1 | rfl
    · exact .inl (apart_lt hA hp hk hq hl (.inr ⟨rfl, h1⟩))
    · exact .inr (apart_lt hA hq hl hp hk (.inr ⟨rfl, h1⟩))
    · exact absurd rfl h

/-- What fits asks of the others. -/
theorem Oc.fits {A : Ab} {T : List (Nat × Nat)} {O : List Nat} {p k : Nat} (h : Oc A (T ++ [(p, k)]) O) : (∀ t, t ∈ pcs A T → t.1 ≠ A.hdl p k ∧ (t.2.2 ≤ A.place p k ∨ A.place p k + A.sz (A.own p) ≤ t.2.1)) ∧ (∀ x, x ∈ O → x ≠ A.hdl p k) := by
  obtain ⟨hp, hk, ht⟩ := h.tk (p, k) (by simp)
  have hA := h.inv.fit
  constructor
  · intro t htt
    obtain ⟨⟨q, l⟩, hu, rfl⟩ := List.mem_map.1 htt
    obtain ⟨hq, hl, _⟩ := h.tk (q, l) (by simp [hu])
    have hne : (q, l) ≠ (p, k) := by
      rintro e
      rw [e] at hu
      have := (List.nodup_append.1 h.nd).2.2 _ hu (p, k) (by simp)
      exact this rfl
    refine ⟨fun e => ?_, ?_⟩
    · obtain ⟨e1, e2, _⟩ := hdl_inj hA hq hl hp hk (g := A.gen q l) e
      exact hne (Prod.ext e1 e2)
    · rcases apart hA hq hl hp hk hne with h1 | h1
      · exact .inl h1
      · exact .inr h1
  · rintro x hx e
    obtain ⟨q, l, g, hq, hl, hg, e1⟩ := h.od x hx
    obtain ⟨e3, e4, e2⟩ := hdl_inj hA hq hl hp hk (g := g) (by rw [← e1, e])
    have e5 : q = p := e3
    have e6 : l = k := e4
    subst e5 e6
    have e7 : g = A.gen q l := e2
    omega
theorem Oc.ok {A : Ab} {T : List (Nat × Nat)} {O : List Nat} (h : Oc A T O) (hl : T.length ≤ 1000) : PcOk (pcs A T) := by
  refine ⟨by simp [pcs]; exact hl, fun t ht => ?_⟩
  obtain ⟨⟨q, l⟩, hu, rfl⟩ := List.mem_map.1 ht
  obtain ⟨hq, hk, _⟩ := h.tk (q, l) hu
  have h1 : A.place q l ≤ 1073741824 := (place_le h.inv.fit.toFit1 hq hk).1
  have h2 : A.sz (A.own q) ≤ A.ps := h.inv.hi _ (h.inv.on q hq)
  have h3 := h.inv.ps0
  simp only [pc]
  omega
theorem Oc.cnt {A : Ab} {T : List (Nat × Nat)} {O : List Nat} (h : Oc A T O) {i : Nat} (hi : i < A.n) : cnt (pcs A T) (A.sz i) = A.tk i := by
  rw [← h.ct i hi]
  unfold Ytoaaaeefcipdcaa.cnt pcs
  rw [List.countP_map]
  refine List.countP_congr fun t ht => ?_
  have ho := h.inv.on _ (h.tk t ht).1
  simp only [Function.comp, pc, Nat.add_sub_cancel_left, beq_iff_eq, decide_eq_true_eq]
  constructor
  · intro e
    have h0 : A.own t.1 < i ∨ i < A.own t.1 ∨ A.own t.1 = i := by omega
    rcases h0 with h1 | h1 | h1
    · have := h.inv.up _ _ h1 hi; omega
    · have := h.inv.up _ _ h1 ho; omega
    · exact h1
  · intro e; rw [e]
theorem Oc.full {A : Ab} {T : List (Nat × Nat)} {O : List Nat} (h : Oc A T O) {i : Nat} (hi : i < A.n) : (A.tk i = A.pg i * A.each i) ↔ A.row i = [] := by
  have h1 := h.inv.rl i hi
  rw [← List.length_eq_zero_iff]
  unfold Ab.pg
  omega

theorem oc_owned {A : Ab} {T : List (Nat × Nat)} {O : List Nat} (h : Oc A T O) {i : Nat} (hi : i < A.n) (hnp : A.np < A.m) : Oc (A.owned i) T O ∧ pcs (A.owned i) T = pcs A T ∧ (∀ j, (A.owned i).pg j = A.pg j + if j = i then 1 else 0) := by
  have hg : ∀ p k, (A.owned i).gen p k ≤ A.gen p k := fun p k => by rw [owned_gen]; split <;> omega
  have hw : ∀ p, p < A.np → (A.owned i).own p = A.own p := fun p hp => by rw [owned_own, if_neg (by omega)]
  refine ⟨⟨h.inv.own hi hnp, fun t ht => ?_, h.nd, fun j hj => ?_, fun x hx => ?_, fun p k => Nat.le_trans (hg p k) (h.gb p k)⟩, ?_, ?_⟩
  · obtain ⟨h1, h2, h3⟩ := h.tk t ht
    rw [owned_np, hw _ h1, owned_each, owned_tkn, if_neg (by omega)]
    exact ⟨by omega, h2, h3⟩
  · rw [owned_n] at hj
    rw [owned_tk, ← h.ct j hj]
    refine List.countP_congr fun t ht => ?_
    rw [hw _ (h.tk t ht).1]
  · obtain ⟨p, k, g, h1, h2, h3, h4⟩ := h.od x hx
    refine ⟨p, k, g, by rw [owned_np]; omega, by rw [hw _ h1, owned_each]; exact h2, by rw [owned_gen, if_neg (by omega)]; exact h3, by rw [owned_num _ _ h1]; exact h4⟩
  · refine List.map_congr_left fun t ht => ?_
    have h1 := (h.tk t ht).1
    have h2 : (A.owned i).num t.1 t.2 = A.num t.1 t.2 := owned_num _ _ h1
    have h3 : (A.owned i).gen t.1 t.2 = A.gen t.1 t.2 := by rw [owned_gen, if_neg (by omega)]
    have h4 : (A.owned i).place t.1 t.2 = A.place t.1 t.2 := by unfold Ab.place; rw [owned_ps, owned_sz, hw _ h1]
    simp only [pc, Ab.hdl, h2, h3, h4, owned_sz, hw _ h1]
  · intro j
    unfold Ab.pg
    rw [owned_np, List.range_succ, List.countP_append]
    congr 1
    · refine List.countP_congr fun p hp => ?_
      rw [hw _ (List.mem_range.1 hp)]
    · rw [List.countP_singleton, owned_own, if_pos rfl]
      by_cases e : i = j
      · simp [e]
      · rw [if_neg (by simpa using e), if_neg (fun e' => e e'.symm)]

theorem oc_taken {A : Ab} {T : List (Nat × Nat)} {O : List Nat} (h : Oc A T O) {c p k : Nat} (hc : c < A.n) (hp : p < A.np) (ho : A.own p = c) (hk : k < A.each c) (ht : A.tkn p k = false) (hl : (A.row c).getLast? = some (A.num p k)) :
    Oc (A.taken c p k) (T ++ [(p, k)]) O ∧ pcs (A.taken c p k) (T ++ [(p, k)]) = pcs A T ++ [pc (A.taken c p k) (p, k)] ∧ pcs (A.taken c p k) T = pcs A T ∧ (∀ j, (A.taken c p k).pg j = A.pg j) ∧ (A.taken c p k).hdl p k = A.hdl p k := by
  have hti : (p, k) ∉ T := fun hm => by
    have := (h.tk _ hm).2.2
    simp [ht] at this
  have htk : ∀ q l, A.tkn q l = true → (A.taken c p k).tkn q l = true := fun q l hq => by
    show upd2 A.tkn p k true q l = true
    unfold upd2
    split
    · rfl
    · exact hq
  have e1 : (A.taken c p k).tkn p k = true := by
    show upd2 A.tkn p k true p k = true
    unfold upd2
    simp
  have htc : ∀ j, (A.taken c p k).tk j = A.tk j + if c = j then 1 else 0 := fun j => by
    show upd A.tk c (A.tk c + 1) j = _
    unfold upd
    by_cases e : c = j
    · subst e; simp
    · rw [if_neg (fun e' => e e'.symm), if_neg e]; rfl
  refine ⟨⟨h.inv.take hc hp ho hk ht hl, fun t hm => ?_, ?_, fun j hj => ?_, h.od, h.gb⟩, ?_, rfl, fun j => rfl, rfl⟩
  · rcases List.mem_append.1 hm with hm | hm
    · obtain ⟨h1, h2, h3⟩ := h.tk t hm
      exact ⟨h1, h2, htk _ _ h3⟩
    · obtain rfl := List.mem_singleton.1 hm
      exact ⟨hp, by rw [← ho] at hk; exact hk, e1⟩
  · refine List.nodup_append.2 ⟨h.nd, by simp, fun a ha b hb => ?_⟩
    rw [List.mem_singleton.1 hb]
    exact fun e => hti (e ▸ ha)
  · rw [List.countP_append, htc, ← h.ct j hj]
    congr 1
    rw [List.countP_singleton]
    show (if decide (A.own p = j) = true then 1 else 0) = _
    rw [ho]
    by_cases e : c = j <;> simp [e]
  · unfold pcs
    rw [List.map_append]
    rfl

theorem oc_given {A : Ab} {T : List (Nat × Nat)} {O : List Nat} (h : Oc A T O) (hO : O.length < 1000000) {j : Nat} (hj : j < T.length) {p k : Nat} (hpk : T[j]? = some (p, k)) :
    Oc (A.given p k (A.gen p k + 1)) (T.eraseIdx j) (O ++ [A.hdl p k]) ∧ pcs (A.given p k (A.gen p k + 1)) (T.eraseIdx j) = (pcs A T).eraseIdx j ∧ (∀ i, (A.given p k (A.gen p k + 1)).pg i = A.pg i) ∧ (∀ q l, ¬ IsH (A.given p k (A.gen p k + 1)) (A.hdl p k) q l) := by
  have hm : (p, k) ∈ T := List.mem_of_getElem? hpk
  obtain ⟨hp, hk, ht⟩ := h.tk _ hm
  have hp : p < A.np := hp
  have hk : k < A.each (A.own p) := hk
  have ht : A.tkn p k = true := ht
  have hb := h.gb p k
  have hI := h.inv.give (v := A.gen p k + 1) (by omega) hp hk ht
  have hme : ∀ t, t ∈ T.eraseIdx j → t ∈ T ∧ t ≠ (p, k) := fun t hte => by
    refine ⟨List.mem_of_mem_eraseIdx hte, ?_⟩
    rintro rfl
    obtain ⟨i, hij, hi⟩ := List.mem_eraseIdx_iff_getElem?.1 hte
    exact hij ((List.getElem?_inj hj h.nd).1 (hpk.trans hi.symm)).symm
  have htk : ∀ q l, (q, l) ≠ (p, k) → (A.given p k (A.gen p k + 1)).tkn q l = A.tkn q l := fun q l hne => by
    show upd2 A.tkn p k false q l = _
    unfold upd2
    rw [if_neg]
    rintro ⟨rfl, rfl⟩
    exact hne rfl
  have hgn : ∀ q l, (A.given p k (A.gen p k + 1)).gen q l = if q = p ∧ l = k then A.gen p k + 1 else A.gen q l := fun q l => rfl
  have htc : ∀ i, (A.given p k (A.gen p k + 1)).tk i = if i = A.own p then A.tk (A.own p) - 1 else A.tk i := fun i => rfl
  have hpcs : ∀ t, t ∈ T.eraseIdx j → pc (A.given p k (A.gen p k + 1)) t = pc A t := fun t hte => by
    have h1 : (A.given p k (A.gen p k + 1)).gen t.1 t.2 = A.gen t.1 t.2 := by
      rw [hgn, if_neg]
      rintro ⟨e1, e2⟩
      exact (hme t hte).2 (Prod.ext e1 e2)
    have h2 : (A.given p k (A.gen p k + 1)).hdl t.1 t.2 = A.hdl t.1 t.2 := by
      show (A.given p k (A.gen p k + 1)).gen t.1 t.2 * 4294967296 + A.num t.1 t.2 = _
      rw [h1]; rfl
    unfold pc
    rw [h2]; rfl
  refine ⟨⟨hI, fun t hte => ?_, h.nd.eraseIdx j, fun i hi => ?_, fun x hx => ?_, fun q l => ?_⟩, ?_, fun i => rfl, ?_⟩
  · obtain ⟨h1, h2⟩ := hme t hte
    obtain ⟨h3, h4, h5⟩ := h.tk t h1
    exact ⟨h3, h4, by rw [htk _ _ h2]; exact h5⟩
  · have h1 := h.ct i hi
    have h2 := h.ct (A.own p) (h.inv.on p hp)
    have h3 : ∀ i, T.countP (fun t => A.own t.1 = i) = (T.eraseIdx j).countP (fun t => A.own t.1 = i) + if A.own p = i then 1 else 0 := fun i => by
      have e1 : T = T.take j ++ (p, k) :: T.drop (j + 1) := by
        have e0 : T[j] = (p, k) := by
          rw [List.getElem?_eq_getElem hj] at hpk
          exact Option.some.inj hpk
        rw [← e0, List.getElem_cons_drop, List.take_append_drop]
      rw [List.eraseIdx_eq_take_drop_succ, List.countP_append]
      conv => lhs; rw [e1, List.countP_append, List.countP_cons]
      by_cases e : A.own p = i <;> simp [e] <;> omega
    rw [htc]
    show List.countP (fun t => decide (A.own t.1 = i)) (T.eraseIdx j) = _
    have h4 := h3 i
    have h5 := h3 (A.own p)
    rw [if_pos rfl] at h5
    by_cases e : A.own p = i
    · subst e; rw [if_pos rfl]; omega
    · rw [if_neg e] at h4; rw [if_neg (fun e' => e e'.symm)]; omega
  · rcases List.mem_append.1 hx with hx | hx
    · obtain ⟨q, l, g, h1, h2, h3, h4⟩ := h.od x hx
      refine ⟨q, l, g, h1, h2, ?_, h4⟩
      rw [hgn]
      split
      · rename_i e; obtain ⟨rfl, rfl⟩ := e; omega
      · exact h3
    · obtain rfl := List.mem_singleton.1 hx
      refine ⟨p, k, A.gen p k, hp, hk, ?_, rfl⟩
      rw [hgn, if_pos ⟨rfl, rfl⟩]; omega
  · rw [hgn, List.length_append]
    have := h.gb q l
    simp only [List.length_singleton]
    split <;> omega
  · unfold pcs
    rw [show (T.map (pc A)).eraseIdx j = (T.eraseIdx j).map (pc A) by simp [List.eraseIdx_eq_take_drop_succ, List.map_take, List.map_drop]]
    exact List.map_congr_left hpcs
  · rintro q l ⟨h1, h2, h3, h4⟩
    obtain ⟨rfl, rfl, e3⟩ := hdl_inj hI.fit (p := p) (k := k) hp hk h1 h2 (g := A.gen p k) h4
    rw [hgn, if_pos ⟨rfl, rfl⟩] at e3
    omega

end Go.Proofs.Ytoaaaeefcipdcaa
