import Derived.Test.YtoaaaeefcipdcaaYf
/-
  ClassOnce: Take and Give, with what is carried along.
-/
namespace Go.Proofs.Ytoaaaeefcipdcaa
open Go.RowKit
set_option linter.unusedVariables false

/-- Nothing of the sizes has turned. -/
structure SzE (A A' : Ab) : Prop where
  ps : A'.ps = A.ps
  m : A'.m = A.m
  n : A'.n = A.n
  sz : A'.sz = A.sz
theorem oc_take_all {A : Ab} {T : List (Nat × Nat)} {O : List Nat} (h : Oc A T O) {i : Nat} (hi : i < A.n) :
    (A.row i = [] ∧ A.np = A.m ∧ TakeC A A i 0 21) ∨
    (∃ A' p k, TakeC A A' i (A'.hdl p k) 0 ∧ Oc A' (T ++ [(p, k)]) O ∧ pcs A' (T ++ [(p, k)]) = pcs A T ++ [pc A' (p, k)] ∧ pcs A' T = pcs A T ∧ A'.own p = i ∧ SzE A A' ∧ ¬ (A.row i = [] ∧ A.np = A.m) ∧ (∀ j, A'.pg j = A.pg j + if A.row i = [] ∧ j = i then 1 else 0) ∧ A'.np = A.np + if A.row i = [] then 1 else 0) := by
  have hI := h.inv
  by_cases hr : A.row i = []
  · by_cases hm : A.np = A.m
    · refine .inl ⟨hr, hm, ?_⟩
      intro w sb F B b c d e f g zs hS
      refine (take_room hS hI.fit.toFit hi hr hm).mono ?_
      rintro y w' ⟨rfl, hf⟩
      exact ⟨rfl, Kp.of hf, F, B, zs, hS.kept0 hf, fun k hk => .inl hk⟩
    · have hnm := hI.nm
      have hlt : A.np < A.m := by omega
      obtain ⟨hO1, hO2, hO3⟩ := oc_owned h hi hlt
      have he := (hI.toSzs.each hi).1
      have hrl : ((A.owned i).row i).getLast? = some ((A.owned i).num A.np 0) := by
        rw [owned_row, if_pos rfl, hr, List.nil_append, nums_last A i (by omega), owned_num2]
      have hnp : A.np < (A.owned i).np := by rw [owned_np]; omega
      have hok : (A.owned i).own A.np = i := by rw [owned_own, if_pos rfl]
      have hek : 0 < (A.owned i).each i := by rw [owned_each]; omega
      obtain ⟨h1, h2, h3, h4, h5⟩ := oc_taken hO1 (c := i) (p := A.np) (k := 0) (by rw [owned_n]; exact hi) hnp hok hek (by rw [owned_tkn, if_pos rfl]) hrl
      refine .inr ⟨_, A.np, 0, ?_, h1, by rw [h2, hO2], by rw [h3, hO2], hok, ⟨rfl, rfl, rfl, rfl⟩, fun e => hm e.2, fun j => ?_, ?_⟩
      · rw [h5]
        intro w sb F B b c d e f g zs hS
        refine (take_page hS hI hi hr hlt).mono ?_
        rintro y w' ⟨rfl, hK, F', B', hS', hF⟩
        exact ⟨rfl, hK, F', B', _, hS', hF⟩
      · rw [h4, hO3]; simp [hr]
      · rw [if_pos hr]; rfl
  · obtain ⟨x, hx⟩ : ∃ x, (A.row i).getLast? = some x := ⟨_, List.getLast?_eq_some_getLast hr⟩
    obtain ⟨p, k, hp, ho, hk, rfl, ht⟩ := hI.rs i hi x (List.mem_of_getLast? hx)
    obtain ⟨h1, h2, h3, h4, h5⟩ := oc_taken h hi hp ho hk ht hx
    refine .inr ⟨_, p, k, ?_, h1, h2, h3, ho, ⟨rfl, rfl, rfl, rfl⟩, fun e => hr e.1, fun j => ?_, ?_⟩
    · rw [h5]
      intro w sb F B b c d e f g zs hS
      refine (take_row hS hI.fit hi hp ho hk ht hx).mono ?_
      rintro y w' ⟨rfl, ⟨B', _, hS'⟩, hK⟩
      exact ⟨rfl, hK, F, B', _, hS', fun k hk => .inl hk⟩
    · rw [h4]; simp [hr]
    · rw [if_neg hr]; rfl

theorem oc_give_all {A : Ab} {T : List (Nat × Nat)} {O : List Nat} (h : Oc A T O) (hO : O.length < 1000000) {j : Nat} (hj : j < T.length) :
    ∃ A' H, H < 18446744073709551616 ∧ ((pcs A T).getD j (0, 0, 0)).1 = H ∧ GiveC A A' H 0 ∧ GiveC A' A' H 20 ∧ (∀ p k, ¬ IsH A' H p k) ∧ Oc A' (T.eraseIdx j) (O ++ [H]) ∧ pcs A' (T.eraseIdx j) = (pcs A T).eraseIdx j ∧ SzE A A' ∧ (∀ i, A'.pg i = A.pg i) ∧ A'.np = A.np := by
  have hpk : T[j]? = some (T[j].1, T[j].2) := List.getElem?_eq_getElem hj
  obtain ⟨h1, h2, h3, h4⟩ := oc_given h hO hj hpk
  have hH := h.ish (List.getElem_mem hj)
  have h64 := (hH.parts h.inv.fit).2.2
  have hb := h.gb T[j].1 T[j].2
  refine ⟨_, A.hdl T[j].1 T[j].2, h64, ?_, ?_, ?_, h4, h1, h2, ⟨rfl, rfl, rfl, rfl⟩, h3, rfl⟩
  · rw [List.getD_eq_getElem?_getD, pcs, List.getElem?_map, List.getElem?_eq_getElem hj]
    rfl
  · intro w sb F B b c d e f g zs hS
    refine (give_yes hS h.inv hH (A.gen T[j].1 T[j].2 + 1) (show _ = _ by omega)).mono ?_
    rintro y w' ⟨rfl, hK, F', B', hS', hF⟩
    exact ⟨rfl, hK, F', B', _, hS', hF⟩
  · intro w sb F B b c d e f g zs hS
    refine (give_no hS h1.inv.fit h64 h4).mono ?_
    rintro y w' ⟨rfl, hf⟩
    exact ⟨rfl, Kp.of hf, F, B, zs, hS.kept0 hf, fun k hk => .inl hk⟩

/-- The handles that are no good. -/
theorem Oc.old {A : Ab} {T : List (Nat × Nat)} {O : List Nat} (h : Oc A T O) {x : Nat} (hx : x ∈ O) : x < 18446744073709551616 ∧ ∀ p k, ¬ IsH A x p k := by
  obtain ⟨p, k, g, hp, hk, hg, rfl⟩ := h.od x hx
  have h1 := (num_lt h.inv.fit.toFit1 hp hk).1
  have h2 := h.inv.gn p k
  refine ⟨by omega, ?_⟩
  rintro q l ⟨hq, hl, _, he⟩
  obtain ⟨e1, e2, e3⟩ := hdl_inj h.inv.fit hp hk hq hl he
  subst e1 e2
  omega

def pcc (t : Nat × Nat × Nat) : List Value := [.int .u64 (t.1 : Nat), .int .i64 (t.2.1 : Nat), .int .i64 (t.2.2 : Nat)]
theorem pcL_eq (L : List (Nat × Nat × Nat)) : pcL L = L.flatMap pcc := by
  have h : (List.range L.length).map (fun i => L.getD i (0, 0, 0)) = L := by
    refine List.ext_getElem (by simp) fun i h1 h2 => ?_
    simp [List.getD_eq_getElem?_getD, List.getElem?_eq_getElem h2]
  conv => rhs; rw [← h, List.flatMap_map]
  rfl
theorem fm_take : ∀ (j : Nat) (L : List (Nat × Nat × Nat)), (L.take j).flatMap pcc = (L.flatMap pcc).take (j * 3)
  | 0, L => by simp
  | j + 1, [] => by simp
  | j + 1, t :: L => by
    have e : (j + 1) * 3 = (pcc t).length + j * 3 := by simp [pcc]; omega
    rw [List.take_succ_cons, List.flatMap_cons, List.flatMap_cons, fm_take j L, e, List.take_length_add_append]
theorem fm_drop : ∀ (j : Nat) (L : List (Nat × Nat × Nat)), (L.drop j).flatMap pcc = (L.flatMap pcc).drop (j * 3)
  | 0, L => by simp
  | j + 1, [] => by simp
  | j + 1, t :: L => by
    have e : (j + 1) * 3 = (pcc t).length + j * 3 := by simp [pcc]; omega
    rw [List.drop_succ_cons, List.flatMap_cons, fm_drop j L, e, List.drop_length_add_append]
theorem pcL_append (L : List (Nat × Nat × Nat)) (t : Nat × Nat × Nat) : pcL (L ++ [t]) = pcL L ++ pcc t := by
  rw [pcL_eq, pcL_eq, List.flatMap_append]
  simp
theorem pcL_take (L : List (Nat × Nat × Nat)) (j : Nat) : pcL (L.take j) = (pcL L).take (j * 3) := by rw [pcL_eq, pcL_eq, fm_take]
theorem pcL_drop (L : List (Nat × Nat × Nat)) (j : Nat) : pcL (L.drop j) = (pcL L).drop (j * 3) := by rw [pcL_eq, pcL_eq, fm_drop]
theorem pcL_erase (L : List (Nat × Nat × Nat)) (j : Nat) : pcL (L.eraseIdx j) = pcL (L.take j) ++ pcL (L.drop (j + 1)) := by
  rw [List.eraseIdx_eq_take_drop_succ, pcL_eq, pcL_eq, pcL_eq, List.flatMap_append]
theorem pcL_len (L : List (Nat × Nat × Nat)) : (pcL L).length = L.length * 3 := rng_len (f := pcf L) (s := 3) (fun _ => rfl) _
theorem pcL_one (L : List (Nat × Nat × Nat)) : ∀ u, u ∈ pcL L → u.oneCell' = true := fun u hu => by
  rw [pcL_eq] at hu
  obtain ⟨t, _, h⟩ := List.mem_flatMap.1 hu
  simp only [pcc, List.mem_cons, List.not_mem_nil, or_false] at h
  rcases h with rfl | rfl | rfl <;> rfl

end Go.Proofs.Ytoaaaeefcipdcaa
