import Derived.Test.YtoomnhclaofgaaaGreatXa
import Derived.Test.YtoomnhclaofgaaaGreatTh
import Derived.Test.YtoomnhclaofgaaaGreatIw
import Derived.Test.YtoomnhclaofgaaaGreatIk
/-
  Two chunks of a new Set.
-/
namespace Go.Proofs.YtoomnhclaofgaaaGreat
open Go.RowKit
set_option linter.unusedVariables false

theorem fil_takeZ {A A0 : Ab} {k i fr : Nat} (hF : Fil A0 A k i fr) (hk : k < A.n) (hi : i < A.m * A.each k) :
    ∃ A' fr', Fil A0 A' k (i + 1) fr' ∧
      (∀ w sb F B b c d e f g zs, IsS w sb F B b c d e f g A zs → Calls Tryz.prog 29 #[.pointer (some ⟨sb, 0, none⟩), .int .i64 k] w fun y w' => y = .returned (.tuple #[.int .u64 (hN A0 k i), .int .i64 0]) ∧ Kp F w w' ∧ ∃ F' B', IsS w' sb F' B' b c d e f g A' (headZ zs (plN A0 k i) 0) ∧ ∀ k, F' k → F k ∨ w.heap.size ≤ k) := by
  have hc := hF.cnt
  have he := hF.frl
  by_cases hfr : fr = 0
  · subst hfr
    have hi' : i = A.np * A.each k := by omega
    have hnp : A.np < A.m := by
      rcases Nat.lt_or_ge A.np A.m with h1 | h1
      · exact h1
      · have := Nat.mul_le_mul_right (A.each k) h1
        omega
    have hr0 : A.row k = [] := by rw [hF.row]; simp
    have hIo := hF.inv.own hk hnp
    have hrl : ((A.owned k).row k).getLast? = some ((A.owned k).num A.np 0) := by
      rw [owned_row, if_pos rfl, hr0, List.nil_append, nums_last A k (by omega), owned_num2]
    have hIt := hIo.take (c := k) (p := A.np) (k := 0) (by rw [owned_n]; exact hk) (by rw [owned_np]; omega) (by rw [owned_own, if_pos rfl]) (by rw [owned_each]; omega) (by rw [owned_tkn, if_pos rfl]) hrl
    obtain ⟨d1, d2⟩ := divmod (A.each k) A.np 0 (by omega)
    rw [Nat.add_zero] at d1 d2
    have hpl : (A.owned k).place A.np 0 = plN A0 k i := by
      unfold Ab.place plN
      rw [owned_ps, owned_sz, owned_own, if_pos rfl, hi', ← hF.each k, ← hF.ps, ← hF.sz, d1, d2]
    have hh : (A.owned k).hdl A.np 0 = hN A0 k i := by
      unfold Ab.hdl hN
      rw [owned_gen, if_pos rfl, ← hpl]
      unfold Ab.num
      simp
    refine ⟨_, _, hF.page hk hIt, fun w sb F B b c d e f g zs h => ?_⟩
    have := take_page h hF.inv hk hr0 hnp
    rw [hh, hpl, owned_gen, if_pos rfl] at this
    exact this
  · have hnp : 0 < A.np := by
      rcases Nat.eq_zero_or_pos A.np with e1 | e1
      · rw [e1] at hc; simp at hc; omega
      · exact e1
    obtain ⟨q, hq⟩ : ∃ q, A.np = q + 1 := ⟨A.np - 1, by omega⟩
    have hq1 : A.np - 1 = q := by omega
    have hmul : A.np * A.each k = q * A.each k + A.each k := by rw [hq, Nat.add_mul, Nat.one_mul]
    have hi' : i = q * A.each k + (A.each k - fr) := by omega
    obtain ⟨d1, d2⟩ := divmod (A.each k) q (A.each k - fr) (by omega)
    have hoq := hF.own q (by omega)
    have htq : A.tkn q (A.each k - fr) = false := by
      rw [hF.tkn q _ (by omega) (by omega)]; simp; omega
    have hrl : (A.row k).getLast? = some (A.num q (A.each k - fr)) := by
      rw [hF.row, if_neg hfr, hq1]; exact rowF_last A k q _ (by omega)
    have hIt := hF.inv.take hk (p := q) (k := A.each k - fr) (by omega) hoq (by omega) htq hrl
    have hpl : A.place q (A.each k - fr) = plN A0 k i := by
      unfold Ab.place plN
      rw [hoq, hi', ← hF.each k, ← hF.ps, ← hF.sz, d1, d2]
    have hh : A.hdl q (A.each k - fr) = hN A0 k i := by
      unfold Ab.hdl hN
      rw [hF.gen q _ (by omega), ← hpl]
      unfold Ab.num
      simp
    have hft := hF.taken hk (by omega) (by rw [hq1]; exact hIt)
    rw [hq1] at hft
    refine ⟨_, _, hft, fun w sb F B b c d e f g zs h => ?_⟩
    have := take_row h hF.inv.fit hk (p := q) (k := A.each k - fr) (by omega) hoq (by omega) htq hrl
    rw [hh, hpl, hF.gen q _ (by omega)] at this
    refine this.mono ?_
    rintro y w' ⟨rfl, ⟨B', _, hS⟩, hK⟩
    exact ⟨rfl, hK, F, B', hS, fun k hk => .inl hk⟩

set_option maxRecDepth 100000 in
set_option maxHeartbeats 1000000 in
theorem two_yes {A : Ab} (hI : Inv A) (h0 : A.np = 0) (hr : ∀ c, A.row c = []) {k : Nat} (hk : k < A.n) (hm : 2 ≤ A.m) :
    ∃ A' fr', Fil A A' k 2 fr' ∧
      (∀ w sb F B b c d e f g zs, IsS w sb F B b c d e f g A zs → Calls Tryz.prog 8 #[.pointer (some ⟨sb, 0, none⟩), .int .i64 k] w fun y w' => y = .returned (.tuple #[.int .u64 (hN A k 0), .int .u64 (hN A k 1)]) ∧ Kp F w w' ∧ ∃ F' B', IsS w' sb F' B' b c d e f g A' (headZ (headZ zs (plN A k 0) 0) (plN A k 1) 0) ∧ ∀ k, F' k → F k ∨ w.heap.size ≤ k) := by
  have hea := (hI.fit.toSzs.each hk).1
  have h0F := Fil.zero hI h0 hr hk
  have hm1 : 2 * 1 ≤ A.m * A.each k := Nat.mul_le_mul hm (by omega)
  obtain ⟨A1, f1, hF1, t1⟩ := fil_takeZ h0F hk (by omega)
  obtain ⟨A2, f2, hF2, t2⟩ := fil_takeZ hF1 (by rw [hF1.n]; exact hk) (by rw [hF1.m, hF1.each k]; omega)
  refine ⟨A2, f2, hF2, fun w sb F B b c d e f g zs h => ?_⟩
  have c1 := t1 _ _ _ _ _ _ _ _ _ _ _ h
  simp only [Nat.zero_add] at c1 t2
  clear t1
  generalize hN A k 0 = H0 at *
  generalize hN A k 1 = H1 at *
  go_enter Tryz.func8, Tryz.ntmps8
  go_wp2_with (first | (go_at_call 29; with_reducible refine c1.mono ?_; rintro y w1 ⟨rfl, hK1, F1, B1, hS1, hG1⟩; (have c2 := t2 _ _ _ _ _ _ _ _ _ _ _ hS1)) | (go_at_call 29; with_reducible refine c2.mono ?_; rintro y w2 ⟨rfl, hK2, F2, B2, hS2, hG2⟩) | (go_at_call 6; go_must (refine (num_45 _ _).mono ?_); rintro y w' ⟨rfl, rfl⟩) | fail)
  go_ret2
  refine ⟨rfl, hK1.trans hK2 (H := F) (fun _ h => h) hG1, F2, B2, hS2, fun x hx => ?_⟩
  have := hK1.size
  rcases hG2 x hx with h1 | h1
  · exact hG1 x h1
  · exact .inr (by omega)

theorem hN_ne {A A' : Ab} {k fr : Nat} (h : Fil A A' k 2 fr) : hN A k 0 ≠ hN A k 1 := by
  intro e
  have hA := h.inv.fit
  obtain ⟨h1, _, _⟩ := h.isH (l := 0) (by omega)
  obtain ⟨h3, _, _⟩ := h.isH (l := 1) (by omega)
  have p1 := (h1.parts hA).1
  have p3 := (h3.parts hA).1
  rw [e] at p1
  obtain ⟨e1, e2⟩ := num_inj hA.toFit1 h1.hp h1.hk h3.hp h3.hk (p1.symm.trans p3)
  have d0 := Nat.div_add_mod 0 (A'.each k)
  have d1 := Nat.div_add_mod 1 (A'.each k)
  rw [← e1, ← e2] at d1
  omega
/-- Where the two lie. -/
theorem two_facts {A A' : Ab} {k fr : Nat} (h : Fil A A' k 2 fr) : ∃ pA kA pB kB, IsH A' (hN A k 0) pA kA ∧ IsH A' (hN A k 1) pB kB ∧ A'.own pA = k ∧ A'.own pB = k ∧ A'.place pA kA = plN A k 0 ∧ A'.place pB kB = plN A k 1 ∧ (plN A k 0 + A'.sz k ≤ plN A k 1 ∨ plN A k 1 + A'.sz k ≤ plN A k 0) := by
  have hA := h.inv.fit
  obtain ⟨h1, h2, h3⟩ := h.isH (l := 0) (by omega)
  obtain ⟨g1, g2, g3⟩ := h.isH (l := 1) (by omega)
  refine ⟨_, _, _, _, h1, g1, h3, g3, h2, g2, ?_⟩
  have := place_apart hA.toFit1 h1.hp h1.hk g1.hp g1.hk (fun ⟨e1, e2⟩ => by
    have d0 := Nat.div_add_mod 0 (A'.each k)
    have d1 := Nat.div_add_mod 1 (A'.each k)
    rw [← e1, ← e2] at d1
    omega)
  rw [h2, g2, h3, g3] at this
  exact this
theorem two_bytes {zs : List Int} {pa pb s : Nat} (h64 : 64 ≤ s) (ap : pa + s ≤ pb ∨ pb + s ≤ pa) (la : pa + s ≤ zs.length) (lb : pb + s ≤ zs.length) : (headZ (headZ zs pa 0) pb 0).length = zs.length ∧ cut (headZ (headZ zs pa 0) pb 0) (pa + 12) 4 = be 4 0 ∧ cut (headZ (headZ zs pa 0) pb 0) (pb + 12) 4 = be 4 0 := by
  have e1 := headZ_lay zs pa 0 (by omega)
  have l1 : (headZ zs pa 0).length = zs.length := by rw [e1]; exact length_lay (by rw [hd0_len]; omega)
  have e2 := headZ_lay (headZ zs pa 0) pb 0 (by omega)
  have l2 : (headZ (headZ zs pa 0) pb 0).length = zs.length := by rw [e2, length_lay (by rw [hd0_len]; omega), l1]
  refine ⟨l2, ?_, lies_gen (headZ_lies (headZ zs pa 0) pb 0 (by omega))⟩
  rw [e2, cut_far (headZ zs pa 0) pb _ (by rw [hd0_len]; omega) (pa + 12) 4 (by rw [hd0_len]; omega)]
  exact lies_gen (headZ_lies zs pa 0 (by omega))
end Go.Proofs.YtoomnhclaofgaaaGreat
