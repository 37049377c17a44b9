import Derived.Test.YtndjimdegkdljaaYc
/-
  What the document's disk tells.
-/
namespace Go.Proofs.Ytndjimdegkdljaa
open Go.RowKit Go.MapKept
set_option linter.unusedVariables false
set_option linter.unusedSimpArgs false
attribute [local go_sem] Oper.semAt_some

theorem racts_41 {w : World} {r : Rl} {M : Md} (h : RR w r M) : Calls Try.prog 41 #[pv r.d] w fun e w' => e = .returned (.int .i64 (M.acts : Int)) ∧ w' = w := by
  have c1 : w.cell? ⟨r.d, 4, none⟩ = some (.int .i64 (M.acts : Int)) := h.box.cell 4
  go_enter Try.func41, Try.ntmps41
  go_wp2
  go_ret
  exact ⟨rfl, rfl⟩
theorem rpower_42 {w : World} {r : Rl} {M : Md} (h : RR w r M) : Calls Try.prog 42 #[pv r.d] w fun e w' => e = .returned (.bool (!M.dark)) ∧ w' = w := by
  have c1 : w.cell? ⟨r.d, 6, none⟩ = some (.bool M.dark) := h.box.cell 6
  go_enter Try.func42, Try.ntmps42
  go_wp2
  go_ret
  exact ⟨rfl, rfl⟩
theorem anyL_next {M : Md} {L : List (Bs × Nat)} {i : Nat} {x : Bs} {k : Nat} (h : L[i]? = some (x, k)) : anyL M (L.take (i + 1)) = (anyL M (L.take i) || decide ((M.file k).2 < (M.file k).1.length)) := by
  unfold anyL
  rw [List.take_add_one, h]
  simp
set_option maxRecDepth 100000 in
set_option maxHeartbeats 4000000 in
theorem rloose_40 {w : World} {r : Rl} {M : Md} (h : RR w r M) {L : List (Bs × Nat)} (hL : Rep L M.names) :
    Calls Try.prog 40 #[pv r.d] w fun e w' => e = .returned (.bool (!M.ch.isEmpty || anyL M L)) ∧ w.grownBy w' none := by
  have h75 := names_75 h
  have hna := h.ok.na
  have hnf := h.ok.nf
  have hnc := h.ok.nc
  have c1 : w.cell? ⟨r.d, 1, none⟩ = some r.fv := h.box.cell 1
  have c3 : w.cell? ⟨r.d, 3, none⟩ = some r.cv := h.box.cell 3
  obtain ⟨fao, fcp, ef, -, hfc, hfcp, hfpos⟩ := row_shape h.fl
  obtain ⟨cao, ccp, ec, -⟩ := row_shape h.ch
  have HR := Lib.hid (And.intro h (And.intro hL ef))
  rw [ef] at c1
  rw [ec] at c3
  obtain ⟨nf, hnff⟩ : ∃ nf, M.files.length = nf := ⟨_, rfl⟩
  have HNF := Lib.hid hnff
  rw [hnff] at c1 hfpos hnf
  obtain ⟨res, hres⟩ : ∃ res, (!M.ch.isEmpty || anyL M L) = res := ⟨_, rfl⟩
  rw [hres]
  obtain ⟨nc, hnn⟩ : ∃ nc, M.ch.length = nc := ⟨_, rfl⟩
  have hem : M.ch.isEmpty = (nc == 0) := by rw [← hnn]; cases M.ch <;> rfl
  rw [hnn] at c3 hnc
  have HRES := Lib.hid (And.intro hres hem)
  clear h ef hnff hres ec hnn hem
  go_enter Try.func40, Try.ntmps40
  go_upto_region 2 with (go_at_call 75; go_must (refine h75.mono ?_); rintro e w1 ⟨v, L', rfl, hV, hR, hl, g1⟩)
  have hT : anyL M L = anyL M L' := anyL_perm (hL.perm hR)
  have hres := HRES.out.1
  rw [hT, HRES.out.2] at hres
  have HRES2 := Lib.hid hres
  obtain ⟨ao, cp, e0, -, -, hcp, hpos⟩ := row_shape hV
  subst e0
  obtain ⟨n, hN⟩ : ∃ n, L'.length = n := ⟨_, rfl⟩
  unfold NmV at hV
  rw [hN] at hV hpos hl ⊢
  have s1 := gb_cellN g1 c1
  have s3 := gb_cellN g1 c3
  have HV := Lib.hid (And.intro hV (And.intro hR hN))
  clear hV hR hN h75 hL hT c1 c3 hres HRES
  go_wp2_with fail
  go_loopw [4] (fun x4 wr => ∃ i : Nat, i ≤ n ∧ x4 = .int .i64 (i : Int) ∧ anyL M (L'.take i) = false ∧ w1.grownBy wr none) (fun x4 _ => n - (intOf x4).toNat)
  case atStart => exact ⟨0, by omega, rfl, by simp [anyL], gb_refl _ _⟩
  case round =>
    obtain ⟨i, hi, rfl, hno, gr⟩ := hrel
    obtain ⟨hV, hR, hN⟩ := HV.out
    have HNO := Lib.hid hno
    clear hno
    have s1 := gb_cellN gr s1
    have s3 := gb_cellN gr s3
    by_cases hlt : i < n
    · obtain ⟨⟨x, k⟩, hx⟩ : ∃ x, L'[i]? = some x := ⟨_, List.getElem?_eq_getElem (by rw [hN]; exact hlt)⟩
      obtain ⟨g, rfl⟩ := hpos (by omega)
      have h := HR.out.1
      have hk := reach_lt h.ok (Md.names_reach (lookup_at hR hx))
      have hfl := h.fl
      obtain ⟨gf, rfl⟩ := hfpos (by rw [HNF.out] at hk; omega)
      rw [HR.out.2.2] at hfl
      obtain ⟨bao, bcp, eb, -⟩ := row_shape (h.fr k hk)
      have hsn := anyL_next (M := M) hx
      obtain ⟨nb, hnb⟩ : ∃ nb, (M.file k).1.length = nb := ⟨_, rfl⟩
      obtain ⟨sb, hsb⟩ : ∃ sb, (M.file k).2 = sb := ⟨_, rfl⟩
      rw [hnb, hsb, HNO.out, Bool.false_or] at hsn
      rw [hnb] at eb
      rw [HNF.out] at hk hfl
      have q1 : wr.cell? ⟨g, i * 2 + 1, none⟩ = some (.int .i64 (k : Int)) := gb_cellN gr (row_cell hV (i * 2 + 1) _ (by rw [nm_get 1 hx (by omega)]; rfl))
      have t0 : wr.cell? ⟨gf, k * 2, none⟩ = some (.slice bao nb bcp) := gb_cellN gr (gb_cellN g1 (by
        rw [← eb]
        exact row_cell hfl (k * 2 + 0) _ (by rw [rng_get (fun i => fls_len r M i) hk (by omega)]; rfl)))
      have t1 : wr.cell? ⟨gf, k * 2 + 1, none⟩ = some (.int .i64 (sb : Int)) := gb_cellN gr (gb_cellN g1 (by
        rw [← hsb]
        exact row_cell hfl (k * 2 + 1) _ (by rw [rng_get (fun i => fls_len r M i) hk (by omega)]; rfl)))
      have d1 : decide ((i : Int) < (n : Int)) = true := by simp; omega
      have hib : (i : Int) < (n : Int) := by omega
      have hki : (k : Int) < (nf : Int) := by omega
      have hw1 : IntKind.i64.wrap ((i : Int) + 1) = (i : Int) + 1 := by rw [IntKind.wrap_i64]; omega
      by_cases hsl : sb < nb
      · have hsl2 : (sb : Int) < (nb : Int) := by omega
        have dsl : decide ((sb : Int) < (nb : Int)) = true := decide_eq_true hsl2
        have hres : res = true := by
          rw [← HRES2.out]
          have : anyL M L' = true := by
            have e := (List.take_append_drop (i + 1) L')
            rw [← e]
            unfold anyL at hsn ⊢
            rw [List.any_append, hsn]
            simp [hsl]
          rw [this, Bool.or_true]
        subst hres
        clear hV hR HV hfl h hx hsn hnb hsb eb
        go_upto_region 5 with fail
        go_quiet (fail)
        go_wp2_with fail
        go_ret
        exact ⟨rfl, gb_trans g1 (gb_drewN gr _)⟩
      · have hsl2 : ¬ (sb : Int) < (nb : Int) := by omega
        have dsl : decide ((sb : Int) < (nb : Int)) = false := decide_eq_false hsl2
        have HX := Lib.hid (show anyL M (L'.take (i + 1)) = false by rw [hsn]; simp [hsl])
        clear hV hR HV hfl h hx hsn hnb hsb eb
        go_upto_region 5 with fail
        go_quiet (fail)
        go_wp2_with fail
        exact ⟨⟨i + 1, by omega, by first | rfl | simp, HX.out, gb_drewN gr _⟩, by simp [intOf]; omega⟩
    · obtain rfl : i = n := by omega
      have d1 : decide ((i : Int) < (i : Int)) = false := by simp
      have hno := HNO.out
      rw [List.take_of_length_le (by rw [hN]; exact Nat.le_refl _)] at hno
      have hres := HRES2.out
      rw [hno, Bool.or_false] at hres
      have HG := Lib.hid (gb_trans g1 gr)
      clear hV hR HV hno HNO
      by_cases hc0 : nc = 0
      · subst hc0
        simp at hres
        subst hres
        go_wp2_with fail
        go_ret
        exact ⟨rfl, HG.out⟩
      · have hp1 : (0 : Int) < (nc : Int) := by omega
        have dp : decide ((0 : Int) < (nc : Int)) = true := decide_eq_true hp1
        have hr2 : res = true := by rw [← hres]; simp [hc0]
        subst hr2
        clear hres
        go_wp2_with fail
        go_ret
        exact ⟨by first | rfl | (simp; omega), HG.out⟩
set_option maxRecDepth 100000 in
set_option maxHeartbeats 4000000 in
theorem texts_38 {w : World} {B1 B2 : Nat} {v1 v2 : Value} {l : List Bs} (h1 : w.ownsRow B1 9 1 v1 l.length (l.map sv)) (h2 : w.ownsRow B2 9 1 v2 l.length (l.map sv)) (hl : l.length ≤ 1000000) :
    Calls Try.prog 38 #[v1, v2] w fun e w' => e = .returned (.bool true) ∧ w.grownBy w' none := by
  obtain ⟨a1, c1, e1, -, -, hc1, hp1⟩ := row_shape h1
  obtain ⟨a2, c2, e2, -, -, hc2, hp2⟩ := row_shape h2
  subst e1
  subst e2
  have H := Lib.hid (And.intro h1 h2)
  obtain ⟨n, hn⟩ : ∃ n, l.length = n := ⟨_, rfl⟩
  have HN := Lib.hid hn
  rw [hn] at hl hp1 hp2 ⊢
  clear h1 h2 hn
  go_enter Try.func38, Try.ntmps38
  go_wp2_with fail
  go_loopw [5] (fun x5 wr => ∃ i : Nat, i ≤ n ∧ x5 = .int .i64 (i : Int) ∧ w.grownBy wr none) (fun x5 _ => n - (intOf x5).toNat)
  case atStart => exact ⟨0, by omega, rfl, gb_refl _ _⟩
  case round =>
    obtain ⟨i, hi, rfl, gr⟩ := hrel
    by_cases hlt : i < n
    · obtain ⟨x, hx⟩ : ∃ x, l[i]? = some x := ⟨_, List.getElem?_eq_getElem (by rw [HN.out]; exact hlt)⟩
      obtain ⟨g1, rfl⟩ := hp1 (by omega)
      obtain ⟨g2, rfl⟩ := hp2 (by omega)
      obtain ⟨h1, h2⟩ := H.out
      rw [HN.out] at h1 h2
      have q1 : wr.cell? ⟨g1, i, none⟩ = some (sv x) := gb_cellN gr (row_cell h1 i _ (by rw [List.getElem?_map, hx]; rfl))
      have q2 : wr.cell? ⟨g2, i, none⟩ = some (sv x) := gb_cellN gr (row_cell h2 i _ (by rw [List.getElem?_map, hx]; rfl))
      have d1 : decide ((i : Int) < (n : Int)) = true := by simp; omega
      have hib : (i : Int) < (n : Int) := by omega
      have hw1 : IntKind.i64.wrap ((i : Int) + 1) = (i : Int) + 1 := by rw [IntKind.wrap_i64]; omega
      clear h1 h2 hx
      go_upto_region 6 with fail
      go_quiet (fail)
      go_wp2_with fail
      exact ⟨⟨i + 1, by omega, by first | rfl | simp, gb_drewN gr _⟩, by simp [intOf]; omega⟩
    · obtain rfl : i = n := by omega
      have d1 : decide ((i : Int) < (i : Int)) = false := by simp
      go_wp2_with fail
      go_ret
      exact ⟨rfl, gr⟩
end Go.Proofs.Ytndjimdegkdljaa
