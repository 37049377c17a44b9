import Derived.Test.YtndjimdegkdljaaYb
import Derived.Test.YtndjimdegkdljaaMf
/-
  The document's room; rows that came in.
-/
namespace Go.Proofs.Ytndjimdegkdljaa
open Go.RowKit Go.MapKept
set_option linter.unusedVariables false
set_option linter.unusedSimpArgs false
attribute [local go_sem] Oper.semAt_some

/-- A row that came in: no block of it has a colour. -/
def Hin (w : World) (col : Nat → Nat) (v : Value) (n sz : Nat) (xs : List Value) : Prop :=
  xs.length = n * sz ∧ ∃ ao c, v = .slice ao n c ∧ n ≤ c ∧ c ≤ maxLen ∧ (ao = none → n = 0 ∧ c = 0) ∧ (n ≠ 0 → ∃ b o, ao = some ⟨b, o, none⟩ ∧ col b = 0 ∧ b < w.heap.size ∧ ∀ j u, xs[j]? = some u → w.cell? ⟨b, o + j, none⟩ = some u)
theorem Hin.keep {w w' : World} {col : Nat → Nat} {v : Value} {n sz : Nat} {xs : List Value} (h : Hin w col v n sz xs) (hk : ∀ b, b < w.heap.size → col b = 0 → w'.heap[b]? = w.heap[b]?) (hs : w.heap.size ≤ w'.heap.size) : Hin w' col v n sz xs := by
  obtain ⟨h1, ao, c, h2, h3, h4, h5, h6⟩ := h
  refine ⟨h1, ao, c, h2, h3, h4, h5, fun hn => ?_⟩
  obtain ⟨b, o, e, hc, hl, hx⟩ := h6 hn
  refine ⟨b, o, e, hc, by omega, fun j u hu => ?_⟩
  have := hx j u hu
  simp only [World.cell?] at this ⊢
  rw [hk b hl hc]
  exact this
theorem Hin.gb {w w' : World} {col : Nat → Nat} {v : Value} {n sz : Nat} {xs : List Value} (h : Hin w col v n sz xs) (g : w.grownBy w' none) : Hin w' col v n sz xs := h.keep (fun b hb _ => g.block b hb (by simp)) g.size
theorem Hin.kp {w w' : World} {col : Nat → Nat} {v : Value} {n sz : Nat} {xs : List Value} (h : Hin w col v n sz xs) {F : Nat → Prop} (g : Kp F w w') (hF : ∀ b, F b → col b ≠ 0) : Hin w' col v n sz xs := h.keep (fun b hb hc => g.block b hb (fun hf => hF b hf hc)) g.size
theorem Hin.take {w : World} {col : Nat → Nat} {ao : Option Addr} {c n m sz : Nat} {xs : List Value} (h : Hin w col (.slice ao n c) n sz xs) (hm : m ≤ n) : Hin w col (.slice ao m c) m sz (xs.take (m * sz)) := by
  obtain ⟨h1, ao', c', h2, h3, h4, h5, h6⟩ := h
  injection h2 with e1 _ e2
  subst e1
  subst e2
  have hms : m * sz ≤ n * sz := Nat.mul_le_mul_right sz hm
  refine ⟨by rw [List.length_take, h1]; omega, ao, c, rfl, by omega, h4, fun e => ⟨by have := (h5 e).1; omega, (h5 e).2⟩, fun hn => ?_⟩
  obtain ⟨b, o, e, hc, hl, hx⟩ := h6 (by omega)
  refine ⟨b, o, e, hc, hl, fun j u hu => hx j u ?_⟩
  rw [List.getElem?_take] at hu
  split at hu
  · exact hu
  · cases hu
theorem Hin.nil (w : World) (col : Nat → Nat) (sz : Nat) : Hin w col (.slice none 0 0) 0 sz [] := ⟨by simp, none, 0, rfl, Nat.le_refl _, by unfold maxLen; omega, fun _ => ⟨rfl, rfl⟩, fun h => absurd rfl h⟩
theorem Hin.col {w : World} {col col' : Nat → Nat} {v : Value} {n sz : Nat} {xs : List Value} (h : Hin w col v n sz xs) (hc : ∀ b, b < w.heap.size → col b = 0 → col' b = 0) : Hin w col' v n sz xs := by
  obtain ⟨h1, ao, c, h2, h3, h4, h5, h6⟩ := h
  refine ⟨h1, ao, c, h2, h3, h4, h5, fun hn => ?_⟩
  obtain ⟨b, o, e, hc', hl, hx⟩ := h6 hn
  exact ⟨b, o, e, hc b hl hc', hl, hx⟩
section
variable {sl el : TypeId} {ti : TypeInfo} {z : Value} {sz bs : Nat} {w : World} {ops : Array Oper} {o : Oper} {a : Act} {Q : Exit → Act → World → Prop}
/-- append(l, m...) of a row that came in, in a region that draws. -/
theorem step_hin {K : Act → World → Prop} {E : Prop} {col : Nat → Nat} (T : Ty sl el ti z sz bs) (hgd : o.guard = none) (s x : Operand)
    (ho : o.op = .call { callee := .builtin .append, args := #[s, x], argTypes := #[sl, sl] }) (v : Value) (n : Nat) (xs : List Value) (hs : a.eval s = v) (hown : w.ownsRow 0 el sz v n xs) (m : Nat) (u : Value) (news : List Value) (hx : a.eval x = u) (hu : Hin w col u m sz news) (h1 : ∀ u ∈ news, u.oneCell' = true) (hn : n + m ≤ 1000000000)
    (h : ∀ ao c w', w'.ownsRow 0 el sz (.slice ao (n + m) c) (n + m) (xs ++ news) → w.grownBy w' v.ownBlock → (∀ b, (Value.slice ao (n + m) c).ownBlock = some b → v.ownBlock = some b ∨ w.heap.size ≤ b) → ((∃ ad, v = .slice (some ad) n 0) → ∃ g, ao = some ⟨g, 0, none⟩) → K (a.put o.dst (.slice ao (n + m) c)) w') :
    if Region.wanted o (yielded ops a.tmps) = true then Oper.wp Try.prog o a w K Q else E := by
  have hw : Region.wanted o (yielded ops a.tmps) = true := by simp [Region.wanted, hgd]
  rw [if_pos hw]
  obtain ⟨hl, ao, cp, rfl, hc1, hc2, hc3, hc4⟩ := hu
  by_cases h0 : m = 0
  · subst h0
    have hxs : news = [] := List.length_eq_zero_iff.1 (by rw [hl]; omega)
    subst hxs
    have hrun := run_psh0 T w o.type 0 _ n xs hown (.slice ao 0 cp) ⟨_, cp, rfl⟩
    have hown' := hown
    obtain ⟨ao2, c2, e2, _, _, _, hp⟩ := row_shape hown
    unfold Oper.wp
    simp [execOp, ho, resolve, invoke, builtin, hs, hx, hrun, Result.andThen]
    subst e2
    refine h ao2 c2 w (by rw [List.append_nil]; exact hown) (gb_refl _ _) (fun b hb => .inl hb) ?_
    rintro ⟨ad, e⟩
    rcases hown'.2 with ⟨h1, _⟩ | ⟨g', c', cur, h1, _⟩
    · rw [e] at h1; simp at h1
    · injection h1 with h1 _ _
      exact ⟨g', h1⟩
  · obtain ⟨b, oo, rfl, _, _, hcell⟩ := hc4 h0
    obtain ⟨v', w', hr, a1, a2⟩ := run_psh T w o.type v n xs hown ⟨b, oo, none⟩ m cp news hl (fun j u hj => by rw [Addr.add_mid]; exact hcell j u hj) h1 (by omega) hn
    obtain ⟨g', c', rfl, _, _⟩ := a1.form (by omega)
    unfold Oper.wp
    simp [execOp, ho, resolve, invoke, builtin, hs, hx, hr, Result.andThen]
    exact h _ c' w' a1 a2.gb (fun b hb => a2.at' hb) (fun _ => ⟨g', rfl⟩)
/-- append([]T{}, l...) of a row that came in. -/
theorem copyH {rest : List Oper} {col : Nat → Nat} {g0 m : Nat} (T : Ty sl el ti z sz bs) (hgd : o.guard = none) (s x : Operand)
    (ho : o.op = .call { callee := .builtin .append, args := #[s, x], argTypes := #[sl, sl] }) (hs : a.eval s = .slice (some ⟨g0, 0, none⟩) 0 0) (hown : w.ownsRow 0 el sz (.slice (some ⟨g0, 0, none⟩) 0 0) 0 []) (u : Value) (news : List Value) (hx : a.eval x = u) (hu : Hin w col u m sz news) (h1 : ∀ u ∈ news, u.oneCell' = true) (hn : m ≤ 1000000000)
    (h : ∀ g c w', w'.ownsRow 0 el sz (.slice (some ⟨g, 0, none⟩) m c) m news → w.grownBy w' (some g0) → (g = g0 ∨ w.heap.size ≤ g) → wpList Try.prog ops Q rest (a.put o.dst (.slice (some ⟨g, 0, none⟩) m c)) w') : wpList Try.prog ops Q (o :: rest) a w := by
  refine wpList_plain hgd fun K hK => ?_
  have := step_hin (ops := ops) (K := K) (E := True) (Q := Q) T hgd s x ho _ 0 [] hs hown m u news hx hu h1 (by omega) (fun ao c w' a1 a2 a3 a4 => by
    obtain ⟨g, rfl⟩ := a4 ⟨_, rfl⟩
    rw [Nat.zero_add, List.nil_append] at a1
    rw [Nat.zero_add] at a3 ⊢
    refine hK _ _ (h g c w' a1 a2 ((a3 g rfl).imp (fun e => by simpa [Value.ownBlock] using e.symm) id)))
  rwa [if_pos (by simp [Region.wanted, hgd])] at this
end
theorem sumL_le {M : Md} {L : List (Bs × Nat)} (i : Nat) : sumL M (L.take i) ≤ sumL M L := by
  have h : sumL M (L.take i ++ L.drop i) = sumL M (L.take i) + sumL M (L.drop i) := by
    unfold sumL
    rw [List.map_append, List.sum_append]
  rw [List.take_append_drop] at h
  omega
theorem sumL_next {M : Md} {L : List (Bs × Nat)} {i : Nat} {x : Bs} {k : Nat} (h : L[i]? = some (x, k)) : sumL M (L.take (i + 1)) = sumL M (L.take i) + (M.file k).1.length := by
  unfold sumL
  rw [List.take_add_one, h]
  simp
set_option maxRecDepth 100000 in
set_option maxHeartbeats 4000000 in
theorem room_86 {w : World} {r : Rl} {M : Md} (h : RR w r M) {L : List (Bs × Nat)} (hL : Rep L M.names) (hsm : sumL M L ≤ 1000000000000) :
    Calls Try.prog 86 #[pv r.d] w fun e w' => e = .returned (.int .i64 (max (M.space - (sumL M L : Int)) 0)) ∧ w.grownBy w' none := by
  have h75 := names_75 h
  have hna := h.ok.na
  have hs0 := h.ok.s0
  have hs1 := h.ok.s1
  have hnf := h.ok.nf
  have c0 : w.cell? ⟨r.d, 0, none⟩ = some (.int .i64 M.space) := h.box.cell 0
  have c1 : w.cell? ⟨r.d, 1, none⟩ = some r.fv := h.box.cell 1
  obtain ⟨fao, fcp, ef, -, hfc, hfcp, hfpos⟩ := row_shape h.fl
  have HR := Lib.hid (And.intro h (And.intro hL ef))
  rw [ef] at c1
  obtain ⟨nf, hnff⟩ : ∃ nf, M.files.length = nf := ⟨_, rfl⟩
  have HNF := Lib.hid hnff
  rw [hnff] at c1 hfpos hnf
  obtain ⟨res, hres⟩ : ∃ res, max (M.space - (sumL M L : Int)) 0 = res := ⟨_, rfl⟩
  rw [hres]
  have HRES := Lib.hid hres
  clear h ef hnff hres
  go_enter Try.func86, Try.ntmps86
  go_upto_region 3 with (go_at_call 75; go_must (refine h75.mono ?_); rintro e w1 ⟨v, L', rfl, hV, hR, hl, g1⟩)
  have hT : sumL M L = sumL M L' := sumL_perm (hL.perm hR)
  rw [hT] at hsm
  have hres := HRES.out
  rw [hT] at hres
  have HRES2 := Lib.hid hres
  clear hres HRES
  obtain ⟨ao, cp, e0, -, -, hcp, hpos⟩ := row_shape hV
  subst e0
  obtain ⟨n, hN⟩ : ∃ n, L'.length = n := ⟨_, rfl⟩
  unfold NmV at hV
  rw [hN] at hV hpos hl ⊢
  have s1 := gb_cellN g1 c1
  have HV := Lib.hid (And.intro hV (And.intro hR hN))
  clear hV hR hN h75 hL hT c0 c1
  go_wp2_with fail
  go_loopw [3, 5] (fun x3 x5 wr => ∃ i : Nat, i ≤ n ∧ x5 = .int .i64 (i : Int) ∧ x3 = .int .i64 (M.space - (sumL M (L'.take i) : Int)) ∧ w1.grownBy wr none) (fun _ x5 _ => n - (intOf x5).toNat)
  case atStart => exact ⟨0, by omega, rfl, by simp [sumL], gb_refl _ _⟩
  case round =>
    obtain ⟨i, hi, rfl, rfl, gr⟩ := hrel
    obtain ⟨hV, hR, hN⟩ := HV.out
    by_cases hlt : i < n
    · obtain ⟨⟨x, k⟩, hx⟩ : ∃ x, L'[i]? = some x := ⟨_, List.getElem?_eq_getElem (by rw [hN]; exact hlt)⟩
      obtain ⟨g, rfl⟩ := hpos (by omega)
      have h := HR.out.1
      have hk := reach_lt h.ok (Md.names_reach (lookup_at hR hx))
      have hfl := h.fl
      obtain ⟨gf, rfl⟩ := hfpos (by rw [HNF.out] at hk; omega)
      rw [HR.out.2.2] at hfl
      obtain ⟨bao, bcp, eb, -⟩ := row_shape (h.fr k hk)
      have hsn := sumL_next (M := M) hx
      have hsl := sumL_le (M := M) (L := L') (i + 1)
      have hsl0 := sumL_le (M := M) (L := L') i
      obtain ⟨nb, hnb⟩ : ∃ nb, (M.file k).1.length = nb := ⟨_, rfl⟩
      obtain ⟨S, hS⟩ : ∃ S, sumL M (L'.take i) = S := ⟨_, rfl⟩
      rw [hnb, hS] at hsn
      rw [hsn] at hsl
      rw [hS] at hsl0 ⊢
      rw [hnb] at eb
      rw [HNF.out] at hk hfl
      have q1 : wr.cell? ⟨g, i * 2 + 1, none⟩ = some (.int .i64 (k : Int)) := gb_cellN gr (row_cell hV (i * 2 + 1) _ (by rw [nm_get 1 hx (by omega)]; rfl))
      have t0 : wr.cell? ⟨gf, k * 2, none⟩ = some (.slice bao nb bcp) := gb_cellN gr (gb_cellN g1 (by
        rw [← eb]
        exact row_cell hfl (k * 2 + 0) _ (by rw [rng_get (fun i => fls_len r M i) hk (by omega)]; rfl)))
      have s1 := gb_cellN gr s1
      have d1 : decide ((i : Int) < (n : Int)) = true := by simp; omega
      have hib : (i : Int) < (n : Int) := by omega
      have hki : (k : Int) < (nf : Int) := by omega
      have hw1 : IntKind.i64.wrap ((i : Int) + 1) = (i : Int) + 1 := by rw [IntKind.wrap_i64]; omega
      have hw2 : IntKind.i64.wrap (M.space - (S : Int) - (nb : Int)) = M.space - ((S + nb : Nat) : Int) := by rw [IntKind.wrap_i64]; omega
      have HX := Lib.hid hsn
      clear hV hR HV hfl h hx hsn hsl hsl0 hS hnb eb
      go_upto_region 6 with fail
      go_quiet (fail)
      go_wp2_with fail
      exact ⟨⟨i + 1, by omega, by first | rfl | simp, by rw [HX.out]; first | rfl | (congr 1; omega) | (congr 1; simp; done), gb_drewN gr _⟩, by simp [intOf]; omega⟩
    · obtain rfl : i = n := by omega
      have d1 : decide ((i : Int) < (i : Int)) = false := by simp
      rw [List.take_of_length_le (by rw [hN]; exact Nat.le_refl _)]
      have HG := Lib.hid (gb_trans g1 gr)
      have hres := HRES2.out
      generalize sumL M L' = T at *
      clear hV hR HV
      by_cases hneg : M.space - (T : Int) < 0
      · have dn : decide (M.space - (T : Int) < 0) = true := decide_eq_true hneg
        have em : max (M.space - (T : Int)) 0 = 0 := by omega
        rw [em] at hres
        subst hres
        go_wp2_with fail
        go_ret
        exact ⟨rfl, HG.out⟩
      · have dn : decide (M.space - (T : Int) < 0) = false := decide_eq_false hneg
        have em : max (M.space - (T : Int)) 0 = M.space - (T : Int) := by omega
        rw [em] at hres
        subst hres
        go_wp2_with fail
        go_ret
        exact ⟨rfl, HG.out⟩
end Go.Proofs.Ytndjimdegkdljaa
