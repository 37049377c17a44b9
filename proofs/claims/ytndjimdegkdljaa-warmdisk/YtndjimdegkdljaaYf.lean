import Derived.Test.YtndjimdegkdljaaYe
import Derived.Test.YtndjimdegkdljaaZl
import Derived.Sort.Walk0
/-
  The document's Names.
-/
namespace Go.Proofs.Ytndjimdegkdljaa
open Go.RowKit Go.MapKept
set_option linter.unusedVariables false
set_option linter.unusedSimpArgs false
attribute [local go_sem] Oper.semAt_some

def ins (S : List Bs) (k : Nat) (x : Bs) : List Bs := S.take k ++ x :: S.drop k
theorem ins_len (S : List Bs) (k : Nat) (x : Bs) : (ins S k x).length = S.length + 1 := by
  unfold ins
  have := congrArg List.length (List.take_append_drop k S)
  simp only [List.length_append, List.length_cons] at this ⊢
  omega
theorem ins_perm (S : List Bs) (k : Nat) (x : Bs) : (ins S k x).Perm (S ++ [x]) := by
  unfold ins
  refine List.perm_middle.trans ?_
  rw [List.take_append_drop]
  exact (List.perm_append_singleton x S).symm
theorem ins_end (S : List Bs) (x : Bs) : ins S S.length x = S ++ [x] := by
  unfold ins
  rw [List.take_length, List.drop_length]
theorem ins_x (S : List Bs) {k : Nat} (hk : k ≤ S.length) (x : Bs) : (ins S k x)[k]? = some x := by
  unfold ins
  rw [List.getElem?_append_right (by rw [List.length_take]; omega), List.length_take]
  rw [show k - min k S.length = 0 by omega]
  rfl
theorem ins_y {S : List Bs} {j : Nat} {y : Bs} (hj : S[j]? = some y) (x : Bs) : (ins S (j + 1) x)[j]? = some y := by
  have hl := (List.getElem?_eq_some_iff.1 hj).1
  unfold ins
  rw [List.getElem?_append_left (by rw [List.length_take]; omega), List.getElem?_take_of_lt (by omega)]
  exact hj
theorem ins_swap {S : List Bs} {j : Nat} {y : Bs} (hj : S[j]? = some y) (x : Bs) : ((ins S (j + 1) x).set (j + 1) y).set j x = ins S j x := by
  have hl := (List.getElem?_eq_some_iff.1 hj).1
  have hd : S.drop j = y :: S.drop (j + 1) := by
    rw [← List.getElem_cons_drop hl, (List.getElem?_eq_some_iff.1 hj).2]
  have ht : S.take (j + 1) = S.take j ++ [y] := by rw [List.take_add_one, hj]; rfl
  unfold ins
  rw [hd, ht, List.append_assoc]
  have hlen : (S.take j).length = j := by rw [List.length_take]; omega
  rw [List.set_append_right _ _ (by omega), hlen, show j + 1 - j = 1 by omega]
  rw [List.set_append_right _ _ (by omega), hlen, show j - j = 0 by omega]
  rfl
theorem ins_sorted {S : List Bs} {k : Nat} {x : Bs} (hS : S.Pairwise (· ≤ ·)) (h1 : ∀ y ∈ S.drop k, x < y) (h2 : ∀ y ∈ S.take k, y ≤ x) : (ins S k x).Pairwise (· ≤ ·) := by
  have hS' := hS
  rw [← List.take_append_drop k S, List.pairwise_append] at hS'
  unfold ins
  rw [List.pairwise_append]
  refine ⟨hS'.1, List.pairwise_cons.2 ⟨fun y hy => List.le_of_lt (h1 y hy), hS'.2.1⟩, fun a ha b hb => ?_⟩
  rcases List.mem_cons.1 hb with rfl | hb
  · exact h2 a ha
  · exact hS'.2.2 a ha b hb
theorem take_le {S : List Bs} {j : Nat} {x y : Bs} (hS : S.Pairwise (· ≤ ·)) (hj : S[j]? = some y) (hyx : y ≤ x) : ∀ z ∈ S.take (j + 1), z ≤ x := by
  have ht : S.take (j + 1) = S.take j ++ [y] := by rw [List.take_add_one, hj]; rfl
  have hS' := hS
  rw [← List.take_append_drop (j + 1) S, List.pairwise_append, ht, List.pairwise_append] at hS'
  intro z hz
  rw [ht] at hz
  rcases List.mem_append.1 hz with hz | hz
  · exact List.le_trans (hS'.1.2.2 z hz y (by simp)) hyx
  · rw [List.mem_singleton.1 hz]; exact hyx
theorem srt_of {S : List Bs} {L : List (Bs × Nat)} (hS : S.Pairwise (· ≤ ·)) (hp : S.Perm (L.map Prod.fst)) : S = srt L := by
  unfold srt
  refine List.Perm.eq_of_pairwise (le := fun a b => a ≤ b) (fun a b _ _ h1 h2 => List.le_antisymm h1 h2) hS ?_ (hp.trans (List.mergeSort_perm _ _).symm)
  have := List.pairwise_mergeSort (le := fun x y : Bs => decide (x ≤ y)) (fun a b c h1 h2 => by simp only [decide_eq_true_eq] at *; exact List.le_trans h1 h2) (fun a b => by simp only [Bool.or_eq_true, decide_eq_true_eq]; exact List.le_total a b) (L.map Prod.fst)
  exact this.imp (fun h => by simpa using h)
theorem ty67 : ∃ ti, Ty 67 9 ti (sv []) 1 16 := by
  obtain ⟨ti, hi, he⟩ := Option.map_eq_some_iff.1 (show (Try.prog.info? 9).map (fun i => (i.zero, i.size, i.bytes)) = some (some (sv []), 1, 16) by kernel_rfl)
  simp only [Prod.mk.injEq] at he
  exact ⟨ti, Try.underlying67, hi, he.1, he.2.1, he.2.2, rfl, by decide, by decide⟩
theorem rnames_dark {w : World} {r : Rl} {M : Md} (h : RR w r M) (hd : M.dark = true) :
    Calls Try.prog 39 #[pv r.d] w fun e w' => e = .returned (.slice none 0 0) ∧ w' = w := by
  have c6 : w.cell? ⟨r.d, 6, none⟩ = some (.bool M.dark) := h.box.cell 6
  rw [hd] at c6
  clear h
  go_enter Try.func39, Try.ntmps39
  go_wp2
  go_ret
  exact ⟨rfl, rfl⟩
set_option maxRecDepth 100000 in
set_option maxHeartbeats 4000000 in
theorem rnames_39 {w : World} {r : Rl} {M : Md} (h : RR w r M) (hd : M.dark = false) {L : List (Bs × Nat)} (hL : Rep L M.names) :
    Calls Try.prog 39 #[pv r.d] w fun e w' => ∃ v, e = .returned v ∧ w'.ownsRow w.heap.size 9 1 v L.length ((srt L).map sv) ∧ w.grownBy w' none := by
  have h75 := names_75 h
  have hna := h.ok.na
  have c6 : w.cell? ⟨r.d, 6, none⟩ = some (.bool M.dark) := h.box.cell 6
  rw [hd] at c6
  obtain ⟨t67, T67⟩ := ty67
  obtain ⟨res, hres⟩ : ∃ res, srt L = res := ⟨_, rfl⟩
  have hrl : res.length = L.length := by rw [← hres]; exact srt_len L
  rw [hres, ← hrl]
  have HRES := Lib.hid (And.intro hres hL)
  clear h hres hL hrl
  go_enter Try.func39, Try.ntmps39
  go_upto_region 5 with (go_at_call 75; go_must (refine h75.mono ?_); rintro e w1 ⟨v, L', rfl, hV, hR, hl, g1⟩)
  obtain ⟨ao, cp, e0, -, -, hcp, hpos⟩ := row_shape hV
  subst e0
  obtain ⟨n, hN⟩ : ∃ n, L'.length = n := ⟨_, rfl⟩
  unfold NmV at hV
  rw [hN] at hV hpos hl ⊢
  have HV := Lib.hid (And.intro hV (And.intro hR hN))
  clear hV hR hN h75 c6
  go_wp2_with fail
  go_loopw [3, 5] (fun x3 x5 wr => ∃ (i : Nat) (S : List Bs), i ≤ n ∧ x5 = .int .i64 (i : Int) ∧ S.length = i ∧ S.Pairwise (· ≤ ·) ∧ S.Perm ((L'.take i).map Prod.fst) ∧ wr.ownsRow w1.heap.size 9 1 x3 i (S.map sv) ∧ w1.grownBy wr none) (fun _ x5 _ => n - (intOf x5).toNat)
  case atStart => exact ⟨0, [], by omega, rfl, rfl, List.Pairwise.nil, by simp, World.ownsRow_nil _ _ _ _, gb_refl _ _⟩
  case round =>
    obtain ⟨i, S, hi, rfl, hSl, hSs, hSp, hrow, gr⟩ := hrel
    obtain ⟨hV, hR, hN⟩ := HV.out
    by_cases hlt : i < n
    · obtain ⟨⟨x, k⟩, hx⟩ : ∃ x, L'[i]? = some x := ⟨_, List.getElem?_eq_getElem (by rw [hN]; exact hlt)⟩
      obtain ⟨g, rfl⟩ := hpos (by omega)
      have q0 : wr.cell? ⟨g, i * 2, none⟩ = some (sv x) := gb_cellN gr (row_cell hV (i * 2 + 0) _ (by rw [nm_get 0 hx (by omega)]; rfl))
      have d1 : decide ((i : Int) < (n : Int)) = true := by simp; omega
      have hib : (i : Int) < (n : Int) := by omega
      have hw1 : IntKind.i64.wrap ((i : Int) + 1) = (i : Int) + 1 := by rw [IntKind.wrap_i64]; omega
      have hSp2 : (S ++ [x]).Perm ((L'.take (i + 1)).map Prod.fst) := by
        rw [List.take_add_one, hx, List.map_append]
        exact hSp.append (List.Perm.refl _)
      obtain ⟨a3, c3, e3, -⟩ := row_shape hrow
      subst e3
      have HS := Lib.hid (And.intro hSl (And.intro hSs hSp2))
      clear hV hR HV hx hSs hSp hSp2 hSl
      go_upto_region 9 with fail
      have hz1 := gr.size
      go_wp2_with (at_builtin; go_must (refine pushB T67 rfl _ _ rfl w1.heap.size _ i _ (by rfl) hrow [sv x] rfl (by simp [Value.oneCell']) (by rfl) (by omega) hz1 ?_); intro g7 c7 w7 hown7 hg7 hat7)
      have hg7b : w1.heap.size ≤ g7 := (row_ge hown7 rfl).1
      have G7 : w1.grownBy w7 none := gb_far gr hg7 (fun j hj => (row_ge hrow hj).1) (Nat.le_refl _)
      have hI0 : w7.ownsRow w1.heap.size 9 1 (.slice (some ⟨g7, 0, none⟩) (i + 1) c7) (i + 1) ((ins S i x).map sv) := by
        rw [← HS.out.1, ins_end, List.map_append, HS.out.1]
        exact hown7
      have HI0 := Lib.hid (And.intro hI0 G7)
      clear hI0 G7 hown7 hg7 hat7 hrow q0 gr
      go_loopw [6] (fun x6 wr => ∃ k : Nat, k ≤ i ∧ x6 = .int .i64 (k : Int) ∧ (∀ y ∈ S.drop k, x < y) ∧ wr.ownsRow w1.heap.size 9 1 (.slice (some ⟨g7, 0, none⟩) (i + 1) c7) (i + 1) ((ins S k x).map sv) ∧ w1.grownBy wr none) (fun x6 _ => (intOf x6).toNat)
      case atStart => exact ⟨i, Nat.le_refl _, rfl, (fun y hy => by rw [← HS.out.1, List.drop_length] at hy; cases hy), HI0.out.1, HI0.out.2⟩
      case round =>
        obtain ⟨k, hk, rfl, hgt, hrw, gk⟩ := hrel
        clear HI0
        have hSl := HS.out.1
        have qk := row_cell hrw k _ (by rw [List.getElem?_map, ins_x S (by omega) x]; rfl)
        by_cases hk0 : k = 0
        · subst hk0
          have HX := Lib.hid (And.intro hgt (And.intro hrw gk))
          clear hgt hrw gk qk
          go_upto_region 10 with fail
          go_quiet (fail)
          go_wp2_with fail
          obtain ⟨hgt, hrw, gk⟩ := HX.out
          obtain ⟨hSl, hSs, hSp2⟩ := HS.out
          exact ⟨⟨i + 1, ins S 0 x, by omega, by first | rfl | simp, by rw [ins_len, hSl], ins_sorted hSs hgt (fun y hy => by simp at hy), (ins_perm S 0 x).trans hSp2, hrw, gb_drewN gk _⟩, by simp [intOf]; omega⟩
        · obtain ⟨j, rfl⟩ : ∃ j, k = j + 1 := ⟨k - 1, by omega⟩
          obtain ⟨y, hy⟩ : ∃ y, S[j]? = some y := ⟨_, List.getElem?_eq_getElem (by omega)⟩
          have qj := row_cell hrw j _ (by rw [List.getElem?_map, ins_y hy x]; rfl)
          obtain ⟨cur, hcur⟩ := row_block hrw g7 rfl
          have fk : wr.frozen? ⟨g7, j + 1, none⟩ = false := by simp [World.frozen?, hcur]
          have fj : wr.frozen? ⟨g7, j, none⟩ = false := by simp [World.frozen?, hcur]
          have hkp : (0 : Int) < ((j + 1 : Nat) : Int) := by omega
          have dkp : decide ((0 : Int) < ((j + 1 : Nat) : Int)) = true := decide_eq_true hkp
          have hji : (j : Int) < ((i + 1 : Nat) : Int) := by omega
          have hki : ((j + 1 : Nat) : Int) < ((i + 1 : Nat) : Int) := by omega
          have hwj : IntKind.i64.wrap (((j + 1 : Nat) : Int) - 1) = (j : Int) := by rw [IntKind.wrap_i64]; omega
          have hwj2 : IntKind.i64.wrap ((j : Int) + 1 - 1) = (j : Int) := by rw [IntKind.wrap_i64]; omega
          by_cases hxy : x < y
          · have hb1 : Op.bytesLess y x = false := by rw [bytesLess_eq]; exact decide_eq_false (fun h => List.lt_irrefl _ (List.lt_trans hxy h))
            have hb2 : (y == x) = false := by simpa using (fun e : y = x => List.lt_irrefl x (by rw [e] at hxy; exact hxy))
            have hgt2 : ∀ z ∈ S.drop j, x < z := by
              have hl := (List.getElem?_eq_some_iff.1 hy).1
              rw [← List.getElem_cons_drop hl, (List.getElem?_eq_some_iff.1 hy).2]
              intro z hz
              rcases List.mem_cons.1 hz with rfl | hz
              · exact hxy
              · exact hgt z hz
            have HX := Lib.hid (And.intro hgt2 (And.intro hrw (And.intro gk hy)))
            clear hgt hgt2 hrw hcur hxy hy gk
            go_upto_region 10 with fail
            go_quiet (fail)
            go_wp2_with fail
            obtain ⟨hgt2, hrw, gk, hy⟩ := HX.out
            have hr2 := row_set (row_set (w := wr.drewN nq) hrw (j + 1) (sv y)) j (sv x)
            rw [← List.map_set, ← List.map_set, ins_swap hy x] at hr2
            have g2 : (wr.drewN nq).grownBy (((wr.drewN nq).setCell ⟨g7, j + 1, none⟩ (sv y)).setCell ⟨g7, j, none⟩ (sv x)) (some g7) := gb_setCell (gb_setCell (gb_refl _ _) _) _
            exact ⟨⟨j, by omega, by first | rfl | simp, hgt2, hr2, gb_mine (gb_drewN gk nq) g2 hg7b⟩, by simp [intOf]⟩
          · have hyx : y ≤ x := List.not_lt.1 hxy
            have hb3 : (Op.bytesLess y x || y == x) = true := by
              rw [bytesLess_eq]
              by_cases h : y < x
              · simp [h]
              · have : y = x := List.le_antisymm hyx (List.not_lt.1 h)
                simp [this]
            have HX := Lib.hid (And.intro hgt (And.intro hrw (And.intro gk (And.intro hy hyx))))
            clear hgt hrw hcur hxy hy gk hyx
            go_upto_region 10 with fail
            go_quiet (fail)
            go_wp2_with fail
            obtain ⟨hgt, hrw, gk, hy, hyx⟩ := HX.out
            obtain ⟨hSl, hSs, hSp2⟩ := HS.out
            exact ⟨⟨i + 1, ins S (j + 1) x, by omega, by first | rfl | simp, by rw [ins_len, hSl], ins_sorted hSs hgt (take_le hSs hy hyx), (ins_perm S (j + 1) x).trans hSp2, hrw, gb_drewN gk _⟩, by simp [intOf]; omega⟩
    · obtain rfl : i = n := by omega
      have d1 : decide ((i : Int) < (i : Int)) = false := by simp
      rw [List.take_of_length_le (by rw [hN]; exact Nat.le_refl _)] at hSp
      have hSr : S = res := by
        rw [← HRES.out.1, srt_of hSs hSp]
        unfold srt
        exact mergeSort_of_perm ((hR.perm HRES.out.2).map _)
      subst hSr
      have HF := Lib.hid (And.intro hrow (And.intro gr hSl))
      clear hrow hSp hV hR HV HRES
      go_wp2_with fail
      go_ret
      obtain ⟨hrow, gr, hSl⟩ := HF.out
      exact ⟨_, rfl, by rw [hSl]; exact row_up hrow (fun b hb => Nat.le_trans g1.size (row_ge hrow hb).1), gb_trans g1 gr⟩
end Go.Proofs.Ytndjimdegkdljaa
