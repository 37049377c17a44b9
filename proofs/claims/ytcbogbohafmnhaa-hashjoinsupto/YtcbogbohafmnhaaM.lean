/-
  HashJoins' walk.
-/
import Derived.Test.YtcbogbohafmnhaaL
namespace Go.Proofs.Ytcbogbohafmnhaa
open Go.RowKit
set_option linter.unusedVariables false

section
variable {w : World} {o : Oper} {a : Act} {K : Act → World → Prop} {Q : Exit → Act → World → Prop}

/-- append(l, b...), as one operation. -/
theorem wp_more (s x : Operand) (ho : o.op = .call { callee := .builtin .append, args := #[s, x], argTypes := #[23, 23] }) (B : Nat) (ao : Option Addr) (cap : Nat) (us : List Int)
    (hs : a.eval s = .slice ao us.length cap) (hown : Own B w ao cap us) (ad : Option Addr) (n c : Nat) (ys : List Int) (hx : a.eval x = .slice ad n c) (hy : Has w ad n ys) (hc : ad = none → c = 0) (hlen : us.length + n ≤ 140737488355328) (hB : B ≤ w.heap.size)
    (h : ∀ ao' cap' w', Own B w' ao' cap' (us ++ ys) → w.grownBy w' (blk ao) → K (a.put o.dst (.slice ao' (us.length + n) cap')) w') : o.wp Try.prog a w K Q := by
  obtain ⟨i0, hi, hz0, hz1, hz2⟩ := info_parts Try.info5
  obtain ⟨hl, hcells⟩ := hy
  cases ad with
  | none =>
    have hn : n = 0 := by
      rcases Nat.eq_zero_or_pos n with h1 | h1
      · exact h1
      · obtain ⟨_, _, h2, _⟩ := hcells h1; cases h2
    subst hn
    obtain rfl : ys = [] := List.eq_nil_of_length_eq_zero hl
    have hc0 := hc rfl
    subst hc0
    have hrun := run_append_owned_none (P := Try.prog) (w := w) B 23 o.type 5 i0 1 Try.underlying23 hi _ _ _ hown
    have hK := h ao cap w (by simpa using hown) (gb_refl _ _)
    unfold Oper.wp
    simp [execOp, ho, resolve, invoke, builtin, hs, hx, hrun, Result.andThen]
    have hK2 : K (a.put o.dst (Value.slice ao us.length cap)) w := by simpa using hK
    exact hK2
  | some ad =>
    refine wp_append_own w s x 23 ho B 5 i0 (.int .u8 0) 1 1 Try.underlying23 hi hz0 hz1 hz2 rfl (by decide) _ _ _ hs hown ad n c (ys.map (Value.int .u8)) hx (by simpa using hl) ?_ ?_ ?_ ?_ hB ?_
    · intro j u hj
      have hjn : j < n := by
        have := (List.getElem?_eq_some_iff.1 hj).1
        simp at this; omega
      obtain ⟨bb, oo, e1, e2⟩ := hcells (by omega)
      cases e1
      rw [Addr.add_mid, e2 j hjn, ← hj]
      simp [List.getD, show j < ys.length by omega]
    · intro u hu
      obtain ⟨z, _, rfl⟩ := List.mem_map.1 hu
      rfl
    · unfold maxLen; omega
    · omega
    · intro v' w' hown' hgr _
      rcases hown'.2 with ⟨hv, hn0⟩ | ⟨g, cap', cur, hv, hb, hg, h1, h2, h3, h4⟩
      · subst hv
        have e0 : us = [] := List.eq_nil_of_length_eq_zero (by omega)
        have e1 : ys = [] := List.eq_nil_of_length_eq_zero (by omega)
        subst e0; subst e1
        have hn0' : n = 0 := by simpa using hl.symm
        subst hn0'
        rw [ownBlock_blk] at hgr
        exact h none 0 w' (Own.nil _ _) hgr
      · subst hv
        rw [ownBlock_blk] at hgr
        refine h (some ⟨g, 0, none⟩) cap' w' ?_ hgr
        unfold Own
        rw [List.length_append, hl, List.map_append]
        exact hown'

/-- append(l, b...), as one step of a region that draws. -/
theorem step_more {ops : Array Oper} {E : Prop} (hgd : o.guard = none) (s x : Operand) (ho : o.op = .call { callee := .builtin .append, args := #[s, x], argTypes := #[23, 23] }) (B : Nat) (ao : Option Addr) (cap : Nat) (us : List Int)
    (hs : a.eval s = .slice ao us.length cap) (hown : Own B w ao cap us) (ad : Option Addr) (n c : Nat) (ys : List Int) (hx : a.eval x = .slice ad n c) (hy : Has w ad n ys) (hc : ad = none → c = 0) (hlen : us.length + n ≤ 140737488355328) (hB : B ≤ w.heap.size)
    (h : ∀ ao' cap' w', Own B w' ao' cap' (us ++ ys) → w.grownBy w' (blk ao) → K (a.put o.dst (.slice ao' (us.length + n) cap')) w') :
    if Region.wanted o (yielded ops a.tmps) = true then Oper.wp Try.prog o a w K Q else E := by
  have hw : Region.wanted o (yielded ops a.tmps) = true := by simp [Region.wanted, hgd]
  rw [if_pos hw]
  exact wp_more s x ho B ao cap us hs hown ad n c ys hx hy hc hlen hB h
end

theorem own_none (w : World) (B : Nat) (hB : B ≤ w.heap.size) : Own B (w.alloc (.cells #[] 5)) (some ⟨w.heap.size, 0, none⟩) 0 [] :=
  ⟨by simp, .inr ⟨w.heap.size, 0, _, rfl, hB, heap_alloc_new w _, Nat.le_refl _, by unfold maxLen; omega, rfl, rfl⟩⟩

theorem sumB_app (xs ys : List Int) : fon (sumB xs) (nb ys) = sumB (xs ++ ys) := by
  unfold sumB
  rw [nb_app, fon_append]
theorem on_all {W : World} {a : Option Addr} {ys : List Int} (c : Nat) (h : Has W a ys.length ys) (hb : isBytes ys) (hl : ys.length ≤ 281474976710656) :
    Calls Try.prog 24 #[.int .u64 14695981039346656037, .slice a ys.length c] W fun e w' => e = .returned (.int .u64 (sumB ys : Nat)) ∧ w' = W := by
  have := on_24 h hb c hl 14695981039346656037 (by decide)
  simp only [Int.cast_ofNat_Int] at this
  exact this
/-- One byte that is another one gives another sum. -/
theorem sum_turn (l : List Int) (hb : isBytes l) (k : Nat) (hk : k < l.length) (b : Nat) (hb0 : 0 < b) (hb2 : b < 256) :
    sumB (l.set k (((l.getD k 0).toNat ^^^ b : Nat) : Int)) ≠ sumB l := by
  obtain ⟨c, hc, hc2, hc3⟩ := byte_at hb k hk
  have e1 : l = l.take k ++ (l.getD k 0 :: l.drop (k + 1)) := by
    rw [List.getD_eq_getElem?_getD, List.getElem?_eq_getElem hk, Option.getD_some, List.getElem_cons_drop, List.take_append_drop]
  have e2 : ∀ v, l.set k v = l.take k ++ (v :: l.drop (k + 1)) := by
    intro v
    rw [List.set_eq_take_append_cons_drop, if_pos hk]
  intro h
  rw [e2] at h
  have h' : sumB (l.take k ++ ((((l.getD k 0).toNat ^^^ b : Nat) : Int) :: l.drop (k + 1))) = sumB (l.take k ++ (l.getD k 0 :: l.drop (k + 1))) := by rw [← e1]; exact h
  rw [hc3] at h'
  rw [hc] at h'
  unfold sumB at h'
  rw [nb_app, nb_app, fon_append, fon_append] at h'
  have n1 : ∀ (z : Nat) (t : List Int), nb ((z : Int) :: t) = z :: nb t := fun z t => by simp [nb]
  rw [n1, n1, fon_cons, fon_cons] at h'
  have hA := fon_lt 14695981039346656037 (nb (l.take k)) (by decide)
  generalize fon 14695981039346656037 (nb (l.take k)) = a at *
  have hx : c ^^^ b < 18446744073709551616 := xor_lt _ _ (by omega) (by omega)
  have h2 := fon_inj (nb (l.drop (k + 1))) _ _ (fnv_lt _ _) (fnv_lt _ _) (by
    intro z hz
    obtain ⟨y, hy, rfl⟩ := List.mem_map.1 hz
    have := hb y (List.mem_of_mem_drop hy)
    omega) h'
  have h3 := fnv_inj a a (c ^^^ b) c hA hA hx (by omega) h2
  have h4 : (a ^^^ a) ^^^ (c ^^^ b) = (a ^^^ a) ^^^ c := by rw [Nat.xor_assoc, Nat.xor_assoc, h3]
  rw [Nat.xor_self, Nat.zero_xor, Nat.zero_xor] at h4
  have h5 : (c ^^^ c) ^^^ b = c ^^^ c := by rw [Nat.xor_assoc, h4]
  rw [Nat.xor_self, Nat.zero_xor] at h5
  omega

theorem Own.set {B : Nat} {w : World} {g cap : Nat} {us : List Int} (h : Own B w (some ⟨g, 0, none⟩) cap us) (k : Nat) (v : Int) : Own B (w.setCell ⟨g, k, none⟩ (.int .u8 v)) (some ⟨g, 0, none⟩) cap (us.set k v) := by
  have := row_set h k (.int .u8 v)
  unfold Own
  rw [List.length_set, List.map_set]
  exact this
theorem Own.row {B : Nat} {w : World} {g cap : Nat} {us : List Int} (h : Own B w (some ⟨g, 0, none⟩) cap us) : ∃ cur, w.heap[g]? = some (.cells cur 5 (0, 0)) := row_block h g rfl

theorem sum_zero : sumB [0] = 12638153115695167455 := by decide +kernel

set_option maxRecDepth 100000 in
set_option maxHeartbeats 4000000 in
theorem joins_any (aA aB : Option Addr) (cA cB : Nat) (xs ys : List Int) (at_ by_ : Int) (w : World)
    (hA : Has w aA xs.length xs) (bA : isBytes xs) (kA : xs.length ≤ 70368744177664) (dA : aA = none → cA = 0)
    (hB : Has w aB ys.length ys) (bB : isBytes ys) (kB : ys.length ≤ 70368744177664) (dB : aB = none → cB = 0) (hby : 0 ≤ by_ ∧ by_ < 256) :
    Calls Try.prog 7 #[.agg #[.slice aA xs.length cA, .slice aB ys.length cB, .int .i64 at_, .int .u8 by_]] w fun e w' => e = .returned (.bool true) ∧ w.grownBy w' none := by
  obtain ⟨bx, hbx0⟩ : ∃ bx : Array Value, bx = #[.slice aA xs.length cA, .slice aB ys.length cB, .int .i64 at_, .int .u8 by_] := ⟨_, rfl⟩
  have i0 : bx[0]? = some (.slice aA xs.length cA) := by rw [hbx0]; rfl
  have i1 : bx[1]? = some (.slice aB ys.length cB) := by rw [hbx0]; rfl
  have i2 : bx[2]? = some (.int .i64 at_) := by rw [hbx0]; rfl
  have i3 : bx[3]? = some (.int .u8 by_) := by rw [hbx0]; rfl
  have hbx := Box.new w 52 bx
  have hF := gb_alloc (gb_refl w none) (.cells bx 52)
  have hA1 := hA.alloc (.cells bx 52)
  have hB1 := hB.alloc (.cells bx 52)
  have c0 := hbx.cell 0
  have c1 := hbx.cell 1
  have c2 := hbx.cell 2
  have c3 := hbx.cell 3
  rw [i0] at c0
  rw [i1] at c1
  rw [i2] at c2
  rw [i3] at c3
  rw [hbx0] at hF hA1 hB1 c0 c1 c2 c3
  clear hbx hA hB i0 i1 i2 i3 hbx0 bx
  go_enter Try.func7, Try.ntmps7
  go_upto_region 1 with fail
  generalize w.alloc (.cells #[.slice aA xs.length cA, .slice aB ys.length cB, .int .i64 at_, .int .u8 by_] 52) = W1 at *
  generalize w.heap.size = gb at *
  have hS1 : ∀ W, W1.grownBy W none → (W.cell? ⟨gb, 0, none⟩ = some (.slice aA xs.length cA) ∧ W.cell? ⟨gb, 1, none⟩ = some (.slice aB ys.length cB)) := fun W h => ⟨gb_cellN h c0, gb_cellN h c1⟩
  have hO0 : Own W1.heap.size (W1.alloc (.cells #[] 5)).drew (some ⟨W1.heap.size, 0, none⟩) 0 [] := own_none W1 W1.heap.size (Nat.le_refl _)
  have hA2 : Has (W1.alloc (.cells #[] 5)).drew aA xs.length xs := hA1.alloc _
  have hz2 : W1.heap.size ≤ (W1.alloc (.cells #[] 5)).drew.heap.size := by simp
  have hg0 : W1.grownBy (W1.alloc (.cells #[] 5)).drew none := gb_drew (gb_alloc (gb_refl W1 none) _)
  go_region_held3 (fun w' => w'.cell? ⟨gb, 0, none⟩ = some (.slice aA xs.length cA) ∧ w'.cell? ⟨gb, 1, none⟩ = some (.slice aB ys.length cB)) ((first | exact hS1 _ hg2 | exact hS1 _ hg1 | exact hS1 _ hg0 | exact hS1 _ (gb_drew (gb_refl W1 none)) | exact ⟨c0, c1⟩ | go_keep))
    ((first | (refine step_more rfl (.tmp 7) (.tmp 9) rfl W1.heap.size (some ⟨W1.heap.size, 0, none⟩) 0 [] (by rfl) hO0 aA xs.length cA xs (by rfl) hA2 dA (by simp; omega) hz2 ?_; intro ao1 cap1 w2 hown1 hgr1; (have hg1 := gb_far hg0 hgr1 (fun k e => by cases e; exact Nat.le_refl _) (Nat.le_refl _)); simp only [List.nil_append, List.length_nil, Nat.zero_add] at hown1 ⊢) | (refine step_more rfl (.tmp 10) (.tmp 12) rfl W1.heap.size ao1 cap1 xs (by rfl) hown1 aB ys.length cB ys (by rfl) (hB1.kept0 hg1) dB (by omega) hg1.size ?_; intro ao2 cap2 w3 hown2 hgr2; (have hg2 := gb_far hg1 hgr2 (fun k e => (hown1.lt k e).1) (Nat.le_refl _)))))
  have hF3 := gb_trans hF hg2
  have hx3 := hA1.kept0 hg2
  have hy3 := hB1.kept0 hg2
  have c0 := gb_cellN hg2 c0
  have c1 := gb_cellN hg2 c1
  have c2 := gb_cellN hg2 c2
  have c3 := gb_cellN hg2 c3
  have hall := hown2.has
  have bAll : isBytes (xs ++ ys) := by
    intro z hz
    rcases List.mem_append.1 hz with hz | hz
    · exact bA z hz
    · exact bB z hz
  have hll : (xs ++ ys).length = xs.length + ys.length := List.length_append
  have s1 := fun q => sum_11 (hall.drewN q) bAll cap2 (by omega)
  have s2 := fun q => sum_11 (hx3.drewN q) bA cA (by omega)
  have s3 := fun q => on_24 (hy3.drewN q) bB cB (by omega) (sumB xs) (sumB_lt _)
  rw [sumB_app] at s3
  have s4 := fun q => on_all cap2 (hall.drewN q) bAll (by omega)
  rw [hll] at s1 s4
  have hnc : ao2 = none → cap2 = 0 := fun h => by subst h; exact hown2.nilcap.1
  rw [hll] at hall
  have HA3 : Hid (Has w3 ao2 (xs.length + ys.length) (xs ++ ys)) := hall
  have HBA : Hid (isBytes (xs ++ ys)) := bAll
  have HLL : Hid _ := hll
  have hsl := sumB_lt (xs ++ ys)
  have hsx := sumB_lt xs
  have HSA : Hid (sumB (xs ++ ys) = sumB (xs ++ ys)) := rfl
  clear hA1 hB1 hS1 hO0 hA2 hz2 hg0 hx3 hy3 hall hll hown1 hgr1 hgr2 hown2
  generalize xs ++ ys = all at *
  generalize hsm : sumB all = sm at *
  have HSM : Hid (sumB all = sm) := hsm
  clear hsm HSA
  generalize sumB xs = sx at *
  generalize hnn : xs.length + ys.length = nn at *
  have hnb : nn ≤ 140737488355328 := by omega
  clear hnn kA kB
  have e1 := s1 0
  go_wp2_with (first | (go_at_call 11; go_must (refine e1.mono ?_); rintro e w' ⟨rfl, rfl⟩) | fail)
  go_quiet ((first | (go_at_call 11; with_reducible exact Calls.quiet_of_same (s2 _)) | (go_at_call 24; first | with_reducible exact Calls.quiet_of_same (s3 _) | with_reducible exact Calls.quiet_of_same (s4 _))))
  have hFV : w.grownBy ((w3.drewN 0).drewN nq) none := gb_drewN (gb_drewN hF3 0) nq
  have HAV : Hid (Has ((w3.drewN 0).drewN nq) ao2 nn all) := HA3.out
  have c2 : ((w3.drewN 0).drewN nq).cell? ⟨gb, 2, none⟩ = some (.int .i64 at_) := c2
  have c3 : ((w3.drewN 0).drewN nq).cell? ⟨gb, 3, none⟩ = some (.int .u8 by_) := c3
  clear s1 s2 s3 s4 e1 hF3 hF HA3 hg1 hg2
  generalize (w3.drewN 0).drewN nq = V at *
  have s5 : Calls Try.prog 11 #[.slice (some ⟨V.heap.size, 0, none⟩) 1 1] (V.alloc (.cells #[.int .u8 0] 5)) fun e w' => e = .returned (.int .u64 12638153115695167455) ∧ w' = V.alloc (.cells #[.int .u8 0] 5) := by
    have := sum_11 (has_one V 0 (0, 0)) (by intro z hz; simp at hz; omega) 1 (by omega)
    rw [sum_zero] at this
    simp only [Int.cast_ofNat_Int] at this
    exact this
  have s6 : ∀ W, Calls Try.prog 11 #[.slice none 0 0] W fun e w' => e = .returned (.int .u64 14695981039346656037) ∧ w' = W := fun W => by
    have := sum_11 (has_nil W) (by intro z hz; simp at hz) 0 (by omega)
    rw [sum_nil] at this
    simp only [Int.cast_ofNat_Int] at this
    exact this
  by_cases h0 : nn = 0
  · subst h0
    go_wp2_with (first | (go_at_call 11; go_must (with_reducible first | refine s5.mono ?_ | refine (s6 _).mono ?_); rintro e w' ⟨rfl, rfl⟩) | fail)
    go_ret
    exact ⟨rfl, gb_alloc hFV _⟩
  have hn0 : ((nn : Int) == 0) = false := by simp; omega
  by_cases hb0 : by_ = 0
  · subst hb0
    go_wp2_with (first | (go_at_call 11; go_must (with_reducible first | refine s5.mono ?_ | refine (s6 _).mono ?_); rintro e w' ⟨rfl, rfl⟩) | fail)
    go_ret
    exact ⟨rfl, gb_alloc hFV _⟩
  have hb1 : (by_ == 0) = false := by simp; omega
  clear s5 s6
  obtain ⟨r, k, e5, b5, b6, e6, hk⟩ := within at_ nn (by omega)
  have hO4 := own_none V V.heap.size (Nat.le_refl _)
  have hH4 := HAV.out.alloc (.cells #[] 5)
  have hz4 : V.heap.size ≤ (V.alloc (.cells #[] 5)).heap.size := by simp
  go_wp2_with (first | (at_builtin; go_must (refine wpList_more rfl _ _ rfl V.heap.size _ 0 [] (by rfl) hO4 ao2 nn cap2 all (by rfl) hH4 hnc (by simp; omega) hz4 ?_)) | fail)
  intro ao3 cap3 w5 hown3 hgr3
  have hg5 := gb_far (gb_alloc (gb_refl V none) (.cells #[] 5)) hgr3 (fun k e => by cases e; exact Nat.le_refl _) (Nat.le_refl _)
  obtain ⟨g, rfl, hgb, hcp, hmx⟩ := hown3.shape (by rw [HLL.out]; omega)
  unfold maxLen at hmx
  rw [HLL.out] at hcp
  clear hO4 hH4 hgr3
  obtain ⟨z, hz1, hz2, hz3⟩ := byte_at HBA.out k (by rw [HLL.out]; omega)
  have ck : w5.drew.cell? ⟨g, k, none⟩ = some (.int .u8 z) := by
    have := row_cell hown3 k (.int .u8 z) (by rw [← hz1]; simp [List.getD, show k < all.length by rw [HLL.out]; omega])
    exact this
  have cb : w5.drew.cell? ⟨gb, 3, none⟩ = some (.int .u8 by_) := gb_cellN hg5 c3
  obtain ⟨cur, hcur⟩ := hown3.row
  have cf : w5.drew.frozen? ⟨g, k, none⟩ = false := by
    show w5.frozen? ⟨g, k, none⟩ = false
    simp [World.frozen?, hcur]
  have hxr := u8_xor z by_ (by omega) (by omega) hby.1 hby.2
  have hO7 := hown3.set k (((z : Int).toNat ^^^ by_.toNat : Nat) : Int)
  have hne := sum_turn all HBA.out k (by rw [HLL.out]; omega) by_.toNat (by omega) (by omega)
  rw [hz3, HSM.out] at hne
  have hzz : (z : Int).toNat = z := by simp
  rw [hzz] at hxr hO7
  have hH7 : Has (w5.setCell ⟨g, k, none⟩ (.int .u8 ((z ^^^ by_.toNat : Nat) : Int))).drew _ _ _ := hO7.has
  have hvl : z ^^^ by_.toNat < 256 := Nat.xor_lt_two_pow (n := 8) hz2 (by omega)
  have hbs : isBytes (all.set k ((z ^^^ by_.toNat : Nat) : Int)) := by
    intro y hy
    rcases List.mem_or_eq_of_mem_set hy with hy | hy
    · exact HBA.out y hy
    · omega
  have hs7 := sum_11 hH7 hbs cap3 (by rw [List.length_set, HLL.out]; omega)
  rw [List.length_set, HLL.out] at hs7
  have hFE := gb_drew (gb_far (gb_trans hFV hg5) (gb_setCell (gb_refl w5 (some g)) (i := k) (.int .u8 ((z ^^^ by_.toNat : Nat) : Int))) (B := g) (fun i e => by cases e; exact Nat.le_refl _) (by have := hFV.size; omega))
  have HFE : Hid _ := hFE
  have hsl7 := sumB_lt (all.set k ((z ^^^ by_.toNat : Nat) : Int))
  have hneq : ((sumB (all.set k ((z ^^^ by_.toNat : Nat) : Int)) : Int) != (sm : Int)) = true := by simp; omega
  clear hO7 hH7 hne hbs hown3 hFE
  generalize sumB (all.set k ((z ^^^ by_.toNat : Nat) : Int)) = sm2 at *
  generalize z ^^^ by_.toNat = v at *
  have hd3 : decide (k < nn) = true := by simp; omega
  have hd1 : decide ((k : Int) < nn) = true := by simp; omega
  go_wp2
  go_region
  go_wp2_with (first | (go_at_call 11; go_must (refine hs7.mono ?_); rintro e w' ⟨rfl, rfl⟩) | fail)
  go_ret
  exact ⟨rfl, HFE.out⟩

end Go.Proofs.Ytcbogbohafmnhaa
