import Derived.Test.YtjkdflnnpdionaaGreatMz
/-
  All bytes of the chunks; At and Is of any handle.
-/
namespace Go.Proofs.YtjkdflnnpdionaaGreat
open Go.RowKit
set_option linter.unusedVariables false

def bv (xs : List Int) : List Value := xs.map (Value.int .u8)
theorem bv_len (xs : List Int) : (bv xs).length = xs.length := by simp [bv]
theorem bv_one (xs : List Int) : ∀ u ∈ bv xs, u.oneCell' = true := by
  intro u hu
  simp only [bv, List.mem_map] at hu
  obtain ⟨z, _, rfl⟩ := hu
  rfl
theorem bv_app (xs ys : List Int) : bv (xs ++ ys) = bv xs ++ bv ys := by simp [bv]
theorem bv_get {xs : List Int} {i : Nat} (h : i < xs.length) : (bv xs)[i]? = some (.int .u8 (xs.getD i 0)) := by
  simp [bv, List.getD, h]
theorem bv_set (xs : List Int) (i : Nat) (v : Int) : (bv xs).set i (.int .u8 v) = bv (xs.set i v) := by
  simp [bv, List.map_set]
theorem bv_toList (xs : List Int) : (vals xs).toList = bv xs := by simp [vals, bv]
section
variable {w : World} {ops : Array Oper} {rest : List Oper} {o : Oper} {a : Act} {Q : Exit → Act → World → Prop}
/-- append(all, page...). -/
theorem cat60 (hgd : o.guard = none) (s x : Operand) (ho : o.op = .call { callee := .builtin .append, args := #[s, x], argTypes := #[60, 60] })
    (base : Nat) (v : Value) (n : Nat) (xs ys : List Int) (hs : a.eval s = v) (hown : w.ownsRow base 5 1 v n (bv xs)) (hn : xs.length = n) (g cap : Nat) (hx : a.eval x = .slice (some ⟨g, 0, none⟩) ys.length cap) (hg : ∀ i, i < ys.length → w.cell? ⟨g, i, none⟩ = some (.int .u8 (ys.getD i 0))) (hlen : n + ys.length ≤ 1000000) (hbase : base ≤ w.heap.size)
    (h : ∀ v' w', w'.ownsRow base 5 1 v' (n + ys.length) (bv (xs ++ ys)) → w.grownBy w' v.ownBlock → (0 < ys.length → v' ≠ .slice none 0 0) → wpList Tryz.prog ops Q rest (a.put o.dst v') w') : wpList Tryz.prog ops Q (o :: rest) a w := by
  obtain ⟨i0, hi, hz0, hz1, hz2⟩ := info_parts Tryz.info5
  refine wpList_append_own _ hgd s x 60 ho base 5 i0 (.int .u8 0) 1 1 Tryz.underlying60 hi hz0 hz1 hz2 rfl (by decide) _ _ _ hs hown ⟨g, 0, none⟩ ys.length cap (bv ys) hx (by simp [bv]) (fun j u hu => ?_) (bv_one ys) (by unfold maxLen; omega) (by omega) hbase ?_
  · have hj : j < ys.length := by
      have := (List.getElem?_eq_some_iff.1 hu).1
      simpa [bv] using this
    have e := bv_get hj
    rw [hu] at e
    have := hg j hj
    rw [← e] at this
    rw [Addr.add_lit, Nat.zero_add]
    exact this
  · intro v' w' h1 h2 h3
    refine h v' w' ?_ h2 (fun hp e => ?_)
    · rw [bv_app]; exact h1
    · have := (h3.1 e).2
      omega
end
section
variable {w : World} {rb : Nat} {F : Nat → Prop} {Q : Rl} {c d e : Int} {A : Ab} {R : Rb}
set_option maxRecDepth 100000 in
theorem rat_badh (h : IsR w rb F Q c d e R) (hR : RFit R) (hr : Rep A R) (hA : Fit2 A) {H : Nat} (hH : ∀ p k, ¬ IsH A H p k) :
    Calls Tryz.prog 96 #[.pointer (some ⟨rb, 0, none⟩), .int .u64 H] w fun y w' => y = .returned (.tuple #[.int .i64 0, .int .i64 0, .int .i64 20]) ∧ w.grownBy w' none := by
  have hf := rfind_bad h hR hr hA hH
  clear h hR hr hA hH
  go_enter Tryz.func96, Tryz.ntmps96
  go_wp2_with (first | (go_at_call 79; go_must (refine hf.mono ?_); rintro y w1 ⟨rfl, hf1⟩) | fail)
  go_ret3
  exact ⟨rfl, hf1⟩
end
section
variable {w : World} {P : Nat → Prop} {wb N : Nat} {D : Wd} {lsb : Nat} {vs : Nat → Value} {Y : Nat → List Nat} {cl : Nat → Nat} {S : Lm}
/-- At and Is of any handle. -/
theorem GW.atis (hW : GW w P wb N D lsb vs Y S cl) (H : Nat) : ∃ (pl c e : Int), (∀ W, w.grownBy W none → Calls Tryz.prog 96 #[.pointer (some ⟨D.rb, 0, none⟩), .int .u64 H] W fun y w' => y = .returned (.tuple #[.int .i64 pl, .int .i64 c, .int .i64 e]) ∧ W.grownBy w' none) ∧
    (∀ W, w.grownBy W none → Calls Tryz.prog 27 #[.pointer (some ⟨D.lb, 0, none⟩), .int .u64 H] W fun y w' => y = .returned (.bool (decide (H ∈ D.xl))) ∧ W.grownBy w' none) ∧
    (H ∈ D.xl → e = 0 ∧ ∃ x k, IsH D.A H x k ∧ pl = ((D.A.place x k : Nat) : Int) ∧ D.A.place x k + 58 ≤ 16384) := by
  obtain ⟨bs, p, n, s, hX⟩ := hW.gx
  have hl : D.xl.length ≤ 300 := by have := hW.nN; omega
  have hI := fun W (hf : w.grownBy W none) => hX.is_ (hW.kept0 hf).ms hl H
  by_cases hx : ∃ x k, IsH D.A H x k
  · obtain ⟨x, k, hX2⟩ := hx
    refine ⟨((D.A.place x k : Nat) : Int), _, 0, fun W hf => rat_goodp (hW.kept0 hf).ms.ms.isr hX.rf hX.rep hX.inv.fit hX2, hI, fun hm => ⟨rfl, x, k, hX2, rfl, ?_⟩⟩
    have h1 := (place_div hX.inv.fit.toFit1 hX2.hp hX2.hk).2.2
    have h2 : 58 ≤ D.A.sz (D.A.own x) := by
      obtain ⟨x', k', hX3, _, h3⟩ := hX.its H hm
      obtain ⟨rfl, rfl⟩ := isH_inj hX.inv.fit hX3 hX2
      omega
    have h3 : x < 4 := by
      have := hX.inv.fit.nm
      have := hX.m
      have := hX2.hp
      omega
    rw [hX.ps] at h1
    omega
  · refine ⟨0, 0, 20, fun W hf => rat_badh (hW.kept0 hf).ms.ms.isr hX.rf hX.rep hX.inv.fit (fun x k hh => hx ⟨x, k, hh⟩), hI, fun hm => ?_⟩
    obtain ⟨x, k, hX2, _⟩ := hX.its H hm
    exact absurd ⟨x, k, hX2⟩ hx
end
set_option maxRecDepth 100000 in
/-- Page. -/
theorem page_84 {w : World} {b g : Nat} {zs : List Int} (hA : IsA w b g 4096 4 zs) (hz : zs.length = 16384) {i : Nat} (hi : i < 4) :
    Calls Tryz.prog 84 #[.pointer (some ⟨b, 0, none⟩), .int .i64 i] w fun y w' => ∃ g', y = .returned (.tuple #[.slice (some ⟨g', 0, none⟩) 4096 4096, .int .i64 0]) ∧ w.grownBy w' none ∧ w'.heap[g']? = some (.cells (vals (cut zs (4096 * i) 4096)) 5 (0, 0)) := by
  have hr : ∀ W, w.grownBy W none → Calls Tryz.prog 156 #[.pointer (some ⟨b, 0, none⟩), .int .i64 ((i : Int) * 4096), .int .i64 4096] W fun y w' => ∃ g', y = .returned (.tuple #[.slice (some ⟨g', 0, none⟩) 4096 4096, .int .i64 0]) ∧ w.grownBy w' none ∧ w'.heap[g']? = some (.cells (vals (cut zs (4096 * i) 4096)) 5 (0, 0)) := fun W hf => by
    have hA' := hA.same (w' := W) (hf.block _ (lt_of_block hA.hb) (by simp)) (hf.block _ (lt_of_block hA.hg) (by simp))
    refine (read_yes hA' ((i : Int) * 4096) 4096 ⟨by omega, by omega, by omega, by omega⟩).mono ?_
    rintro y w' ⟨rfl, hf', hg⟩
    rw [show ((i : Int) * 4096).toNat = 4096 * i by omega] at hg
    exact ⟨_, rfl, gb_trans hf hf', hg⟩
  have c0 := hA.c0
  have c1 := hA.c1
  have l0 : ¬ (i : Int) < 0 := by omega
  have l1 : ¬ (i : Int) ≥ 4 := by omega
  have d0 : decide ((i : Int) < 0) = false := decide_eq_false l0
  have d1 : decide ((i : Int) ≥ 4) = false := decide_eq_false l1
  have e1 : IntKind.i64.wrap ((i : Int) * 4096) = (i : Int) * 4096 := by rw [IntKind.wrap_i64]; omega
  have ci : ((4096 : Nat) : Int) = 4096 := rfl
  have ci4 : ((4 : Nat) : Int) = 4 := rfl
  rw [ci] at c0
  rw [ci4] at c1
  clear hA
  go_enter Tryz.func84, Tryz.ntmps84
  go_wp2
  have hr' := hr w.drew (gb_drew (gb_refl _ _))
  have hk0 := And.intro (show w.drew.cell? ⟨b, 0, none⟩ = some (.int .i64 4096) from c0) (show w.drew.cell? ⟨b, 1, none⟩ = some (.int .i64 4) from c1)
  go_region_held3 (fun W => W.cell? ⟨b, 0, none⟩ = some (.int .i64 4096) ∧ W.cell? ⟨b, 1, none⟩ = some (.int .i64 4)) ((first | with_reducible exact hk1 | with_reducible exact hk0 | go_keep)) ((first | (go_at_call 156; with_reducible refine hr'.mono ?_; rintro y w1 ⟨g', rfl, hf1, hg1⟩; (have hk1 := And.intro (gb_cellN hf1 c0) (gb_cellN hf1 c1)))))
  go_wp2
  go_ret2
  exact ⟨g', rfl, hf1, hg1⟩

theorem own_base {w : World} {B : Nat} {e : TypeId} {s : Nat} {v : Value} {n : Nat} {xs : List Value} (h : w.ownsRow B e s v n xs) (k : Nat) (hk : v.ownBlock = some k) : B ≤ k := by
  rcases h.2 with ⟨rfl, _⟩ | ⟨g, cap, cur, rfl, hb, _⟩
  · simp [Value.ownBlock] at hk
  · simp [Value.ownBlock] at hk
    omega
theorem cut_take (zs : List Int) (k n : Nat) : zs.take k ++ cut zs k n = zs.take (k + n) := by
  rw [cut, List.take_add]
section
variable {w : World} {P : Nat → Prop} {wb N : Nat} {D : Wd} {lsb : Nat} {vs : Nat → Value} {Y : Nat → List Nat} {cl : Nat → Nat} {S : Lm}
set_option maxRecDepth 100000 in
set_option maxHeartbeats 1000000 in
/-- images. -/
theorem images_29 (hW : GW w P wb N D lsb vs Y S cl) : isBytes D.zs ∧ Calls Tryz.prog 29 #[.pointer (some ⟨wb, 0, none⟩)] w fun y w' => ∃ g cap, y = .returned (.slice (some ⟨g, 0, none⟩) 16384 cap) ∧ w.grownBy w' none ∧ w'.ownsRow w.heap.size 5 1 (.slice (some ⟨g, 0, none⟩) 16384 cap) 16384 (bv D.zs) := by
  obtain ⟨bs, p, n, s, hX⟩ := hW.gx
  have hz := hW.zl
  have hA := hW.ms.ms.iss.ar
  rw [hX.ps, hX.m] at hA
  have h83 := fun W (hf : w.grownBy W none) => arena_39 (hW.kept0 hf).ms.ms.iss
  have hpg := fun W (hf : w.grownBy W none) (i : Nat) (hi : i < 4) => (page_84 (hA.same (w' := W) (hf.block _ (lt_of_block hA.hb) (by simp)) (hf.block _ (lt_of_block hA.hg) (by simp))) hz hi).mono (R' := fun y w' => ∃ g', y = .returned (.tuple #[.slice (some ⟨g', 0, none⟩) 4096 4096, .int .i64 0]) ∧ w.grownBy w' none ∧ W.grownBy w' none ∧ w'.heap[g']? = some (.cells (vals (cut D.zs (4096 * i) 4096)) 5 (0, 0))) (by
    rintro y w' ⟨g', rfl, h1, h2⟩
    exact ⟨g', rfl, gb_trans hf h1, h1, h2⟩)
  obtain ⟨k0, _⟩ := hW.ms.cells
  refine ⟨hA.hz, ?_⟩
  generalize D.zs = zs at *
  generalize D.B = B at *
  clear hW hX hA
  go_enter Tryz.func29, Tryz.ntmps29
  go_wp2_with (first | (go_at_call 83; go_must (refine (h83 _ (gb_refl _ _)).mono ?_); rintro y w1 ⟨rfl, rfl⟩) | fail)
  go_loopw [3, 5] (fun av iv wr => ∃ i : Nat, i ≤ 4 ∧ iv = .int .i64 i ∧ w.grownBy wr none ∧ wr.ownsRow w.heap.size 5 1 av (4096 * i) (bv (zs.take (4096 * i))) ∧ (0 < i → av ≠ .slice none 0 0)) (fun _ iv _ => 4 - (intOf iv).toNat)
  case atStart => exact ⟨0, by omega, rfl, gb_refl _ _, by simpa [bv] using World.ownsRow_nil _ _ _ _, by omega⟩
  case round =>
    obtain ⟨i, hi, rfl, hg, ho, hne⟩ := hrel
    by_cases hlt : i < 4
    · have d1 : decide ((i : Int) < 4) = true := decide_eq_true (by omega)
      have e1 : IntKind.i64.wrap ((i : Int) + 1) = (i : Int) + 1 := by rw [IntKind.wrap_i64]; omega
      have hcl : (cut zs (4096 * i) 4096).length = 4096 := length_cut (by omega)
      go_wp2_with (first | (go_at_call 84; go_must (refine (hpg _ hg i hlt).mono ?_); rintro y w2 ⟨g', rfl, hf2, hf2', hg2⟩; (have ho2 := row_kept ho hf2' (by simp)); (have hc2 := fun j (hj : j < (cut zs (4096 * i) 4096).length) => cell_of_vals hg2 j hj)) | (go_at_call 16; go_must (refine (num_any _ _).mono ?_); rintro y w' ⟨rfl, rfl⟩) | (at_builtin; go_must (refine cat60 rfl _ _ rfl w.heap.size _ (4096 * i) (zs.take (4096 * i)) (cut zs (4096 * i) 4096) (by rfl) ho2 (by simp; omega) g' 4096 (by rw [hcl]; rfl) hc2 (by omega) hf2.size ?_); intro v' w4 ho4 hg4 hne4) | fail)
      refine ⟨⟨i + 1, by omega, by go_num, ?_, ?_, fun _ => hne4 (by omega)⟩, by simp [intOf]; omega⟩
      · exact ⟨hg4.os.trans hf2.os, hg4.tape.trans hf2.tape, hg4.output.trans hf2.output, Nat.le_trans hf2.size hg4.size, fun k hk _ => (hg4.block k (Nat.lt_of_lt_of_le hk hf2.size) (fun e => by
          have := own_base ho2 k e.symm
          omega)).trans (hf2.block k hk (by simp))⟩
      · rw [cut_take] at ho4
        rw [hcl] at ho4
        rw [show 4096 * (i + 1) = 4096 * i + 4096 by omega]
        exact ho4
    · obtain rfl : i = 4 := by omega
      have d1 : decide (((4 : Nat) : Int) < 4) = false := by decide
      have ho' := ho
      rw [show zs.take (4096 * 4) = zs by rw [List.take_of_length_le (by omega)]] at ho'
      obtain ⟨ao, cap, rfl, _, _, _, hao⟩ := row_shape ho
      obtain ⟨g, rfl⟩ := hao (by omega)
      go_wp2
      go_ret
      exact ⟨g, cap, rfl, hg, ho'⟩
end
end Go.Proofs.YtjkdflnnpdionaaGreat
