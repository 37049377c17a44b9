/-
  Insert.
-/
import Derived.Test.YtphhofbdekbggaaTb
namespace Go.Proofs.Ytphhofbdekbggaa
open Go.RowKit
set_option linter.unusedVariables false
set_option linter.unusedSimpArgs false

theorem own_cells {w : World} {B b n c : Nat} {xs : List Value} (h : w.ownsRow B 26 2 (.slice (some ⟨b, 0, none⟩) n c) n xs) : ∃ cur, w.heap[b]? = some (.cells cur 26 (0, 0)) ∧ cur.size = c * 2 ∧ n ≤ c ∧ c ≤ maxLen := by
  rcases h.2 with ⟨h1, _⟩ | ⟨g', c', cur, h1, h2, h3, h4, h5, h6, h7⟩
  · simp at h1
  · simp at h1
    obtain ⟨rfl, rfl⟩ := h1
    exact ⟨cur, h3, h6, h4, h5⟩
theorem shape_cells {w : World} {b : Nat} {cur : Array Value} {t : TypeId} {fr : Nat × Nat} (h : w.heap[b]? = some (.cells cur t fr)) : w.shape? b = some (t, cur.size) := by
  unfold World.shape?
  rw [h]
set_option maxHeartbeats 4000000 in
set_option maxRecDepth 100000 in
theorem insert_shift {w : World} {B b n c i gv : Nat} {L : List Sv} {p : Sv} (hrow : w.ownsRow B 26 2 (.slice (some ⟨b, 0, none⟩) n c) n (flatS L)) (hn : L.length = n) (hi : i < n) (hn2 : n ≤ 1000) (hroom : n + 1 ≤ c)
    (hgv : w.heap[gv]? = some (.cells #[.string p.1, .int .i64 p.2] 26 (0, 0))) (hne : gv ≠ b) :
    Calls Try.prog 36 #[.slice (some ⟨b, 0, none⟩) n c, .int .i64 i, .slice (some ⟨gv, 0, none⟩) 1 1] w fun e w' => e = .returned (.slice (some ⟨b, 0, none⟩) (n + 1) c) ∧ SvAt w' b (insL L i p) ∧ w.grownBy w' (some b) := by
  obtain ⟨cur, hcur, hcs, hnc, hcm⟩ := own_cells hrow
  unfold maxLen at hcm
  have hth : ∀ j, j < c * 2 → (w.cell? ⟨b, j, none⟩).isSome = true := fun j hj => by
    rw [cell_of_row w b j _ _ _ hcur, Array.getElem?_eq_getElem (by omega)]
    rfl
  have hfz : ∀ j, w.frozen? ⟨b, j, none⟩ = false := fun j => by simp [World.frozen?, hcur]
  have hsrc : ∀ j u, (flatS L)[j]? = some u → w.cell? ⟨b, j, none⟩ = some u := fun j u hj => row_cell hrow j u hj
  have hpv : ∀ j u, (encSv p)[j]? = some u → w.cell? ⟨gv, j, none⟩ = some u := fun j u hj => by
    rw [cell_of_row w gv j _ _ _ hgv, ← hj]
    simp [encSv]
  have hLs : flatS L = flatS (L.take i) ++ flatS (L.drop i) := by rw [← flatS_app, List.take_append_drop]
  have hta : (flatS (L.take i)).length = i * 2 := by rw [flatS_len, List.length_take]; congr 1; omega
  have htd : (flatS (L.drop i)).length = (n - i) * 2 := by rw [flatS_len, List.length_drop, hn]
  have hte : (encSv p).length = 2 := rfl
  have hov : ∀ lb cb, (callFunc 51 #[.slice (some ⟨gv, 0, none⟩) 1 1, .slice (some ⟨b, (i + 1) * 2, none⟩) lb cb]).run Try.prog w = .ok (.value (.bool false)) w := fun lb cb => by
    rw [run_callFunc_extern Try.func51 (by kernel_rfl) (by kernel_rfl) (by kernel_rfl) (e := Extern.SlicesOverlaps.overlaps #[22, 22] #[4]) (by kernel_rfl),
      Lib.run_overlaps_apart w 22 4 26 Try.underlying22 2 (by intro w; kernel_rfl) ⟨gv, 0, none⟩ ⟨b, (i + 1) * 2, none⟩ 1 1 lb cb hne 26 26 2 cur.size (shape_cells hgv) (shape_cells hcur) (by omega) (by simp [World.frozen?, hgv]) (by simp [World.frozen?, hgv])]
    rfl
  have hcp1 : ∀ ty dc sc, (Builtin.copy_ #[22, 22] ty #[.slice (some ⟨b, (i + 1) * 2, none⟩) (n - i) dc, .slice (some ⟨b, i * 2, none⟩) (n + 1 - i) sc]).run Try.prog w.drew = .ok (.int .i64 (n - i : Nat)) (w.drew.setCells b ((i + 1) * 2) (flatS (L.drop i))) := fun ty dc sc =>
    run_copy2 w.drew ty b ((i + 1) * 2) (n - i) dc ⟨b, i * 2, none⟩ (n + 1 - i) sc (n - i) (flatS (L.drop i)) (by simp only [Nat.min_def]; split <;> omega) htd
      (fun j v hj => by
        rw [Addr.add_lit]
        refine hsrc _ v ?_
        rw [hLs, List.getElem?_append_right (by omega)]
        rw [show i * 2 + j - (flatS (L.take i)).length = j by omega]
        exact hj)
      (fun j hj => hth _ (by omega)) (fun j hj => hfz _) (flatS_one _)
  obtain ⟨W1, hW1⟩ : ∃ W1, W1 = w.drew.setCells b ((i + 1) * 2) (flatS (L.drop i)) := ⟨_, rfl⟩
  have hth1 : ∀ j, j < c * 2 → (W1.cell? ⟨b, j, none⟩).isSome = true := fun j hj => by
    rw [hW1]
    exact some_setCells b (flatS (L.drop i)) ((i + 1) * 2) w.drew (fun k hk => hth _ (by omega)) _ (hth j hj)
  have hcp2 : ∀ (W : World), (∀ x, W.cell? x = W1.cell? x) → (∀ x, W.frozen? x = W1.frozen? x) → ∀ ty dc, (Builtin.copy_ #[22, 22] ty #[.slice (some ⟨b, i * 2, none⟩) (n + 1 - i) dc, .slice (some ⟨gv, 0, none⟩) 1 1]).run Try.prog W = .ok (.int .i64 (1 : Nat)) (W.setCells b (i * 2) (encSv p)) := fun W hWc hWf ty dc =>
    run_copy2 W ty b (i * 2) (n + 1 - i) dc ⟨gv, 0, none⟩ 1 1 1 (encSv p) (by simp only [Nat.min_def]; split <;> omega) rfl
      (fun j v hj => by
        rw [Addr.add_lit, Nat.zero_add, hWc, hW1, World.cell?_setCells_out b _ _ _ _ (fun h _ => absurd h hne)]
        exact hpv j v hj)
      (fun j hj => by rw [hWc]; exact hth1 _ (by omega)) (fun j hj => by rw [hWf, hW1, World.frozen?_setCells]; exact hfz _) (by intro v hv; simp [encSv] at hv; rcases hv with rfl | rfl <;> rfl)
  have HF : Hid (SvAt ((w.drew.setCells b ((i + 1) * 2) (flatS (L.drop i))).setCells b (i * 2) (encSv p)) b (insL L i p) ∧ w.grownBy ((w.drew.setCells b ((i + 1) * 2) (flatS (L.drop i))).setCells b (i * 2) (encSv p)) (some b)) := by
    refine ⟨SvAt.of_flat fun j u hj => ?_, gb_setCells2 _ _ (gb_setCells2 _ _ (gb_drew (gb_refl _ _)))⟩
    rw [flatS_ins] at hj
    have := splice (w := w.drew) (b := b) (A := flatS (L.take i)) (E := encSv p) (C := flatS (L.drop i)) (fun j u hj => hsrc j u (by rw [hLs]; exact hj)) (fun j hj => hth j (by omega)) j u hj
    rw [hta, hte, show i * 2 + 2 = (i + 1) * 2 by omega] at this
    exact this
  rw [← hW1] at hcp1 HF
  have hi0 : (i : Int) < (n : Int) := by omega
  have hb1 : (0 : Int) ≤ (i : Int) + 1 := by omega
  have hin : i ≤ n := by omega
  have hb3 : (i : Int) ≤ (n : Int) + 1 := by omega
  have hin1 : i ≤ n + 1 := by omega
  have hz2 : ¬ ((i : Int) = (n : Int)) := by omega
  have hw1 : IntKind.i64.wrap ((i : Int) + 1) = (i : Int) + 1 := by rw [IntKind.wrap_i64]; omega
  have hwn : IntKind.i64.wrap ((n : Int) + 1) = (n : Int) + 1 := by rw [IntKind.wrap_i64]; omega
  have hci : ¬ (c = i) := by omega
  have hci1 : ¬ (c = i + 1) := by omega
  have hcl : ¬ ((c : Int) < (n : Int) + 1) := by omega
  have htn : ((i : Int) + 1).toNat = i + 1 := by omega
  clear hsrc hpv hLs hta htd hth hth1 hfz hcur hrow hgv hW1 hcs
  go_enter Try.func36, Try.ntmps36
  go_wp2_with (simp only [hov])
  go_region_law (refine step_copy2 rfl _ _ rfl _ _ (by simp [Act.eval, Act.put]) (by simp [Act.eval, Act.put]) (hcp1 _ _ _) ?_)
  go_wp2_with (at_builtin; refine wpList_copy2 _ rfl _ _ rfl _ _ rfl rfl (hcp2 _ (fun _ => rfl) (fun _ => rfl) _ _) ?_)
  go_ret
  exact ⟨rfl, HF.out⟩
section
variable {w : World} {ops : Array Oper} {rest : List Oper} {o : Oper} {a : Act} {Q : Exit → Act → World → Prop}
/-- append(l, q...), q of one server. -/
theorem moreS (hgd : o.guard = none) (s x : Operand) (ho : o.op = .call { callee := .builtin .append, args := #[s, x], argTypes := #[22, 22] })
    (B : Nat) (v : Value) (n : Nat) (xs : List Value) (hs : a.eval s = v) (hown : w.ownsRow B 26 2 v n xs) (g : Nat) (p : Sv) (hx : a.eval x = .slice (some ⟨g, 0, none⟩) 1 1) (hP : w.heap[g]? = some (.cells #[.string p.1, .int .i64 p.2] 26 (0, 0))) (hn2 : n ≤ 1000) (hB : B ≤ w.heap.size)
    (h : ∀ g' cap w', w'.ownsRow B 26 2 (.slice (some ⟨g', 0, none⟩) (n + 1) cap) (n + 1) (xs ++ encSv p) → w.grownBy w' v.ownBlock → wpList Try.prog ops Q rest (a.put o.dst (.slice (some ⟨g', 0, none⟩) (n + 1) cap)) w') : wpList Try.prog ops Q (o :: rest) a w := by
  obtain ⟨i0, hi, hz0, hz1, hz2⟩ := info_parts Try.info26
  refine wpList_plain hgd fun K hK => ?_
  refine wp_append_lies _ s x 22 ho B 26 i0 _ 2 24 Try.underlying22 hi hz0 hz1 hz2 rfl (by omega) v n xs hs hown ⟨g, 0, none⟩ 1 1 (encSv p) hx rfl (fun j u hu => ?_) (by intro u hu; simp [encSv] at hu; rcases hu with rfl | rfl <;> rfl) (by omega) (by unfold maxLen; omega) (by omega) hB _ rfl ?_
  · rw [Addr.add_mid, Nat.zero_add, cell_of_row w g j _ _ _ hP, ← hu]
    simp [encSv]
  · intro g' cap w' h1 h2 _ _
    exact hK _ _ (h g' cap w' h1 h2)
end
set_option maxHeartbeats 4000000 in
set_option maxRecDepth 100000 in
theorem insert_end {w : World} {B n c gv : Nat} {a : Option Addr} {L : List Sv} {p : Sv} (hrow : w.ownsRow B 26 2 (.slice a n c) n (flatS L)) (hn : L.length = n) (hn2 : n ≤ 1000) (hB : B ≤ w.heap.size)
    (hgv : w.heap[gv]? = some (.cells #[.string p.1, .int .i64 p.2] 26 (0, 0))) :
    Calls Try.prog 36 #[.slice a n c, .int .i64 n, .slice (some ⟨gv, 0, none⟩) 1 1] w fun e w' => (∃ g' c', e = .returned (.slice (some ⟨g', 0, none⟩) (n + 1) c') ∧ SvAt w' g' (insL L n p)) ∧ w.grownBy w' (Value.slice a n c).ownBlock := by
  have HF : Hid (∀ (g' cap : Nat) (w' : World), w'.ownsRow B 26 2 (.slice (some ⟨g', 0, none⟩) (n + 1) cap) (n + 1) (flatS L ++ encSv p) → SvAt w' g' (insL L n p)) := fun g' cap w' h => by
    have e : flatS L ++ encSv p = flatS (insL L n p) := by
      unfold insL
      rw [List.take_of_length_le (by omega), List.drop_eq_nil_of_le (by omega), flatS_app]
      simp [flatS]
    rw [e] at h
    exact SvAt.of_flat fun j u hj => row_cell h j u hj
  obtain ⟨_, _, hsh, _, hnc, hcm, _⟩ := row_shape hrow
  simp only [Value.slice.injEq] at hsh
  obtain ⟨rfl, _, rfl⟩ := hsh
  unfold maxLen at hcm
  clear hn
  go_enter Try.func36, Try.ntmps36
  go_wp2_with (at_builtin; go_must (refine moreS rfl _ _ rfl B _ n _ (by rfl) hrow gv p (by rfl) hgv hn2 hB ?_); intro g1 cap1 w1 h1 h2)
  all_goals
    go_ret
    exact ⟨⟨g1, ⟨cap1, rfl⟩, HF.out _ _ _ h1⟩, by rw [ownBlock_blk] at h2 ⊢; exact h2⟩
end Go.Proofs.Ytphhofbdekbggaa
