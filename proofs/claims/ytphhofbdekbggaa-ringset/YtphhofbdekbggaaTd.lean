/-
  Insert, where there is no room.
-/
import Derived.Test.YtphhofbdekbggaaTc
namespace Go.Proofs.Ytphhofbdekbggaa
open Go.RowKit
set_option linter.unusedVariables false
set_option linter.unusedSimpArgs false

def zc (k : Nat) : Array Value := Builtin.zeroCells (Value.agg #[.string ByteArray.empty, .int .i64 0]).cells k
theorem zc_size (k : Nat) : (zc k).size = k * 2 := by simp [zc, Builtin.zeroCells, Value.cells]
set_option maxHeartbeats 4000000 in
set_option maxRecDepth 100000 in
theorem insert_grow {w : World} {B b n c i gv : Nat} {L : List Sv} {p : Sv} (hrow : w.ownsRow B 26 2 (.slice (some ⟨b, 0, none⟩) n c) n (flatS L)) (hn : L.length = n) (hi : i < n) (hn2 : n ≤ 1000) (hroom : c < n + 1)
    (hgv : w.heap[gv]? = some (.cells #[.string p.1, .int .i64 p.2] 26 (0, 0))) :
    Calls Try.prog 36 #[.slice (some ⟨b, 0, none⟩) n c, .int .i64 i, .slice (some ⟨gv, 0, none⟩) 1 1] w fun e w' => (∃ c', e = .returned (.slice (some ⟨w.heap.size, 0, none⟩) (n + 1) c')) ∧ SvAt w' w.heap.size (insL L i p) ∧ w.grownBy w' none := by
  obtain ⟨cur, hcur, hcs, hnc, hcm⟩ := own_cells hrow
  obtain rfl : c = n := by omega
  unfold maxLen at hcm
  obtain ⟨i0, hi0, hz0, hzs, hzb⟩ := info_parts Try.info26
  have hsrc : ∀ j u, (flatS L)[j]? = some u → w.cell? ⟨b, j, none⟩ = some u := fun j u hj => row_cell hrow j u hj
  have hpv : ∀ j u, (encSv p)[j]? = some u → w.cell? ⟨gv, j, none⟩ = some u := fun j u hj => by
    rw [cell_of_row w gv j _ _ _ hgv, ← hj]
    simp [encSv]
  have hLs : flatS L = flatS (L.take i) ++ flatS (L.drop i) := by rw [← flatS_app, List.take_append_drop]
  have hta : (flatS (L.take i)).length = i * 2 := by rw [flatS_len, List.length_take]; congr 1; omega
  have htd : (flatS (L.drop i)).length = (c - i) * 2 := by rw [flatS_len, List.length_drop, hn]
  have hte : (encSv p).length = 2 := rfl
  have hbw := lt_of_block hcur
  have hvw := lt_of_block hgv
  have hold : (Builtin.firstCells i0.size i (.slice (some ⟨b, 0, none⟩) i c)).run Try.prog w.drew = .ok (flatS (L.take i)).toArray w.drew := by
    rw [hzs]
    exact run_firstCells_some (w := w.drew) 2 i ⟨b, 0, none⟩ i c (flatS (L.take i)) hta (fun j v hj => by
      rw [Addr.add_lit, Nat.zero_add]
      refine hsrc j v ?_
      have := (List.getElem?_eq_some_iff.1 hj).1
      rw [hLs, List.getElem?_append_left this]
      exact hj)
  have hik : i + (c + 1 - i) = c + 1 := by omega
  have hkk : (c : Int) + 1 - (i : Int) = ((c + 1 - i : Nat) : Int) := by omega
  have hrz : ∀ ty, (Builtin.append_ #[22, 3] ty #[.slice (some ⟨b, 0, none⟩) i c, .int .i64 ((c : Int) + 1 - (i : Int))]).run Try.prog w =
      .ok (.slice (some ⟨w.heap.size, 0, none⟩) (c + 1) (grownCap w (c + 1) c 26)) (w.drew.alloc (.cells ((flatS (L.take i)).toArray ++ zc (c + 1 - i) ++ zc (grownCap w (c + 1) c 26 - (c + 1))) 26)) := fun ty => by
    have h := Lib.run_append_grow_zeros w 22 3 ty 26 i0 _ .i64 .i64 Try.underlying22 Try.underlying3 hi0 hz0 (some ⟨b, 0, none⟩) i c (flatS (L.take i)) hold (c + 1 - i) (by omega) (by omega) (by omega) (by omega) (by rw [hzb]; omega) (by rw [hzb, hik]; exact growslice_fits hroom (by omega))
    rw [hik] at h
    rw [hkk]
    exact h
  obtain ⟨G, hG⟩ : ∃ G, G = grownCap w (c + 1) c 26 := ⟨_, rfl⟩
  obtain ⟨ROW, hROW⟩ : ∃ ROW : Array Value, ROW = (flatS (L.take i)).toArray ++ zc (c + 1 - i) ++ zc (G - (c + 1)) := ⟨_, rfl⟩
  rw [← hG] at hrz
  rw [← hROW] at hrz
  have hRl : (c + 1) * 2 ≤ ROW.size := by
    rw [hROW]
    simp only [Array.size_append, zc_size, List.size_toArray, hta]
    omega
  have hRt : ∀ j u, (flatS (L.take i))[j]? = some u → ROW[j]? = some u := fun j u hj => by
    have := (List.getElem?_eq_some_iff.1 hj).1
    rw [hROW, Array.getElem?_append_left (by simp; omega), Array.getElem?_append_left (by simpa using this)]
    simpa using hj
  obtain ⟨W1, hW1⟩ : ∃ W1, W1 = w.drew.alloc (.cells ROW 26) := ⟨_, rfl⟩
  rw [← hW1] at hrz
  have hN : ∀ j, j < (c + 1) * 2 → (W1.cell? ⟨w.heap.size, j, none⟩).isSome = true := fun j hj => by
    rw [hW1, World.cell?_alloc_at (w := w.drew) ROW _ w.heap.size j rfl, Array.getElem?_eq_getElem (by omega)]; rfl
  have hNt : ∀ j u, (flatS (L.take i))[j]? = some u → W1.cell? ⟨w.heap.size, j, none⟩ = some u := fun j u hj => by
    rw [hW1, World.cell?_alloc_at (w := w.drew) ROW _ w.heap.size j rfl]
    exact hRt j u hj
  have hNf : ∀ j, W1.frozen? ⟨w.heap.size, j, none⟩ = false := fun j => by rw [hW1]; exact World.frozen?_alloc_at (w := w.drew) ROW _ w.heap.size j rfl
  have hgW : w.grownBy W1 none := by rw [hW1]; exact gb_alloc (gb_drew (gb_refl _ _)) _
  have hcpA : ∀ (W : World), (∀ x, W.cell? x = W1.cell? x) → (∀ x, W.frozen? x = W1.frozen? x) → ∀ ty dc, (Builtin.copy_ #[22, 22] ty #[.slice (some ⟨w.heap.size, i * 2, none⟩) (c + 1 - i) dc, .slice (some ⟨gv, 0, none⟩) 1 1]).run Try.prog W = .ok (.int .i64 (1 : Nat)) (W.setCells w.heap.size (i * 2) (encSv p)) := fun W hWc hWf ty dc =>
    run_copy2 W ty w.heap.size (i * 2) (c + 1 - i) dc ⟨gv, 0, none⟩ 1 1 1 (encSv p) (by simp only [Nat.min_def]; split <;> omega) rfl
      (fun j v hj => by rw [Addr.add_lit, Nat.zero_add, hWc]; exact gb_cellN hgW (hpv j v hj))
      (fun j hj => by rw [hWc]; exact hN _ (by omega)) (fun j hj => by rw [hWf]; exact hNf _) (by intro v hv; simp [encSv] at hv; rcases hv with rfl | rfl <;> rfl)
  have hcpB : ∀ (W : World), (∀ x, W.cell? x = (W1.setCells w.heap.size (i * 2) (encSv p)).cell? x) → (∀ x, W.frozen? x = (W1.setCells w.heap.size (i * 2) (encSv p)).frozen? x) → ∀ ty dc sc, (Builtin.copy_ #[22, 22] ty #[.slice (some ⟨w.heap.size, (i + 1) * 2, none⟩) (c - i) dc, .slice (some ⟨b, i * 2, none⟩) (c - i) sc]).run Try.prog W = .ok (.int .i64 (c - i : Nat)) (W.setCells w.heap.size ((i + 1) * 2) (flatS (L.drop i))) := fun W hWc hWf ty dc sc =>
    run_copy2 W ty w.heap.size ((i + 1) * 2) (c - i) dc ⟨b, i * 2, none⟩ (c - i) sc (c - i) (flatS (L.drop i)) (by simp only [Nat.min_def]; split <;> omega) htd
      (fun j v hj => by
        rw [Addr.add_lit, hWc, World.cell?_setCells_out _ _ _ _ _ (fun h _ => absurd h (by simp only; omega))]
        refine gb_cellN hgW (hsrc _ v ?_)
        rw [hLs, List.getElem?_append_right (by omega)]
        rw [show i * 2 + j - (flatS (L.take i)).length = j by omega]
        exact hj)
      (fun j hj => by rw [hWc]; exact some_setCells _ _ _ _ (fun t ht => hN _ (by omega)) _ (hN _ (by omega)))
      (fun j hj => by rw [hWf, World.frozen?_setCells]; exact hNf _) (flatS_one _)
  have HF : Hid (∀ (W : World), W = (W1.setCells w.heap.size (i * 2) (encSv p)) → ∀ V : World, V = W.drew.setCells w.heap.size ((i + 1) * 2) (flatS (L.drop i)) → SvAt V w.heap.size (insL L i p) ∧ w.grownBy V none) := by
    rintro W rfl V rfl
    have g1 : w.grownBy ((W1.setCells w.heap.size (i * 2) (encSv p)).drew.setCells w.heap.size ((i + 1) * 2) (flatS (L.drop i))) none :=
      gb_far (gb_refl w none) (gb_setCells2 _ _ (gb_drew (gb_setCells2 _ _ (gb_none (some w.heap.size) hgW)))) (B := w.heap.size) (fun i e => by cases e; exact Nat.le_refl _) (Nat.le_refl _)
    refine ⟨SvAt.of_flat fun j u hj => ?_, g1⟩
    rw [flatS_ins] at hj
    have t2 : ∀ k, k < (encSv p).length → (W1.cell? ⟨w.heap.size, i * 2 + k, none⟩).isSome = true := fun k hk => hN _ (by omega)
    have t1 : ∀ k, k < (flatS (L.drop i)).length → ((W1.setCells w.heap.size (i * 2) (encSv p)).drew.cell? ⟨w.heap.size, (i + 1) * 2 + k, none⟩).isSome = true := fun k hk => some_setCells _ _ _ _ t2 _ (hN _ (by omega))
    rcases Nat.lt_or_ge j (i * 2) with h1 | h1
    · rw [World.cell?_setCells_out _ _ _ _ _ (fun _ _ => .inl (by simp only; omega))]
      show (W1.setCells w.heap.size (i * 2) (encSv p)).cell? _ = _
      rw [World.cell?_setCells_out _ _ _ _ _ (fun _ _ => .inl (by simp only; omega))]
      refine hNt j u ?_
      rw [List.getElem?_append_left (by omega)] at hj
      exact hj
    · rw [List.getElem?_append_right (by omega), hta] at hj
      rcases Nat.lt_or_ge j ((i + 1) * 2) with h2 | h2
      · rw [World.cell?_setCells_out _ _ _ _ _ (fun _ _ => .inl (by simp only; omega))]
        show (W1.setCells w.heap.size (i * 2) (encSv p)).cell? _ = _
        rw [List.getElem?_append_left (by omega)] at hj
        have := World.cell?_setCells_in w.heap.size (encSv p) (i * 2) W1 t2 (j - i * 2) (by omega)
        rw [show i * 2 + (j - i * 2) = j by omega] at this
        rw [this, ← hj, List.getElem?_eq_getElem (by omega)]
      · rw [List.getElem?_append_right (by omega), hte] at hj
        have hlt := (List.getElem?_eq_some_iff.1 hj).1
        have := World.cell?_setCells_in w.heap.size (flatS (L.drop i)) ((i + 1) * 2) _ t1 (j - i * 2 - 2) hlt
        rw [show (i + 1) * 2 + (j - i * 2 - 2) = j by omega] at this
        rw [this, ← hj, List.getElem?_eq_getElem hlt]
  subst hW1
  have hE1 : ∀ x, ((w.alloc (.cells ROW 26)).drew).cell? x = (w.drew.alloc (.cells ROW 26)).cell? x := fun x => rfl
  have hE2 : ∀ x, ((w.alloc (.cells ROW 26)).drew).frozen? x = (w.drew.alloc (.cells ROW 26)).frozen? x := fun x => rfl
  have hF1 : ∀ x, (((w.alloc (.cells ROW 26)).drew.setCells w.heap.size (i * 2) (encSv p)).drew).cell? x = ((w.drew.alloc (.cells ROW 26)).setCells w.heap.size (i * 2) (encSv p)).cell? x := fun x => rfl
  have hF2 : ∀ x, (((w.alloc (.cells ROW 26)).drew.setCells w.heap.size (i * 2) (encSv p)).drew).frozen? x = ((w.drew.alloc (.cells ROW 26)).setCells w.heap.size (i * 2) (encSv p)).frozen? x := fun x => rfl
  have hFF := HF.out _ rfl _ rfl
  have hGn : c + 1 ≤ G := by rw [hG]; exact grownCap_ge w _ _ _
  have hG63 : G ≤ 9223372036854775807 := by
    have := grownCap_le_maxLen w (c + 1) c 26 (by unfold maxLen; omega)
    rw [← hG] at this
    unfold maxLen at this
    omega
  have hGi : ¬ (G = i) := by omega
  have hGim : ¬ (G = i + 1) := by omega
  have hci : ¬ (c = i) := by omega
  have hz2 : ¬ ((i : Int) = (c : Int)) := by omega
  have hw1 : IntKind.i64.wrap ((i : Int) + 1) = (i : Int) + 1 := by rw [IntKind.wrap_i64]; omega
  have hwn : IntKind.i64.wrap ((c : Int) + 1) = (c : Int) + 1 := by rw [IntKind.wrap_i64]; omega
  have hb1 : (0 : Int) ≤ (i : Int) + 1 := by omega
  have hin : i ≤ c := by omega
  have htn : ((i : Int) + 1).toNat = i + 1 := by omega
  have hb3 : (i : Int) ≤ (c : Int) := by omega
  have hb4 : (i : Int) ≤ (c : Int) + 1 := by omega
  have hin1 : i ≤ c + 1 := by omega
  have hcl : (c : Int) < (c : Int) + 1 := by omega
  have hwk : IntKind.i64.wrap ((c : Int) + 1 - (i : Int)) = (c : Int) + 1 - (i : Int) := by rw [IntKind.wrap_i64]; omega
  clear hkk hold hROW hG hRl hRt hsrc hpv hLs hta htd hrow hgv hcur hcs hN hNt hNf hgW hik hn
  go_enter Try.func36, Try.ntmps36
  go_wp2_with (first
    | (at_builtin; refine Lib.wpList_append_run _ rfl _ _ _ _ rfl _ _ rfl rfl _ _ (hrz _) ?_)
    | (at_builtin; refine wpList_copy2 _ rfl _ _ rfl _ _ rfl rfl (hcpA _ hE1 hE2 _ _) ?_))
  go_region_law (refine step_copy2 rfl _ _ rfl (.slice (some ⟨w.heap.size, (i + 1) * 2, none⟩) (c - i) (G - (i + 1))) (.slice (some ⟨b, i * 2, none⟩) (c - i) (c - i)) (by simp [Act.eval, Act.put]) (by simp [Act.eval, Act.put]) (hcpB _ hF1 hF2 3 (G - (i + 1)) (c - i)) ?_)
  go_wp2
  go_ret
  exact ⟨⟨_, rfl⟩, hFF⟩
end Go.Proofs.Ytphhofbdekbggaa
