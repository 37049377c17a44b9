/-
  Held.Add.
-/
import Derived.Test.YtknhoncnaigogaaBi
namespace Go.Proofs.Ytknhoncnaigogaa
open Go.RowKit
set_option linter.unusedVariables false

/-- Held between two calls. -/
def HeldOK (w : World) (hb : Nat) (F : Nat → Prop) : Prop := ∃ gv wv L M sz, IsH w hb F gv wv L M sz ∧ L.length < 250 ∧ 0 ≤ sz ∧ sz < 2097152

theorem Kp.trans {F G H : Nat → Prop} {a b c : World} (h : Kp F a b) (k : Kp G b c) (hF : ∀ i, F i → H i) (hG : ∀ i, G i → H i ∨ a.heap.size ≤ i) : Kp H a c :=
  ⟨k.os.trans h.os, k.tape.trans h.tape, k.output.trans h.output, Nat.le_trans h.size k.size, fun i hi hn => (k.block i (Nat.lt_of_lt_of_le hi h.size) (fun e => by rcases hG i e with h1 | h1; exact hn h1; omega)).trans (h.block i hi (fun e => hn (hF i e)))⟩

theorem held_new {w : World} {hb : Nat} (h : Box w 75 hb #[.slice none 0 0, .slice none 0 0, .int .i64 0]) : HeldOK w hb (fun k => k = hb) :=
  ⟨_, _, [], [], 0, ⟨h, World.ownsRow_nil _ _ _ _, World.ownsRow_nil _ _ _ _, rfl, fun k hk => by simp [Value.ownBlock] at hk, fun k hk => by simp [Value.ownBlock] at hk, fun k hk => by simp [Value.ownBlock] at hk, fun i t ht => by simp at ht, fun i t ht => by simp at ht, fun i j t u g ht => by simp at ht, fun k hk => by subst hk; exact lt_of_block h⟩, by simp, by omega, by omega⟩

set_option maxRecDepth 100000 in
set_option maxHeartbeats 4000000 in
theorem heldAdd_any {w : World} {hb : Nat} {F : Nat → Prop} (hH : HeldOK w hb F) (t : Got) (ht1 : isBytes t.xs) (ht2 : t.xs.length ≤ 1000000000) (ht3 : t.a = none → t.xs = []) (ht4 : ∀ g, t.a = some g → ¬ F g ∧ w.heap[g]? = some (.cells (vals t.xs) 5 (0, 0)))
    {wa : Option Addr} {c : Nat} (hw : Own 0 w wa c t.xs) :
    Calls Try.prog 46 #[.pointer (some ⟨hb, 0, none⟩), .slice t.adr t.xs.length t.xs.length, .slice wa t.xs.length c] w fun e w' => e = .returned (.bool true) ∧ Kp (fun k => F k ∨ t.a = some k) w w' ∧ ∃ F', HeldOK w' hb F' ∧ ∀ k, F' k → F k ∨ t.a = some k ∨ w.heap.size ≤ k := by
  obtain ⟨gv, wv, L, M, sz, hH, hn, hs0, hs1⟩ := hH
  obtain ⟨hK, hML⟩ := hH.toK
  clear hH
  have c0 := hK.box.cell 0
  simp at c0
  go_enter Try.func46, Try.ntmps46
  go_wp2_with (at_builtin; go_must (refine push29 rfl _ _ rfl 0 gv L.length _ (by rfl) hK.rg t.adr t.xs.length t.xs.length (by rfl) (by omega) (Nat.zero_le _) ?_))
  intro gv' w1 hown1 hp1
  obtain ⟨g1, cap1, hv1, hf1, hat1⟩ : ∃ g1 cap1, gv' = .slice (some ⟨g1, 0, none⟩) (L.length + 1) cap1 ∧ w.grownBy w1 gv.ownBlock ∧ (gv.ownBlock = some g1 ∨ w.heap.size ≤ g1) := by
    rcases hp1 with ⟨g, cap, rfl, h2, rfl, h4⟩ | ⟨g, cap, rfl, h2, h3⟩
    · exact ⟨g, cap, rfl, h4, .inl rfl⟩
    · exact ⟨g, cap, rfl, gb_none _ h3, .inr h2⟩
  subst hv1
  obtain ⟨hK1, hP1⟩ := hK.more_got (by omega) t ht1 ht2 ht3 ht4 hf1 hown1 hat1
  have hng : some hb ≠ gv.ownBlock := by
    intro e
    obtain ⟨cur2, hc2⟩ := row_block hK.rg hb e.symm
    exact ne_of_type hK.box hc2 (by decide) rfl
  have hbx1 := hK.box.kept hf1 hng
  have d0 := hbx1.cell 0
  simp at d0
  have z0 : w1.frozen? ⟨hb, 0, none⟩ = false := by simp [World.frozen?, show w1.heap[hb]? = _ from hbx1]
  have hw1 : Own 0 (w1.setCell ⟨hb, 0, none⟩ (.slice (some ⟨g1, 0, none⟩) (L.length + 1) cap1)) wa c t.xs := by
    refine row_same hw (fun k hk => ?_)
    obtain ⟨cur2, hc2⟩ := row_block hw k hk
    rw [heap_setCell_other w1 ⟨hb, 0, none⟩ k _ (ne_of_type hc2 hK.box (by decide))]
    refine hf1.block k (lt_of_block hc2) (fun e => ?_)
    obtain ⟨cur3, hc3⟩ := row_block hK.rg k e.symm
    exact ne_of_type hc2 hc3 (by decide) rfl
  clear hbx1 hng hp1 c0
  go_wp2_with fail
  have HA : Hid (gv.ownBlock = some g1 ∨ w.heap.size ≤ g1) := hat1
  have HFG : Hid (∀ k, gv.ownBlock = some k → F k) := hK.fg
  clear hK hown1 hf1 hat1 ht4 d0 z0 hw
  generalize hW : w1.setCell ⟨hb, 0, none⟩ (.slice (some ⟨g1, 0, none⟩) (L.length + 1) cap1) = W at *
  clear hW w1
  have k1 := hK1.box.cell 1
  simp at k1
  have z1 : W.frozen? ⟨hb, 1, none⟩ = false := by simp [World.frozen?, show W.heap[hb]? = _ from hK1.box]
  have hnw : some hb ≠ wv.ownBlock := by
    intro e
    obtain ⟨cur2, hc2⟩ := row_block hK1.rw hb e.symm
    exact ne_of_type hK1.box hc2 (by decide) rfl
  have hcopy : Calls Try.prog 35 #[.slice wa t.xs.length c] W.drew fun e w2 => ∃ ao cap, e = .returned (.slice ao t.xs.length cap) ∧ (w2.cell? ⟨hb, 1, none⟩ = some wv ∧ w2.frozen? ⟨hb, 1, none⟩ = false) ∧ Own W.heap.size w2 ao cap t.xs ∧ W.grownBy w2 none ∧ IsK w2 hb (fun k => F k ∨ t.a = some k ∨ k = g1) (.slice (some ⟨g1, 0, none⟩) (L.length + 1) cap1) wv (L ++ [t]) M sz := by
    refine (copy_any (w := W.drew) hw1.has c (by intro e; subst e; exact hw1.nilcap.1) (by omega)).mono ?_
    rintro e w2 ⟨ao, cap, rfl, h1, h2⟩
    have h3 : W.grownBy w2 none := ⟨h2.os, h2.tape, h2.output, h2.size, h2.block⟩
    have h4 := hK1.kept0 h3
    have h5 := h4.box.cell 1
    simp at h5
    exact ⟨ao, cap, rfl, ⟨h5, by simp [World.frozen?, show w2.heap[hb]? = _ from h4.box]⟩, h1, h3, h4⟩
  clear hw1 hK1
  obtain ⟨i0, hi0, hz0, hz1, hz2⟩ := info_parts Try.info29
  go_region_law ((first | (go_simp; go_at_call 35; refine hcopy.mono ?_; rintro e w2 ⟨ao, cap, rfl, ⟨k2, z2⟩, hao, hf2, hK2⟩; have k3 : ∀ o, (w2.alloc o).cell? ⟨hb, 1, none⟩ = some wv := (fun o => gb_cellN (World.grownBy_alloc w2 o none) k2)) | (refine step_append_lies _ (by rfl) _ _ _ (by rfl) 0 29 i0 _ 1 24 Try.underlying73 hi0 hz0 hz1 hz2 rfl (by omega) wv M.length M (by rfl) (World.ownsRow.alloc hK2.rw _) ⟨w2.heap.size, 0, none⟩ 1 1 [.slice ao t.xs.length cap] (by rfl) (by rfl) (World.news_of_block (cs := #[.slice ao t.xs.length cap]) (t := 29) (fr := (0, 0)) (heap_alloc_new w2 _)) (by simp [Value.oneCell']) (by omega) (by unfold maxLen; omega) (by omega) (Nat.zero_le _) (w2.heap.size + 1) (by simp) ?_; intro g2 cap2 w3 hown3 hgrow3 hat3 hlt3; have b3 := (hK2.box.kept (World.grownBy_alloc w2 _ none) (by simp)).kept hgrow3 hnw; have b4 : w3.cell? ⟨hb, 1, none⟩ = some wv := (by rw [b3.cell 1]; rfl); have b5 : w3.frozen? ⟨hb, 1, none⟩ = false := (by simp [World.frozen?, show w3.heap[hb]? = _ from b3]))))
  all_goals
    obtain ⟨hK3, hP3⟩ := hK2.more_want (t := t) (by simp; omega) (by rw [hML]; simp) (hao.base (Nat.zero_le _)) (gb_trans (World.grownBy_alloc w2 _ _) hgrow3) hown3 (by rcases hat3 with h | h; exact .inl h; exact .inr (by omega))
    rw [hML] at hK3 hP3
    have HG2 : Hid (∀ k, ((F k ∨ t.a = some k ∨ k = g1) ∨ blk ao = some k ∨ k = g2) → F k ∨ t.a = some k ∨ w.heap.size ≤ k) := by
      have e1 : ∀ k, (F k ∨ t.a = some k ∨ k = g1) → F k ∨ t.a = some k ∨ w.heap.size ≤ k := by
        rintro k (h | h | h)
        · exact .inl h
        · exact .inr (.inl h)
        · subst h
          rcases HA.out with h | h
          · exact .inl (HFG.out _ h)
          · exact .inr (.inr h)
      have e2 := hP1.size
      have e3 := hf2.size
      rintro k (h | h | h)
      · exact e1 k h
      · have := (hao.lt k h).1
        exact .inr (.inr (by omega))
      · subst h
        rcases hat3 with h | h
        · exact e1 _ (hK2.fw _ h)
        · exact .inr (.inr (by omega))
    have HP : Hid (Kp (fun k => F k ∨ t.a = some k) w (w3.setCell ⟨hb, 1, none⟩ (.slice (some ⟨g2, 0, none⟩) (L.length + 1) cap2))) := by
      refine Kp.trans ((hP1.trans (Kp.of (F := F) hf2) (H := F) (fun i h => h) (fun i h => .inl h))) hP3 (fun i h => .inl h) (fun i h => ?_)
      rcases HG2.out i (.inl h) with h | h | h
      · exact .inl (.inl h)
      · exact .inl (.inr h)
      · exact .inr h
    have HS : Hid (w.heap.size ≤ (w3.setCell ⟨hb, 1, none⟩ (.slice (some ⟨g2, 0, none⟩) (L.length + 1) cap2)).heap.size) := HP.out.size
    generalize hW3 : w3.setCell ⟨hb, 1, none⟩ (.slice (some ⟨g2, 0, none⟩) (L.length + 1) cap2) = W3 at *
    clear hP3 hW3 b3 b4 b5 hown3 hgrow3 hat3 hlt3 hK2 hao hf2 k2 k3 z2 hcopy hi0 hz0 hz1 hz2 hnw k1 z1 hP1 HA HFG
    have c0 := hK3.box.cell 0
    have c2 := hK3.box.cell 2
    simp at c0 c2
    have z2 : W3.frozen? ⟨hb, 2, none⟩ = false := by simp [World.frozen?, show W3.heap[hb]? = _ from hK3.box]
    obtain ⟨hK4, hP4⟩ := hK3.resize (sz + t.xs.length + 140)
    have d0 := hK4.box.cell 0
    have d2 := hK4.box.cell 2
    simp at d0 d2
    have hML2 : Hid ((M ++ [Value.slice ao t.xs.length cap]).length = (L ++ [t]).length) := by show _ = _; simp [hML]
    clear hML hK3
    by_cases hq : L.length + 1 < 250 ∧ sz + t.xs.length + 140 < 2097152
    · obtain ⟨hq1, hq2⟩ := hq
      go_wp2
      go_ret
      refine ⟨rfl, HP.out.trans hP4 (fun i h => h) (fun i h => ?_), _, ⟨_, _, _, _, _, hK4.toH hML2.out, by simpa using hq1, by omega, hq2⟩, HG2.out⟩
      rcases HG2.out i h with h | h | h
      · exact .inl (.inl h)
      · exact .inl (.inr h)
      · exact .inr h
    · have hown := heldOwn_any (hK4.toH hML2.out) (by simp; omega)
      have HK4 : Hid (Kp (fun k => F k ∨ t.a = some k) w (W3.setCell ⟨hb, 2, none⟩ (.int .i64 (sz + t.xs.length + 140)))) := by
        refine HP.out.trans hP4 (fun i h => h) (fun i h => ?_)
        rcases HG2.out i h with h | h | h
        · exact .inl (.inl h)
        · exact .inl (.inr h)
        · exact .inr h
      have HFB : Hid (∀ k, k = hb → F k ∨ t.a = some k ∨ w.heap.size ≤ k) := fun k hk => HG2.out k (hk ▸ hK4.fb)
      clear hK4 hP4
      by_cases hq1 : L.length + 1 < 250
      · have hq2 : ¬ (sz + t.xs.length + 140 < 2097152) := fun h => hq ⟨hq1, h⟩
        clear hq
        go_wp2_with (go_at_call 12; go_must (refine hown.mono ?_); rintro e w5 ⟨rfl, h1, h2⟩)
        go_ret
        refine ⟨rfl, HK4.out.trans h1 (fun i h => h) (fun i h => ?_), _, held_new h2, HFB.out⟩
        rcases HG2.out i h with h | h | h
        · exact .inl (.inl h)
        · exact .inl (.inr h)
        · exact .inr h
      · clear hq
        go_wp2_with (go_at_call 12; go_must (refine hown.mono ?_); rintro e w5 ⟨rfl, h1, h2⟩)
        go_ret
        refine ⟨rfl, HK4.out.trans h1 (fun i h => h) (fun i h => ?_), _, held_new h2, HFB.out⟩
        rcases HG2.out i h with h | h | h
        · exact .inl (.inl h)
        · exact .inl (.inr h)
        · exact .inr h

end Go.Proofs.Ytknhoncnaigogaa
