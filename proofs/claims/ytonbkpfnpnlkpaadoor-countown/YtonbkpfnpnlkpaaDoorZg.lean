/-
  A Book of lists of handles as it is closed: what lies where.
-/
import Derived.Test.YtonbkpfnpnlkpaaDoorZf
namespace Go.Proofs.YtonbkpfnpnlkpaaDoor
open Go.RowKit
set_option linter.unusedVariables false
set_option linter.unusedSimpArgs false

theorem mks_take {n m m' i : Nat} (h : m' ≤ m) : (mks n m i).take (n + m') = mks n m' i := by
  unfold mks hvals
  rw [← List.map_take, List.take_append, List.take_of_length_le (by simp), List.length_replicate, List.take_replicate]
  congr 3
  omega
theorem mks_more (n k m i : Nat) : mks n k i ++ hvals (List.replicate m (-5000000 - (i : Int))) = mks n (k + m) i := by
  unfold mks hvals
  rw [← List.map_append, List.append_assoc, List.replicate_append_replicate]
theorem mks_nil (i : Nat) : mks 0 0 i = [] := rfl

theorem own_form {w : World} {B : Nat} {e : TypeId} {s : Nat} {v : Value} {n : Nat} {xs : List Value} (h : w.ownsRow B e s v n xs) {g : Nat} (hg : v.ownBlock = some g) : ∃ c, v = .slice (some ⟨g, 0, none⟩) n c := by
  rcases h.2 with ⟨rfl, _⟩ | ⟨g', c, cur, rfl, _⟩
  · simp [Value.ownBlock] at hg
  · simp [Value.ownBlock] at hg; subst hg; exact ⟨c, rfl⟩
theorem same_cap {w : World} {B B' : Nat} {e e' : TypeId} {g n c m c' : Nat} {xs ys : List Value} (h1 : w.ownsRow B e 1 (.slice (some ⟨g, 0, none⟩) n c) n xs) (h2 : w.ownsRow B' e' 1 (.slice (some ⟨g, 0, none⟩) m c') m ys) : c = c' := by
  rcases h1.2 with ⟨q, _⟩ | ⟨g1, c1, cur1, q1, _, r1, _, _, s1, _⟩
  · simp at q
  · rcases h2.2 with ⟨q, _⟩ | ⟨g2, c2, cur2, q2, _, r2, _, _, s2, _⟩
    · simp at q
    · simp at q1 q2
      obtain ⟨rfl, rfl⟩ := q1
      obtain ⟨rfl, rfl⟩ := q2
      rw [r1] at r2
      simp at r2
      obtain ⟨rfl, _⟩ := r2
      omega
/-- A shorter row in the block of a longer one that has just been written. -/
theorem row_inner {w w' : World} {v : Value} {g n cap N m : Nat} {xs ys zs : List Value} (h1 : w.ownsRow 0 3 1 (.slice (some ⟨g, 0, none⟩) n cap) n xs) (h2 : w.ownsRow 0 3 1 v m ys) (hg : v.ownBlock = some g) (h3 : w'.ownsRow 0 3 1 (.slice (some ⟨g, 0, none⟩) N cap) N zs) (hm : m ≤ N) : w'.ownsRow 0 3 1 v m (zs.take m) := by
  obtain ⟨c, rfl⟩ := own_form h2 hg
  obtain rfl := same_cap h1 h2
  have := row_take h3 hm
  rwa [Nat.mul_one] at this

/-- A Book with K lists V, of which KO have been grown (O) and KM grown far (M). -/
structure Cl (w : World) (B0 : Nat) (FB : Nat → Prop) (bb : Nat) (hv wv ov mv : Value) (n : Int) (K KO KM : Nat) (V O M : Nat → Value) (L : Nat → Nat) (R : Nat → List Value) : Prop where
  box : Box w 72 bb (bkA hv wv ov mv n)
  hr : w.ownsRow 0 40 1 hv K (vsL V K)
  orow : w.ownsRow B0 40 1 ov KO (vsL O KO)
  mrow : w.ownsRow B0 40 1 mv KM (vsL M KM)
  om : ∀ g, ov.ownBlock = some g → mv.ownBlock ≠ some g
  hl : ∀ g, hv.ownBlock = some g → g < B0
  vs : ∀ i, i < K → w.ownsRow 0 3 1 (V i) (L i) (R i)
  os : ∀ i, i < KO → w.ownsRow 0 3 1 (O i) (L i + 16) (mks (L i) 16 i)
  ms : ∀ i, i < KM → w.ownsRow 0 3 1 (M i) (L i + 700) (mks (L i) 700 i)
  vv : ∀ i j g, i < K → j < K → i ≠ j → (V i).ownBlock = some g → (V j).ownBlock ≠ some g
  vl : ∀ i g, i < K → (V i).ownBlock = some g → g < B0
  oc : ∀ i g, i < KO → (O i).ownBlock = some g → (V i).ownBlock = some g ∨ B0 ≤ g
  mc : ∀ i g, i < KM → (M i).ownBlock = some g → (V i).ownBlock = some g ∨ B0 ≤ g
  fv : ∀ i g, i < K → (V i).ownBlock = some g → FB g
  fb : FB bb
  hB : B0 ≤ w.heap.size
  hbb : bb < B0
  hK : K < 5000
  hL : ∀ i, i < K → L i ≤ 10003
  ko : KO ≤ K
  km : KM ≤ K

section
variable {w w' : World} {B0 : Nat} {FB : Nat → Prop} {bb : Nat} {hv wv ov mv : Value} {n : Int} {K KO KM : Nat} {V O M : Nat → Value} {L : Nat → Nat} {R : Nat → List Value}
theorem Cl.kept0 (h : Cl w B0 FB bb hv wv ov mv n K KO KM V O M L R) (hf : w.grownBy w' none) : Cl w' B0 FB bb hv wv ov mv n K KO KM V O M L R :=
  ⟨h.box.kept hf (by simp), row_kept h.hr hf (by simp), row_kept h.orow hf (by simp), row_kept h.mrow hf (by simp), h.om, h.hl, fun i hi => row_kept (h.vs i hi) hf (by simp), fun i hi => row_kept (h.os i hi) hf (by simp), fun i hi => row_kept (h.ms i hi) hf (by simp), h.vv, h.vl, h.oc, h.mc, h.fv, h.fb, Nat.le_trans h.hB hf.size, h.hbb, h.hK, h.hL, h.ko, h.km⟩

/-- A list that is being grown out of list i. -/
def Ap (B0 : Nat) (KO KM : Nat) (V O M : Nat → Value) (i : Nat) (lv : Value) : Prop :=
  ∀ g, lv.ownBlock = some g → (V i).ownBlock = some g ∨ (∀ j, j < KO → (O j).ownBlock ≠ some g) ∧ (∀ j, j < KM → (M j).ownBlock ≠ some g) ∧ B0 ≤ g

theorem Cl.push (h : Cl w B0 FB bb hv wv ov mv n K KO KM V O M L (fun i => mks (L i) 0 i)) {i k m : Nat} {lv lv' : Value} (hi : i < K) (hl : w.ownsRow 0 3 1 lv (L i + k) (mks (L i) k i)) (hap : Ap B0 KO KM V O M i lv) (hp : Psh w w' lv (L i + k) m lv') (hl' : w'.ownsRow 0 3 1 lv' (L i + k + m) (mks (L i) (k + m) i)) (h16 : i < KO → 16 ≤ k + m) (hKM : KM ≤ i) :
    Cl w' B0 FB bb hv wv ov mv n K KO KM V O M L (fun i => mks (L i) 0 i) ∧ Ap B0 KO KM V O M i lv' ∧ ∃ row, w.grownBy w' row ∧ ∀ g, row = some g → FB g ∨ B0 ≤ g := by
  rcases hp with ⟨g, cap, rfl, hc, rfl, hg⟩ | ⟨g, cap, rfl, hge, hg⟩
  · obtain ⟨c0, hc0⟩ := row_block hl g rfl
    have t90 : ∀ {B m : Nat} {v : Value} {ys : List Value}, w.ownsRow B 40 1 v m ys → ∀ k, v.ownBlock = some k → some k ≠ some g := fun hr k hk e => by
      obtain ⟨c1, hc1⟩ := row_block hr k hk
      exact ne_of_type hc1 hc0 (by decide) (Option.some.inj e)
    have hvi : ∀ j, j < K → (V j).ownBlock = some g → j = i := fun j hj e => by
      rcases hap g rfl with h1 | ⟨_, _, h1⟩
      · apply Classical.byContradiction
        intro hne
        exact h.vv j i g hj hi hne e h1
      · have := h.vl j g hj e; omega
    refine ⟨⟨h.box.kept hg (fun e => ne_of_type h.box hc0 (by decide) (Option.some.inj e)), row_kept h.hr hg (t90 h.hr), row_kept h.orow hg (t90 h.orow), row_kept h.mrow hg (t90 h.mrow), h.om, h.hl, fun j hj => ?_, fun j hj => ?_, fun j hj => ?_, h.vv, h.vl, h.oc, h.mc, h.fv, h.fb, Nat.le_trans h.hB hg.size, h.hbb, h.hK, h.hL, h.ko, h.km⟩, hap, some g, hg, ?_⟩
    · by_cases e : (V j).ownBlock = some g
      · obtain rfl := hvi j hj e
        have := row_inner hl (h.vs j hj) e hl' (by omega)
        rw [show mks (L j) 0 j = (mks (L j) (k + m) j).take (L j) by rw [← mks_take (m' := 0) (Nat.zero_le (k + m)), Nat.add_zero]]
        exact this
      · exact row_kept (h.vs j hj) hg (fun q hq e2 => e (by rw [hq]; exact e2))
    · by_cases e : (O j).ownBlock = some g
      · have hji : j = i := by
          rcases hap g rfl with h1 | ⟨h1, _, _⟩
          · rcases h.oc j g hj e with h2 | h2
            · exact hvi j (Nat.lt_of_lt_of_le hj h.ko) h2
            · have := h.vl i g hi h1; omega
          · exact absurd e (h1 j hj)
        subst hji
        have h3 := h16 hj
        have := row_inner hl (h.os j hj) e hl' (by omega)
        rw [mks_take h3] at this
        exact this
      · exact row_kept (h.os j hj) hg (fun q hq e2 => e (by rw [hq]; exact e2))
    · refine row_kept (h.ms j hj) hg (fun q hq e2 => ?_)
      have e : (M j).ownBlock = some g := by rw [hq]; exact e2
      rcases hap g rfl with h1 | ⟨_, h1, _⟩
      · rcases h.mc j g hj e with h2 | h2
        · have := hvi j (Nat.lt_of_lt_of_le hj h.km) h2; omega
        · have := h.vl i g hi h1; omega
      · exact h1 j hj e
    · intro q hq
      have hq2 := Option.some.inj hq
      subst hq2
      rcases hap g rfl with h1 | ⟨_, _, h1⟩
      · exact .inl (h.fv i g hi h1)
      · exact .inr h1
  · refine ⟨h.kept0 hg, fun q hq => ?_, none, hg, by simp⟩
    have hq2 : g = q := by simpa [Value.ownBlock] using hq
    subst hq2
    refine .inr ⟨fun j hj e => ?_, fun j hj e => ?_, Nat.le_trans h.hB hge⟩
    · have := (own_lo (h.os j hj) e).2; omega
    · have := (own_lo (h.ms j hj) e).2; omega

/-- One mark is written into list i. -/
theorem Cl.write (h : Cl w B0 FB bb hv wv ov mv n K 0 0 V O M L R) {i g c : Nat} (hi : i < K) (hv2 : V i = .slice (some ⟨g, 0, none⟩) (L i) c) (k : Nat) (v : Value) :
    Cl (w.setCell ⟨g, k, none⟩ v) B0 FB bb hv wv ov mv n K 0 0 V O M L (upd R i ((R i).set k v)) := by
  have hg : w.grownBy (w.setCell ⟨g, k, none⟩ v) (some g) := gb_setCell (gb_refl _ _) _
  have hVi := h.vs i hi
  rw [hv2] at hVi
  obtain ⟨c0, hc0⟩ := row_block hVi g rfl
  have t90 : ∀ {B m : Nat} {v : Value} {ys : List Value}, w.ownsRow B 40 1 v m ys → ∀ k, v.ownBlock = some k → some k ≠ some g := fun hr k hk e => by
    obtain ⟨c1, hc1⟩ := row_block hr k hk
    exact ne_of_type hc1 hc0 (by decide) (Option.some.inj e)
  refine ⟨h.box.kept hg (fun e => ne_of_type h.box hc0 (by decide) (Option.some.inj e)), row_kept h.hr hg (t90 h.hr), row_kept h.orow hg (t90 h.orow), row_kept h.mrow hg (t90 h.mrow), h.om, h.hl, fun j hj => ?_, fun j hj => by omega, fun j hj => by omega, h.vv, h.vl, h.oc, h.mc, h.fv, h.fb, Nat.le_trans h.hB hg.size, h.hbb, h.hK, h.hL, h.ko, h.km⟩
  by_cases e : j = i
  · subst e
    rw [upd_same, hv2]
    exact row_set hVi k v
  · rw [upd_other _ _ e]
    refine row_kept (h.vs j hj) hg (fun q hq e2 => h.vv j i q hj hi e hq ?_)
    rw [hv2, Option.some.inj e2]; rfl

/-- What has been grown out of list i is kept. -/
theorem Cl.one {w7 : World} {lv ov' : Value} {i : Nat} (h : Cl w B0 FB bb hv wv ov mv n K i KM V O M L R) (hi : i < K) (hl : w.ownsRow 0 3 1 lv (L i + 16) (mks (L i) 16 i)) (hap : Ap B0 i KM V O M i lv) (hown : w7.ownsRow B0 40 1 ov' (i + 1) (vsL O i ++ [lv])) (hg : w.grownBy w7 ov.ownBlock) (hat : ∀ g, ov'.ownBlock = some g → ov.ownBlock = some g ∨ w.heap.size ≤ g) :
    Cl (w7.setCell ⟨bb, 6, none⟩ ov') B0 FB bb hv wv ov' mv n K (i + 1) KM V (upd O i lv) M L R ∧ Kp (fun k => FB k ∨ B0 ≤ k) w (w7.setCell ⟨bb, 6, none⟩ ov') := by
  have hgs : w7.grownBy (w7.setCell ⟨bb, 6, none⟩ ov') (some bb) := gb_setCell (gb_refl _ _) _
  have hB := h.hB
  have hbb := h.hbb
  have ho0 : ∀ g, ov.ownBlock = some g → B0 ≤ g := fun g e => (own_lo h.orow e).1
  have b7 := h.box.kept hg (fun e => by have := ho0 _ e.symm; omega)
  have keep : ∀ {B : Nat} {e : TypeId} {v : Value} {m : Nat} {ys : List Value}, w.ownsRow B e 1 v m ys → e ≠ 72 → (e ≠ 40 ∨ ∀ g, v.ownBlock = some g → ov.ownBlock ≠ some g) → (w7.setCell ⟨bb, 6, none⟩ ov').ownsRow B e 1 v m ys := fun hr he hd => by
    refine row_kept (row_kept hr hg (fun k hk e2 => ?_)) hgs (fun k hk e2 => ?_)
    · rcases hd with hd | hd
      · obtain ⟨c1, hc1⟩ := row_block hr k hk
        obtain ⟨c2, hc2⟩ := row_block h.orow k e2.symm
        exact ne_of_type hc1 hc2 hd rfl
      · exact hd k hk e2.symm
    · obtain ⟨c1, hc1⟩ := row_block hr k hk
      exact ne_of_type hc1 h.box he (Option.some.inj e2)
  obtain ⟨go, co, rfl, hgo, hgo2⟩ := hown.form (by omega)
  refine ⟨⟨b7.set 6 _, keep h.hr (by decide) (.inr fun g hg2 e => by have := h.hl g hg2; have := ho0 g e; omega), ?_, keep h.mrow (by decide) (.inr fun g hg2 e => h.om g e hg2), ?_, h.hl, fun j hj => keep (h.vs j hj) (by decide) (.inl (by decide)), fun j hj => ?_, fun j hj => keep (h.ms j hj) (by decide) (.inl (by decide)), h.vv, h.vl, fun j g hj hg2 => ?_, h.mc, h.fv, h.fb, ?_, h.hbb, h.hK, h.hL, hi, h.km⟩, ?_⟩
  · rw [vsL_upd]
    exact row_kept hown hgs (fun k hk e2 => by simp [Value.ownBlock] at hk; have := Option.some.inj e2; omega)
  · intro g hg2 e
    rcases hat g hg2 with h1 | h1
    · exact h.om g h1 e
    · have := (own_lo h.mrow e).2; omega
  · by_cases e : j = i
    · subst e; rw [upd_same]; exact keep hl (by decide) (.inl (by decide))
    · rw [upd_other _ _ e]; exact keep (h.os j (by omega)) (by decide) (.inl (by decide))
  · by_cases e : j = i
    · subst e; rw [upd_same] at hg2
      exact (hap g hg2).imp id (fun h => h.2.2)
    · rw [upd_other _ _ e] at hg2; exact h.oc j g (by omega) hg2
  · have := hg.size; have := hgs.size; omega
  · exact ((Kp.refl _ w).step hg (fun g e => .inl (.inr (ho0 g e)))).step hgs (fun g e => .inl (.inl (by have := Option.some.inj e; subst this; exact h.fb)))
theorem Cl.many {w7 : World} {lv mv' : Value} {i : Nat} (h : Cl w B0 FB bb hv wv ov mv n K KO i V O M L R) (hi : i < K) (hl : w.ownsRow 0 3 1 lv (L i + 700) (mks (L i) 700 i)) (hap : Ap B0 KO i V O M i lv) (hown : w7.ownsRow B0 40 1 mv' (i + 1) (vsL M i ++ [lv])) (hg : w.grownBy w7 mv.ownBlock) (hat : ∀ g, mv'.ownBlock = some g → mv.ownBlock = some g ∨ w.heap.size ≤ g) :
    Cl (w7.setCell ⟨bb, 7, none⟩ mv') B0 FB bb hv wv ov mv' n K KO (i + 1) V O (upd M i lv) L R ∧ Kp (fun k => FB k ∨ B0 ≤ k) w (w7.setCell ⟨bb, 7, none⟩ mv') := by
  have hgs : w7.grownBy (w7.setCell ⟨bb, 7, none⟩ mv') (some bb) := gb_setCell (gb_refl _ _) _
  have hB := h.hB
  have hbb := h.hbb
  have ho0 : ∀ g, mv.ownBlock = some g → B0 ≤ g := fun g e => (own_lo h.mrow e).1
  have b7 := h.box.kept hg (fun e => by have := ho0 _ e.symm; omega)
  have keep : ∀ {B : Nat} {e : TypeId} {v : Value} {m : Nat} {ys : List Value}, w.ownsRow B e 1 v m ys → e ≠ 72 → (e ≠ 40 ∨ ∀ g, v.ownBlock = some g → mv.ownBlock ≠ some g) → (w7.setCell ⟨bb, 7, none⟩ mv').ownsRow B e 1 v m ys := fun hr he hd => by
    refine row_kept (row_kept hr hg (fun k hk e2 => ?_)) hgs (fun k hk e2 => ?_)
    · rcases hd with hd | hd
      · obtain ⟨c1, hc1⟩ := row_block hr k hk
        obtain ⟨c2, hc2⟩ := row_block h.mrow k e2.symm
        exact ne_of_type hc1 hc2 hd rfl
      · exact hd k hk e2.symm
    · obtain ⟨c1, hc1⟩ := row_block hr k hk
      exact ne_of_type hc1 h.box he (Option.some.inj e2)
  obtain ⟨go, co, rfl, hgo, hgo2⟩ := hown.form (by omega)
  refine ⟨⟨b7.set 7 _, keep h.hr (by decide) (.inr fun g hg2 e => by have := h.hl g hg2; have := ho0 g e; omega), keep h.orow (by decide) (.inr fun g hg2 e => h.om g hg2 e), ?_, ?_, h.hl, fun j hj => keep (h.vs j hj) (by decide) (.inl (by decide)), fun j hj => keep (h.os j hj) (by decide) (.inl (by decide)), fun j hj => ?_, h.vv, h.vl, h.oc, fun j g hj hg2 => ?_, h.fv, h.fb, ?_, h.hbb, h.hK, h.hL, h.ko, hi⟩, ?_⟩
  · rw [vsL_upd]
    exact row_kept hown hgs (fun k hk e2 => by simp [Value.ownBlock] at hk; have := Option.some.inj e2; omega)
  · intro g hg2 e
    rcases hat g e with h1 | h1
    · exact h.om g hg2 h1
    · have := (own_lo h.orow hg2).2; omega
  · by_cases e : j = i
    · subst e; rw [upd_same]; exact keep hl (by decide) (.inl (by decide))
    · rw [upd_other _ _ e]; exact keep (h.ms j (by omega)) (by decide) (.inl (by decide))
  · by_cases e : j = i
    · subst e; rw [upd_same] at hg2
      exact (hap g hg2).imp id (fun h => h.2.2)
    · rw [upd_other _ _ e] at hg2; exact h.mc j g (by omega) hg2
  · have := hg.size; have := hgs.size; omega
  · exact ((Kp.refl _ w).step hg (fun g e => .inl (.inr (ho0 g e)))).step hgs (fun g e => .inl (.inl (by have := Option.some.inj e; subst this; exact h.fb)))
end

end Go.Proofs.YtonbkpfnpnlkpaaDoor
