/-
  Lists of lines that are grown: what lies where.
-/
import Derived.Test.YtonbkpfnpnlkpaaDoorZj
namespace Go.Proofs.YtonbkpfnpnlkpaaDoor
open Go.RowKit
set_option linter.unusedVariables false
set_option linter.unusedSimpArgs false

theorem same_cap2 {w : World} {B B' : Nat} {e e' : TypeId} {g n c m c' : Nat} {xs ys : List Value} (h1 : w.ownsRow B e 2 (.slice (some ⟨g, 0, none⟩) n c) n xs) (h2 : w.ownsRow B' e' 2 (.slice (some ⟨g, 0, none⟩) m c') m ys) : c = c' := by
  rcases h1.2 with ⟨q, _⟩ | ⟨g1, c1, cur1, q1, _, r1, _, _, s1, _⟩
  · simp at q
  · rcases h2.2 with ⟨q, _⟩ | ⟨g2, c2, cur2, q2, _, r2, _, _, s2, _⟩
    · simp at q
    · simp at q1 q2
      obtain ⟨rfl, rfl⟩ := q1
      obtain ⟨rfl, rfl⟩ := q2
      rw [r1] at r2
      simp at r2
      obtain ⟨rfl, _⟩ := r2
      omega
/-- A shorter row in the block of a longer one that has just been written. -/
theorem row_inner2 {w w' : World} {v : Value} {g n cap N m : Nat} {xs ys zs : List Value} (h1 : w.ownsRow 0 60 2 (.slice (some ⟨g, 0, none⟩) n cap) n xs) (h2 : w.ownsRow 0 60 2 v m ys) (hg : v.ownBlock = some g) (h3 : w'.ownsRow 0 60 2 (.slice (some ⟨g, 0, none⟩) N cap) N zs) (hm : m ≤ N) : w'.ownsRow 0 60 2 v m (zs.take (m * 2)) := by
  obtain ⟨c, rfl⟩ := own_form h2 hg
  obtain rfl := same_cap2 h1 h2
  exact row_take h3 hm

/-- K lists with their marks, of which KG have been grown by m (G). -/
structure Gz (w : World) (B0 : Nat) (FB : Nat → Prop) (tv : Value) (K : Nat) (V : Nat → Value) (gv : Value) (KG m : Nat) (c : Int) (G : Nat → Value) : Prop where
  tl : Tl w FB tv K V (fun i => mf i (c + i))
  lo : ∀ k, FB k → k < B0
  grow : w.ownsRow B0 37 1 gv KG (vsL G KG)
  gs : ∀ i, i < KG → w.ownsRow 0 60 2 (G i) (30 + m) (ml (30 + m) i (c + i))
  gc : ∀ i g, i < KG → (G i).ownBlock = some g → (V i).ownBlock = some g ∨ B0 ≤ g
  hB : B0 ≤ w.heap.size
  kg : KG ≤ K

section
variable {w w' : World} {B0 : Nat} {FB : Nat → Prop} {tv gv : Value} {K KG m : Nat} {c : Int} {V G : Nat → Value}
theorem Gz.kept0 (h : Gz w B0 FB tv K V gv KG m c G) (hf : w.grownBy w' none) : Gz w' B0 FB tv K V gv KG m c G :=
  ⟨h.tl.kept0 hf, h.lo, row_kept h.grow hf (by simp), fun i hi => row_kept (h.gs i hi) hf (by simp), h.gc, Nat.le_trans h.hB hf.size, h.kg⟩
/-- A list that is being grown out of list i. -/
def ApG (B0 KG : Nat) (V G : Nat → Value) (i : Nat) (lv : Value) : Prop :=
  ∀ g, lv.ownBlock = some g → (V i).ownBlock = some g ∨ (∀ j, j < KG → (G j).ownBlock ≠ some g) ∧ B0 ≤ g
theorem Gz.push {i n a : Nat} {lv lv' : Value} (h : Gz w B0 FB tv K V gv i m c G) (hi : i < K) (hn : 30 ≤ n) (hl : w.ownsRow 0 60 2 lv n (ml n i (c + i))) (hap : ApG B0 i V G i lv) (hp : Psh w w' lv n a lv') (hl' : w'.ownsRow 0 60 2 lv' (n + a) (ml (n + a) i (c + i))) :
    Gz w' B0 FB tv K V gv i m c G ∧ ApG B0 i V G i lv' ∧ ∃ row, w.grownBy w' row ∧ ∀ g, row = some g → FB g ∨ B0 ≤ g := by
  rcases hp with ⟨g, cap, rfl, hc, rfl, hg⟩ | ⟨g, cap, rfl, hge, hg⟩
  · obtain ⟨c0, hc0⟩ := row_block hl g rfl
    have t37 : ∀ {B m : Nat} {v : Value} {ys : List Value}, w.ownsRow B 37 1 v m ys → ∀ k, v.ownBlock = some k → some k ≠ some g := fun hr k hk e => by
      obtain ⟨c1, hc1⟩ := row_block hr k hk
      exact ne_of_type hc1 hc0 (by decide) (Option.some.inj e)
    have hvi : ∀ j, j < K → (V j).ownBlock = some g → j = i := fun j hj e => by
      rcases hap g rfl with h1 | ⟨_, h1⟩
      · apply Classical.byContradiction
        intro hne
        exact h.tl.vv j i g hj hi hne e h1
      · have := h.lo g (h.tl.fv j g hj e); omega
    refine ⟨⟨⟨row_kept h.tl.hr hg (t37 h.tl.hr), fun j hj => ?_, h.tl.fl, h.tl.vv, h.tl.fv, h.tl.ft, fun k hk => Nat.lt_of_lt_of_le (h.tl.lt k hk) hg.size, h.tl.hK⟩, h.lo, row_kept h.grow hg (t37 h.grow), fun j hj => ?_, h.gc, Nat.le_trans h.hB hg.size, h.kg⟩, hap, some g, hg, ?_⟩
    · by_cases e : (V j).ownBlock = some g
      · obtain rfl := hvi j hj e
        have := row_inner2 hl (h.tl.vs j hj) e hl' (by omega)
        rw [show (ml (n + a) j (c + j)).take (30 * 2) = rng 30 (mf j (c + j)) from rng_take (mf_len _ _) (by omega)] at this
        exact this
      · exact row_kept (h.tl.vs j hj) hg (fun q hq e2 => e (by rw [hq]; exact e2))
    · refine row_kept (h.gs j hj) hg (fun q hq e2 => ?_)
      have e : (G j).ownBlock = some g := by rw [hq]; exact e2
      rcases hap g rfl with h1 | ⟨h1, _⟩
      · rcases h.gc j g hj e with h2 | h2
        · have := hvi j (by omega) h2; omega
        · have := h.lo g (h.tl.fv i g hi h1); omega
      · exact h1 j hj e
    · intro q hq
      have hq2 := Option.some.inj hq
      subst hq2
      rcases hap g rfl with h1 | ⟨_, h1⟩
      · exact .inl (h.tl.fv i g hi h1)
      · exact .inr h1
  · refine ⟨h.kept0 hg, fun q hq => ?_, none, hg, by simp⟩
    have hq2 : g = q := by simpa [Value.ownBlock] using hq
    subst hq2
    refine .inr ⟨fun j hj e => ?_, Nat.le_trans h.hB hge⟩
    have := (own_lo (h.gs j hj) e).2; omega
/-- What has been grown out of list i is kept. -/
theorem Gz.one {lv gv' : Value} {i : Nat} (h : Gz w B0 FB tv K V gv i m c G) (hi : i < K) (hl : w.ownsRow 0 60 2 lv (30 + m) (ml (30 + m) i (c + i))) (hap : ApG B0 i V G i lv) (hown : w'.ownsRow B0 37 1 gv' (i + 1) (vsL G i ++ [lv])) (hg : w.grownBy w' gv.ownBlock) :
    Gz w' B0 FB tv K V gv' (i + 1) m c (upd G i lv) ∧ Kp (fun k => FB k ∨ B0 ≤ k) w w' := by
  have ho0 : ∀ g, gv.ownBlock = some g → B0 ≤ g := fun g e => (own_lo h.grow e).1
  have k60 : ∀ {B n : Nat} {v : Value} {ys : List Value}, w.ownsRow B 60 2 v n ys → w'.ownsRow B 60 2 v n ys := fun hr => row_kept hr hg (fun k hk e2 => by
    obtain ⟨c1, hc1⟩ := row_block hr k hk
    obtain ⟨c2, hc2⟩ := row_block h.grow k e2.symm
    exact ne_of_type hc1 hc2 (by decide) rfl)
  refine ⟨⟨⟨row_kept h.tl.hr hg (fun k hk e => ?_), fun j hj => k60 (h.tl.vs j hj), h.tl.fl, h.tl.vv, h.tl.fv, h.tl.ft, fun k hk => Nat.lt_of_lt_of_le (h.tl.lt k hk) hg.size, h.tl.hK⟩, h.lo, ?_, fun j hj => ?_, fun j g hj hg2 => ?_, Nat.le_trans h.hB hg.size, hi⟩, ?_⟩
  · have h1 := h.lo k (h.tl.ft k hk)
    have h2 := ho0 k e.symm
    omega
  · rw [vsL_upd]; exact hown
  · by_cases e : j = i
    · subst e; rw [upd_same]; exact k60 hl
    · rw [upd_other _ _ e]; exact k60 (h.gs j (by omega))
  · by_cases e : j = i
    · subst e; rw [upd_same] at hg2
      exact (hap g hg2).imp id (fun h => h.2)
    · rw [upd_other _ _ e] at hg2; exact h.gc j g (by omega) hg2
  · exact (Kp.refl _ w).step hg (fun g e => .inl (.inr (ho0 g e)))
/-- A phase begins. -/
theorem Tl.begin {f : Nat → Nat → List Value} (h : Tl w FB tv K V f) (hf : ∀ i l, i < K → l < 30 → f i l = mk2 i) (m : Nat) (c : Int) (G : Nat → Value) : Gz w w.heap.size FB tv K V (.slice none 0 0) 0 m c G :=
  ⟨⟨h.hr, fun i hi => by rw [← rng_congr (f := f i) (fun l hl => by rw [hf i l hi hl, mf_lo hl])]; exact h.vs i hi, fun _ _ => rfl, h.vv, h.fv, h.ft, h.lt, h.hK⟩, h.lt, ⟨rfl, .inl ⟨rfl, rfl⟩⟩, fun i hi => by omega, fun i g hi => by omega, Nat.le_refl _, Nat.zero_le _⟩
/-- One line is written. -/
theorem Tl.write {f : Nat → Nat → List Value} (h : Tl w FB tv K V f) {i g cp : Nat} (hi : i < K) (hv2 : V i = .slice (some ⟨g, 0, none⟩) 30 cp) {k : Nat} (hk : k < 30) (x : ByteArray) (z : Int) :
    Tl ((w.setCell ⟨g, k * 2, none⟩ (.string x)).setCell ⟨g, k * 2 + 1, none⟩ (.int .u64 z)) FB tv K V (upd f i (upd (f i) k [.string x, .int .u64 z])) ∧ w.grownBy ((w.setCell ⟨g, k * 2, none⟩ (.string x)).setCell ⟨g, k * 2 + 1, none⟩ (.int .u64 z)) (some g) := by
  have hg : w.grownBy ((w.setCell ⟨g, k * 2, none⟩ (.string x)).setCell ⟨g, k * 2 + 1, none⟩ (.int .u64 z)) (some g) := gb_setCell (gb_setCell (gb_refl _ _) _) _
  have hVi := h.vs i hi
  rw [hv2] at hVi
  obtain ⟨c0, hc0⟩ := row_block hVi g rfl
  refine ⟨⟨row_kept h.hr hg (fun q hq e => ?_), fun j hj => ?_, fun j l => ?_, h.vv, h.fv, h.ft, fun q hq => Nat.lt_of_lt_of_le (h.lt q hq) hg.size, h.hK⟩, hg⟩
  · obtain ⟨c1, hc1⟩ := row_block h.hr q hq
    exact ne_of_type hc1 hc0 (by decide) (Option.some.inj e)
  · by_cases e : j = i
    · subst e
      rw [upd_same, hv2]
      have r1 := row_set (row_set hVi (k * 2) (.string x)) (k * 2 + 1) (.int .u64 z)
      obtain ⟨u, v, huv⟩ : ∃ u v, f j k = [u, v] := by
        have := h.fl j k
        match hm : f j k, this with
        | [u, v], _ => exact ⟨u, v, rfl⟩
      have s1 : (rng 30 (f j)).set (k * 2 + 0) (.string x) = rng 30 (upd (f j) k [.string x, v]) := rng_set (h.fl j) (by omega) _ (fun l hl => upd_other _ _ hl) (by rw [upd_same, huv]; rfl) hk
      have s2 : (rng 30 (upd (f j) k [.string x, v])).set (k * 2 + 1) (.int .u64 z) = rng 30 (upd (f j) k [.string x, .int .u64 z]) :=
        rng_set (s := 2) (fun l => by by_cases e : l = k; · subst e; rw [upd_same]; rfl
                                      · rw [upd_other _ _ e]; exact h.fl j l) (by omega) _ (fun l hl => by rw [upd_other _ _ hl, upd_other _ _ hl]) (by rw [upd_same, upd_same]; rfl) hk
      rw [show (rng 30 (f j)).set (k * 2) (.string x) = rng 30 (upd (f j) k [.string x, v]) from s1, s2] at r1
      exact r1
    · rw [upd_other _ _ e]
      refine row_kept (h.vs j hj) hg (fun q hq e2 => h.vv j i q hj hi e hq ?_)
      rw [hv2, Option.some.inj e2]; rfl
  · by_cases e : j = i
    · subst e
      rw [upd_same]
      by_cases e2 : l = k
      · subst e2; rw [upd_same]; rfl
      · rw [upd_other _ _ e2]; exact h.fl j l
    · rw [upd_other _ _ e]; exact h.fl j l
end

end Go.Proofs.YtonbkpfnpnlkpaaDoor
