import Derived.Test.YtndjimdegkdljaaMa
/-
  What a disk is, as plain data (Md); the change of names in memory.
-/
namespace Go.Proofs.Ytndjimdegkdljaa
open Go.RowKit
set_option linter.unusedVariables false
set_option linter.unusedSimpArgs false
attribute [local go_sem] Oper.semAt_some

abbrev b8 (b : UInt8) : Value := .int .u8 b.toNat
/-- A fault of a plan. -/
structure Flt where
  step : Int
  kind : Int
  part : Int
/-- A disk, as both the program and the document have it. -/
structure Md where
  space : Int
  acts : Nat
  files : List (Bs × Nat)
  safe : NS
  ch : List Ch
  plan : Int → Option Flt
  dark : Bool
def Md.names (M : Md) : NS := after M.safe M.ch
/-- A file that something leads nw. -/
def Reach (M : Md) (k : Nat) : Prop := (∃ s, M.safe s = some k) ∨ ∃ c ∈ M.ch, c.f = k
structure Md.Ok (M : Md) : Prop where
  s0 : 0 ≤ M.space
  s1 : M.space ≤ 1099511627776
  sf : ∀ s k, M.safe s = some k → k < M.files.length ∧ s ≠ [] ∧ s.length ≤ 32
  cf : ∀ c ∈ M.ch, c.f < M.files.length ∧ (c.fr = [] → c.nw ≠ []) ∧ c.nw.length ≤ 32 ∧ c.fr.length ≤ 32
  cs : ∀ j c, M.ch[j]? = some c → c.fr ≠ [] → after M.safe (M.ch.take j) c.fr = some c.f
  fl : ∀ f ∈ M.files, f.2 ≤ f.1.length
  nf : M.files.length ≤ M.acts
  nc : M.ch.length ≤ M.acts
  na : M.acts ≤ 100000
  nb : ∀ f ∈ M.files, f.1.length ≤ M.acts * 2097152
theorem app_reach {m : NS} {c : Ch} {s : Bs} {k : Nat} (h : c.app m s = some k) : m s = some k ∨ c.f = k := by
  unfold Ch.app at h
  split at h
  · exact .inr (Option.some.inj h)
  · split at h
    · cases h
    · exact .inl h
theorem snoc_ind {α : Type} {P : List α → Prop} (h0 : P []) (h1 : ∀ l a, P l → P (l ++ [a])) (l : List α) : P l := by
  rw [← List.reverse_reverse l]
  induction l.reverse with
  | nil => exact h0
  | cons a t ih => rw [List.reverse_cons]; exact h1 _ _ ih
theorem after_reach {m : NS} {l : List Ch} : ∀ {s : Bs} {k : Nat}, after m l s = some k → m s = some k ∨ ∃ c ∈ l, c.f = k := by
  refine snoc_ind (P := fun l => ∀ {s : Bs} {k : Nat}, after m l s = some k → m s = some k ∨ ∃ c ∈ l, c.f = k) ?_ ?_ l
  · intro s k h; exact .inl h
  · intro l c ih s k h
    rw [after_snoc] at h
    rcases app_reach h with h | h
    · rcases ih h with h | ⟨c', hc, h⟩
      · exact .inl h
      · exact .inr ⟨c', List.mem_append_left _ hc, h⟩
    · exact .inr ⟨c, by simp, h⟩
theorem Md.names_reach {M : Md} {s : Bs} {k : Nat} (h : M.names s = some k) : Reach M k := (after_reach h).imp (fun h => ⟨s, h⟩) id
theorem after_nil_name {m : NS} (hm : m [] = none) {l : List Ch} : after m l [] = none := by
  refine snoc_ind (P := fun l => after m l [] = none) hm ?_ l
  · intro l c ih
    rw [after_snoc]
    unfold Ch.app
    rw [if_neg (by rintro ⟨h1, h2⟩; exact h1 h2.symm)]
    split
    · rfl
    · exact ih
theorem Md.Ok.empty {M : Md} (h : M.Ok) : M.safe [] = none := by
  cases hs : M.safe [] with
  | none => rfl
  | some k => exact absurd rfl (h.sf _ _ hs).2.1
theorem Md.Ok.nempty {M : Md} (h : M.Ok) : M.names [] = none := after_nil_name h.empty
theorem reach_lt {M : Md} (h : M.Ok) {k : Nat} (hr : Reach M k) : k < M.files.length := by
  rcases hr with ⟨s, hs⟩ | ⟨c, hc, rfl⟩
  · exact (h.sf s k hs).1
  · exact (h.cf c hc).1

/-! ### A change in memory -/
def mdv (fb : Nat → Nat) (c : Ch) : Value := if c.fr = [] then pv (fb c.f) else .pointer none
abbrev chL (fb : Nat → Nat) (c : Ch) : List Value := [sv c.fr, sv c.nw, mdv fb c]
theorem ne_empty {s : Bs} (h : s ≠ []) : (ByteArray.mk s.toArray == ByteArray.mk #[]) = false := by
  cases s with
  | nil => exact absurd rfl h
  | cons a t => rfl
set_option maxRecDepth 100000 in
set_option maxHeartbeats 4000000 in
theorem do_76 {w : World} {b : Nat} {fb : Nat → Nat} {m : NS} (h : NmM w b fb m) (c : Ch) (h0 : m [] = none) (h1 : c.fr = [] → c.nw ≠ []) (h2 : c.fr ≠ [] → m c.fr = some c.f) :
    Calls Try.prog 76 #[.map (some b), .agg #[sv c.fr, sv c.nw, mdv fb c]] w fun e w' => e = .returned (.tuple #[]) ∧ NmM w' b fb (c.app m) ∧ w.grownBy w' (some b) := by
  obtain ⟨fr, nw, f⟩ := c
  simp only at h1 h2 ⊢
  unfold mdv
  simp only
  have g0 := gb_alloc (gb_refl w none) (.cells #[sv fr, sv nw, if fr = [] then pv (fb f) else .pointer none] 107)
  by_cases hf : fr = []
  · have ht := h1 hf
    subst hf
    have hM := h.kept g0 (by simp)
    obtain ⟨w', hrun, hN, hg⟩ := nm_set hM nw f
    have e1 : List.isEmpty nw = false := by simpa using ht
    have hend : Ch.app ⟨[], nw, f⟩ m = ups m nw (some f) := by
      funext s
      simp only [Ch.app, ups, ht, ne_eq, not_false_eq_true, true_and]
      by_cases hs : s = nw
      · simp [hs]
      · by_cases hs0 : s = []
        · subst hs0; simp [hs, h0]
        · simp [hs, hs0]
    rw [hend]
    have hgw : w.grownBy w' (some b) := gb_trans (gb_none _ g0) hg
    have HE := Lib.hid (And.intro hN hgw)
    clear hend hN hgw hg hM h g0
    simp only [if_true] at hrun ⊢
    go_enter Try.func76, Try.ntmps76
    go_wp2
    go_end0
    exact ⟨rfl, HE.out⟩
  · have hm := h2 hf
    have e0 : List.isEmpty fr = false := by simpa using hf
    have hM := h.kept g0 (by simp)
    have hlk := nm_look hM fr
    rw [hm] at hlk
    obtain ⟨w1, hdel, hN1, hg1⟩ := nm_del hM fr 0
    have gw1 : w.grownBy w1 (some b) := gb_trans (gb_none _ g0) hg1
    simp only [hf, if_false, lkv] at hlk hdel ⊢
    by_cases ht : nw = []
    · subst ht
      have hend : Ch.app ⟨fr, [], f⟩ m = ups m fr none := by
        funext s
        simp [Ch.app, ups]
      rw [hend]
      have HE := Lib.hid (And.intro hN1 gw1)
      have q1 : w1.cell? ⟨w.heap.size, 1, none⟩ = some (sv []) := gb_cell hg1 (by rw [Box.cell (Box.new w 107 _)]; rfl) (by have := h.lt; simp; omega)
      clear hend hN1 gw1 hg1 hM h g0
      go_enter Try.func76, Try.ntmps76
      go_wp2
      go_end0
      exact ⟨rfl, HE.out⟩
    · have e1 : List.isEmpty nw = false := by simpa using ht
      obtain ⟨w2, hrun, hN2, hg2⟩ := nm_set hN1 nw f
      have hend : Ch.app ⟨fr, nw, f⟩ m = ups (ups m fr none) nw (some f) := by
        funext s
        simp only [Ch.app, ups, ht, ne_eq, not_false_eq_true, true_and]
      rw [hend]
      have g3 := gb_trans gw1 hg2
      have HE := Lib.hid (And.intro hN2 g3)
      have q1 : w1.cell? ⟨w.heap.size, 1, none⟩ = some (sv nw) := gb_cell hg1 (by rw [Box.cell (Box.new w 107 _)]; rfl) (by have := h.lt; simp; omega)
      clear hend hN1 hN2 gw1 g3 hg1 hg2 hM h g0
      go_enter Try.func76, Try.ntmps76
      go_wp2
      go_end0
      exact ⟨rfl, HE.out⟩
end Go.Proofs.Ytndjimdegkdljaa
