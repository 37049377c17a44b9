import Derived.Test.YtjkdflnnpdionaaGreatPa
/-
  apart: two images without what the queue may change.
-/
namespace Go.Proofs.YtjkdflnnpdionaaGreat
open Go.RowKit
set_option linter.unusedVariables false

/-- Where a link or a state of an item lies. -/
def Lp (pl q : Nat) : Prop := (pl + 4 ≤ q ∧ q < pl + 12) ∨ q = pl + 45
structure Df (A : Ab) (xl T : List Nat) (xs ys : List Int) : Prop where
  lx : xs.length = 16384
  ly : ys.length = 16384
  bx : isBytes xs
  yb : isBytes ys
  df : ∀ q, xs[q]? ≠ ys[q]? → ∃ H, H ∈ xl ∧ H ∉ T ∧ ∃ x k, IsH A H x k ∧ Lp (A.place x k) q
theorem isBytes_set {xs : List Int} (h : isBytes xs) (i : Nat) : isBytes (xs.set i 0) := fun z hz => by
  rcases List.mem_or_eq_of_mem_set hz with h1 | h1
  · exact h z h1
  · subst h1; omega
theorem Df.set {A : Ab} {xl T : List Nat} {xs ys : List Int} (h : Df A xl T xs ys) (i : Nat) : Df A xl T (xs.set i 0) (ys.set i 0) := by
  refine ⟨by simpa using h.lx, by simpa using h.ly, isBytes_set h.bx i, isBytes_set h.yb i, fun q hq => h.df q (fun e => hq ?_)⟩
  rw [List.getElem?_set, List.getElem?_set, h.lx, h.ly, e]
/-- While an item's bytes are wiped. -/
structure Dw (A : Ab) (xl T : List Nat) (pl k : Nat) (xs ys : List Int) : Prop where
  df : Df A xl T xs ys
  wp : ∀ q, pl + 4 ≤ q → q < pl + k → xs[q]? = ys[q]?
theorem Dw.set {A : Ab} {xl T : List Nat} {pl k : Nat} {xs ys : List Int} (h : Dw A xl T pl k xs ys) : Dw A xl T pl (k + 1) (xs.set (pl + k) 0) (ys.set (pl + k) 0) := by
  refine ⟨h.df.set _, fun q h1 h2 => ?_⟩
  rw [List.getElem?_set, List.getElem?_set, h.df.lx, h.df.ly]
  by_cases e : pl + k = q
  · simp only [if_pos e]
  · simp only [if_neg e]
    exact h.wp q h1 (by omega)
theorem Dw.fin {A : Ab} (hA : Fit2 A) {xl T : List Nat} {H x k : Nat} (hX : IsH A H x k) {xs ys : List Int} (h : Dw A xl T (A.place x k) 12 xs ys) : Df A xl (T ++ [H]) (xs.set (A.place x k + 45) 0) (ys.set (A.place x k + 45) 0) := by
  have h1 := h.df.set (A.place x k + 45)
  refine ⟨h1.lx, h1.ly, h1.bx, h1.yb, fun q hq => ?_⟩
  obtain ⟨G, g1, g2, y, l, g3, g4⟩ := h1.df q hq
  refine ⟨G, g1, fun hm => ?_, y, l, g3, g4⟩
  rcases List.mem_append.1 hm with hm | hm
  · exact g2 hm
  · rw [List.mem_singleton] at hm
    subst hm
    obtain ⟨rfl, rfl⟩ := isH_inj hA g3 hX
    rw [List.getElem?_set, List.getElem?_set, h.df.lx, h.df.ly] at hq
    rcases g4 with g4 | g4
    · rw [if_neg (by omega), if_neg (by omega)] at hq
      exact hq (h.wp q g4.1 g4.2)
    · subst g4
      simp at hq
theorem Df.skip {A : Ab} {xl T : List Nat} {H : Nat} {xs ys : List Int} (h : Df A xl T xs ys) (hH : H ∉ xl) : Df A xl (T ++ [H]) xs ys :=
  ⟨h.lx, h.ly, h.bx, h.yb, fun q hq => by
    obtain ⟨G, g1, g2, g3⟩ := h.df q hq
    refine ⟨G, g1, fun hm => ?_, g3⟩
    rcases List.mem_append.1 hm with hm | hm
    · exact g2 hm
    · rw [List.mem_singleton] at hm
      exact hH (hm ▸ g1)⟩
theorem Df.eq {A : Ab} {xl T : List Nat} {xs ys : List Int} (h : Df A xl T xs ys) (hs : ∀ H, H ∈ xl → H ∈ T) : xs = ys := by
  apply List.ext_getElem?
  intro q
  by_cases e : xs[q]? = ys[q]?
  · exact e
  · obtain ⟨G, g1, g2, _⟩ := h.df q e
    exact absurd (hs G g1) g2
theorem Df.start {A : Ab} {xl : List Nat} {xs ys : List Int} (h : Zk A xl xs ys) (h1 : xs.length = 16384) (h2 : isBytes xs) (h3 : isBytes ys) : Df A xl [] xs ys :=
  ⟨h1, h.len.trans h1, h2, h3, fun q hq => by
    by_cases hh : ∃ H, H ∈ xl ∧ ∃ x k, IsH A H x k ∧ Lp (A.place x k) q
    · obtain ⟨H, g1, g⟩ := hh
      exact ⟨H, g1, by simp, g⟩
    · exact absurd (h.out q (fun H hH x k hX => by
        by_cases e : Lp (A.place x k) q
        · exact absurd ⟨H, hH, x, k, hX, e⟩ hh
        · unfold Lp at e
          omega)).symm hq⟩
section
variable {w : World} {ops : Array Oper} {rest : List Oper} {o : Oper} {a : Act} {Q : Exit → Act → World → Prop}
/-- append([]byte{}, a...). -/
theorem copy60 (hgd : o.guard = none) (s x : Operand) (ho : o.op = .call { callee := .builtin .append, args := #[s, x], argTypes := #[60, 60] })
    (ys : List Int) (g cap : Nat) (hx : a.eval x = .slice (some ⟨g, 0, none⟩) ys.length cap) (hg : ∀ i, i < ys.length → w.cell? ⟨g, i, none⟩ = some (.int .u8 (ys.getD i 0))) (hlen : 0 < ys.length ∧ ys.length ≤ 1000000) (hs : a.eval s = .slice (some ⟨w.heap.size, 0, none⟩) 0 0)
    (h : ∀ g' cap' w', w'.ownsRow w.heap.size 5 1 (.slice (some ⟨g', 0, none⟩) ys.length cap') ys.length (bv ys) → w.grownBy w' none → wpList Tryz.prog ops Q rest (a.put o.dst (.slice (some ⟨g', 0, none⟩) ys.length cap')) w') : wpList Tryz.prog ops Q (o :: rest) a (w.alloc (.cells #[] 5)) := by
  have hal := World.grownBy_alloc w (.cells #[] 5) none
  have hown : (w.alloc (.cells #[] 5)).ownsRow w.heap.size 5 1 (.slice (some ⟨w.heap.size, 0, none⟩) 0 0) 0 (bv []) :=
    ⟨rfl, .inr ⟨w.heap.size, 0, #[], rfl, Nat.le_refl _, World.alloc_heap_new w _, Nat.le_refl _, by unfold maxLen; omega, rfl, rfl⟩⟩
  refine cat60 hgd s x ho w.heap.size _ 0 [] ys hs hown rfl g cap hx (fun i hi => gb_cellN hal (hg i hi)) (by omega) hal.size ?_
  intro v' w' h1 h2 h3
  rw [Nat.zero_add, List.nil_append] at h1
  obtain ⟨ao, cp, rfl, _, _, _, hao⟩ := row_shape h1
  obtain ⟨g', rfl⟩ := hao hlen.1
  exact h g' cp w' h1 (gb_mine hal h2 (Nat.le_refl _))
end
theorem row_fz {w : World} {B : Nat} {e : TypeId} {s g n c : Nat} {xs : List Value} (h : w.ownsRow B e s (.slice (some ⟨g, 0, none⟩) n c) n xs) (i : Nat) : w.frozen? ⟨g, i, none⟩ = false := by
  obtain ⟨cur, hc⟩ := row_block h g rfl
  simp [World.frozen?, hc]
/-- Both images, and a byte of each wiped. -/
structure Im (w0 w : World) (gx cx gy cy : Nat) (xs ys : List Int) : Prop where
  gr : w0.grownBy w none
  rx : w.ownsRow w0.heap.size 5 1 (.slice (some ⟨gx, 0, none⟩) 16384 cx) 16384 (bv xs)
  ry : w.ownsRow w0.heap.size 5 1 (.slice (some ⟨gy, 0, none⟩) 16384 cy) 16384 (bv ys)
  ne : gx ≠ gy
theorem Im.kept0 {w0 w w' : World} {gx cx gy cy : Nat} {xs ys : List Int} (h : Im w0 w gx cx gy cy xs ys) (hf : w.grownBy w' none) : Im w0 w' gx cx gy cy xs ys :=
  ⟨gb_trans h.gr hf, row_kept h.rx hf (by simp), row_kept h.ry hf (by simp), h.ne⟩
theorem Im.setx {w0 w : World} {gx cx gy cy : Nat} {xs ys : List Int} (h : Im w0 w gx cx gy cy xs ys) (i : Nat) (v : Int) : Im w0 (w.setCell ⟨gx, i, none⟩ (.int .u8 v)) gx cx gy cy (xs.set i v) ys := by
  refine ⟨gb_mine h.gr (gb_setCell (gb_refl _ _) _) (own_base h.rx gx rfl), ?_, row_same h.ry (fun k hk => heap_setCell_other _ _ _ _ (fun e => h.ne ?_)), h.ne⟩
  · rw [← bv_set]; exact row_set h.rx i _
  · simp [Value.ownBlock] at hk
    exact e.symm.trans hk.symm
theorem Im.sety {w0 w : World} {gx cx gy cy : Nat} {xs ys : List Int} (h : Im w0 w gx cx gy cy xs ys) (i : Nat) (v : Int) : Im w0 (w.setCell ⟨gy, i, none⟩ (.int .u8 v)) gx cx gy cy xs (ys.set i v) := by
  refine ⟨gb_mine h.gr (gb_setCell (gb_refl _ _) _) (own_base h.ry gy rfl), row_same h.rx (fun k hk => heap_setCell_other _ _ _ _ (fun e => h.ne ?_)), ?_, h.ne⟩
  · simp [Value.ownBlock] at hk
    exact hk.trans e
  · rw [← bv_set]; exact row_set h.ry i _
end Go.Proofs.YtjkdflnnpdionaaGreat
