import Derived.Test.YtoomnhclaofgaaaGreatIw
/-
  ItemBack's walk: what is held behind Lay.
-/
namespace Go.Proofs.YtoomnhclaofgaaaGreat
open Go.RowKit
set_option linter.unusedVariables false

theorem has_vals {w : World} {g : Nat} {bs : List Int} (h : w.heap[g]? = some (.cells (vals bs) 5 (0, 0))) {n : Nat} (hn : bs.length = n) : Has w (some ⟨g, 0, none⟩) n bs :=
  ⟨hn, fun _ => ⟨g, 0, rfl, fun i hi => by rw [Nat.zero_add]; exact cell_of_vals h i (by omega)⟩⟩
theorem cut_cut (zs : List Int) (x n y m : Nat) (h : y + m ≤ n) : cut (cut zs x n) y m = cut zs (x + y) m := by
  simp only [cut]
  rw [List.drop_take, List.drop_drop, List.take_take]
  congr 1
  omega

/-- An item that was laid lies there. -/
theorem isI_lay {zs : List Int} (ex to tk fl st ms cl gn : Int) (K q : List Int) (hlen : 58 + K.length + q.length ≤ zs.length) (hb : Bnd fl ex to st ms) (htk : 0 ≤ tk ∧ tk < 18446744073709551616) (hcl : 0 ≤ cl ∧ cl < 256) (hgn : 0 ≤ gn ∧ gn < 4294967296) (hK : 1 ≤ K.length ∧ K.length ≤ 250) (hq : q.length ≤ 1048576) (hKb : isBytes K) (hqb : isBytes q) :
    IsI (lay zs 0 (It.L ⟨0, 0, 0, gn, ex, to, tk, fl, st, ms, cl, K, q⟩).flatten) 0 ⟨0, 0, 0, gn, ex, to, tk, fl, st, ms, cl, K, q⟩ := by
  obtain ⟨b1, b2, b3, b4, b5⟩ := hb
  exact ⟨lies_lay (by rw [It.len]; simp only; omega), by simp, by simp, by simp, hgn, b2, b3, htk, ⟨b1.1, by simp only; omega⟩, ⟨by simp only; omega, by simp only; omega⟩, ⟨b5.1, by simp only; omega⟩, hcl, hK, hq, hKb, hqb⟩
theorem isI_self (ex to tk fl st ms cl gn : Int) (K q : List Int) (hb : Bnd fl ex to st ms) (htk : 0 ≤ tk ∧ tk < 18446744073709551616) (hcl : 0 ≤ cl ∧ cl < 256) (hgn : 0 ≤ gn ∧ gn < 4294967296) (hK : 1 ≤ K.length ∧ K.length ≤ 250) (hq : q.length ≤ 1048576) (hKb : isBytes K) (hqb : isBytes q) :
    IsI (It.L ⟨0, 0, 0, gn, ex, to, tk, fl, st, ms, cl, K, q⟩).flatten 0 ⟨0, 0, 0, gn, ex, to, tk, fl, st, ms, cl, K, q⟩ := by
  obtain ⟨b1, b2, b3, b4, b5⟩ := hb
  exact ⟨lies_self _, by simp, by simp, by simp, hgn, b2, b3, htk, ⟨b1.1, by simp only; omega⟩, ⟨by simp only; omega, by simp only; omega⟩, ⟨b5.1, by simp only; omega⟩, hcl, hK, hq, hKb, hqb⟩
theorem itL_bytes (t : It) (hK : isBytes t.key) (hq : isBytes t.val) : isBytes t.L.flatten := by
  intro z hz
  simp only [It.L, List.flatten_cons, List.flatten_nil, List.mem_append, List.append_nil] at hz
  rcases hz with h | h | h | h | h | h | h | h | h | h | h | h | h | h | h | h | h
  all_goals first | exact be_bytes _ _ z h | exact hK z h | exact hq z h

/-- Region 24's worlds: got's box (gb), it's box (ib); was, now. -/
structure RS (gb ib : Nat) (gc ic : Array Value) (W0 W : World) : Prop where
  gr : W0.grownBy W none
  bg : Box W 40 gb gc
  bi : Box W 40 ib ic
theorem RS.step {gb ib : Nat} {gc ic : Array Value} {W0 W W' : World} (h : RS gb ib gc ic W0 W) (hf : W.grownBy W' none) : RS gb ib gc ic W0 W' := ⟨gb_trans h.gr hf, h.bg.kept hf (by simp), h.bi.kept hf (by simp)⟩
theorem RS.drew {gb ib : Nat} {gc ic : Array Value} {W0 W : World} (h : RS gb ib gc ic W0 W) : RS gb ib gc ic W0 W.drew := h.step (gb_drew (gb_refl _ _))
theorem RS.cc {gb ib : Nat} {x0 x1 x2 x3 x4 x5 x6 x7 y0 y1 y2 y3 y4 y5 y6 y7 : Value} {W0 W : World} (h : RS gb ib #[x0, x1, x2, x3, x4, x5, x6, x7] #[y0, y1, y2, y3, y4, y5, y6, y7] W0 W) : W.cell? ⟨gb, 0, none⟩ = some x0 ∧ W.cell? ⟨gb, 1, none⟩ = some x1 ∧ W.cell? ⟨gb, 2, none⟩ = some x2 ∧ W.cell? ⟨gb, 3, none⟩ = some x3 ∧ W.cell? ⟨gb, 4, none⟩ = some x4 ∧ W.cell? ⟨gb, 5, none⟩ = some x5 ∧ W.cell? ⟨gb, 6, none⟩ = some x6 ∧ W.cell? ⟨gb, 7, none⟩ = some x7 ∧ W.cell? ⟨ib, 0, none⟩ = some y0 ∧ W.cell? ⟨ib, 1, none⟩ = some y1 ∧ W.cell? ⟨ib, 2, none⟩ = some y2 ∧ W.cell? ⟨ib, 3, none⟩ = some y3 ∧ W.cell? ⟨ib, 4, none⟩ = some y4 ∧ W.cell? ⟨ib, 5, none⟩ = some y5 ∧ W.cell? ⟨ib, 6, none⟩ = some y6 ∧ W.cell? ⟨ib, 7, none⟩ = some y7 :=
  ⟨h.bg.cell 0, h.bg.cell 1, h.bg.cell 2, h.bg.cell 3, h.bg.cell 4, h.bg.cell 5, h.bg.cell 6, h.bg.cell 7, h.bi.cell 0, h.bi.cell 1, h.bi.cell 2, h.bi.cell 3, h.bi.cell 4, h.bi.cell 5, h.bi.cell 6, h.bi.cell 7⟩

end Go.Proofs.YtoomnhclaofgaaaGreat
