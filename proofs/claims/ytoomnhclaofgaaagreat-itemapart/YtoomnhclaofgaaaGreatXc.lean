import Derived.Test.YtoomnhclaofgaaaGreatXb
import Derived.Test.YtoomnhclaofgaaaGreatIy
/-
  ItemApart's walk: where it stands.
-/
namespace Go.Proofs.YtoomnhclaofgaaaGreat
open Go.RowKit
set_option linter.unusedVariables false

theorem Has.keptK {F : Nat → Prop} {w w' : World} {a : Option Addr} {n : Nat} {ys : List Int} (h : Has w a n ys) (hK : Kp F w w') (hne : ∀ x, a.map (·.block) = some x → ¬ F x) : Has w' a n ys := by
  refine ⟨h.1, fun h0 => ?_⟩
  obtain ⟨b, o, rfl, hc⟩ := h.2 h0
  refine ⟨b, o, rfl, fun i hi => ?_⟩
  have h1 := hc i hi
  have hlt := World.block_lt_of_cell? _ _ h1
  have := hK.block b hlt (hne b rfl)
  simpa [World.cell?, this] using h1

/-- What is apart. -/
structure AF (w : World) (ib yb : Nat) (F : Nat → Prop) (ko : Option Addr) (go pa pb s : Nat) : Prop where
  lo : ∀ k, F k → w.heap.size < k
  nib : ¬ F ib
  wi : w.heap.size < ib
  nyb : ¬ F yb
  yi : yb ≠ ib
  nko : ∀ x, ko.map (·.block) = some x → ¬ F x ∧ x ≠ ib
  ngo : ¬ F go ∧ go ≠ ib
  ap : pa + s ≤ pb ∨ pb + s ≤ pa
  s64 : 64 ≤ s

/-- The law's argument (xc), its item (ic, in block ib), the fields to be set (yc, in block yb), the Set, the key, the other chunk's bytes as they were. -/
structure AW (w : World) (xc : Array Value) (sb ib yb : Nat) (F : Nat → Prop) (B : Bl) (b c d e f g : Int) (A : Ab) (ko : Option Addr) (go pa pb s : Nat) (K OB : List Int) (yc ic : Array Value) (zs : List Int) (t : It) (W : World) : Prop where
  gr : w.grownBy W none
  bx : Box W 25 w.heap.size xc
  bi : Box W 40 ib ic
  bY : Box W 40 yb yc
  is : IsS W sb F B b c d e f g A zs
  hk : Has W ko 1 K
  ho : Has W (some ⟨go, 0, none⟩) s OB
  it : IsI zs pa t
  ob : cut zs pb s = OB
  la : pa + s ≤ zs.length
  lb : pb + s ≤ zs.length

section
variable {w : World} {xc : Array Value} {sb ib yb : Nat} {F : Nat → Prop} {B : Bl} {b c d e f g : Int} {A : Ab} {ko : Option Addr} {go pa pb s : Nat} {K OB : List Int} {yc ic : Array Value} {zs : List Int} {t : It} {W W' : World}
theorem AW.step (h : AW w xc sb ib yb F B b c d e f g A ko go pa pb s K OB yc ic zs t W) (hf : W.grownBy W' none) : AW w xc sb ib yb F B b c d e f g A ko go pa pb s K OB yc ic zs t W' :=
  ⟨gb_trans h.gr hf, h.bx.kept hf (by simp), h.bi.kept hf (by simp), h.bY.kept hf (by simp), h.is.kept0 hf, h.hk.kept0 hf, h.ho.kept0 hf, h.it, h.ob, h.la, h.lb⟩
/-- A number of the first item's chunk is set. -/
theorem AW.laid (h : AW w xc sb ib yb F B b c d e f g A ko go pa pb s K OB yc ic zs t W) (hA : AF w ib yb F ko go pa pb s) {x n : Nat} {v : Int} (hx : x + n ≤ 64) {t' : It} (hI : IsI (lay zs (pa + x) (be n v)) pa t') (hK : Kp F W W') (hS : IsS W' sb F B b c d e f g A (lay zs (pa + x) (be n v))) : AW w xc sb ib yb F B b c d e f g A ko go pa pb s K OB yc ic (lay zs (pa + x) (be n v)) t' W' := by
  have h64 := hA.s64
  have hla := h.la
  have hlb := h.lb
  have hl : (lay zs (pa + x) (be n v)).length = zs.length := length_lay (by rw [be_len]; omega)
  refine ⟨?_, hK.box h.bx (fun e => by have := hA.lo _ e; omega), hK.box h.bi hA.nib, hK.box h.bY hA.nyb, hS, h.hk.keptK hK (fun x hx => (hA.nko x hx).1), h.ho.keptK hK (fun x hx => by simp at hx; subst hx; exact hA.ngo.1), hI, ?_, by rw [hl]; exact hla, by rw [hl]; exact hlb⟩
  · exact ((Kp.of (F := fun _ => False) h.gr).trans hK (H := fun _ => False) (fun _ h => h) (fun k hk => .inr (by have := hA.lo k hk; omega))).grown (fun _ h => h.elim)
  · rw [← h.ob]
    refine cut_far zs (pa + x) (be n v) (by rw [be_len]; omega) pb s ?_
    rw [be_len]
    have := hA.ap
    omega
/-- A field of the law's item is set. -/
theorem AW.cell (h : AW w xc sb ib yb F B b c d e f g A ko go pa pb s K OB yc ic zs t W) (hA : AF w ib yb F ko go pa pb s) (j : Nat) (v : Value) : AW w xc sb ib yb F B b c d e f g A ko go pa pb s K OB yc (ic.setIfInBounds j v) zs t (W.setCell ⟨ib, j, none⟩ v) := by
  have hg : W.grownBy (W.setCell ⟨ib, j, none⟩ v) (some ib) := gb_setCell (gb_refl _ _) _
  have hK : Kp (fun k => k = ib) W (W.setCell ⟨ib, j, none⟩ v) := (Kp.refl _ _).step hg (fun i hi => .inl (by simpa using hi.symm))
  have hwi := hA.wi
  exact ⟨gb_mine h.gr hg (by omega), h.bx.kept hg (by simp; omega), h.bi.set j v, h.bY.kept hg (by have := hA.yi; simpa using this), h.is.kept hK (fun k hk e => hA.nib (e ▸ hk)), h.hk.kept hg (fun x hx => by have := (hA.nko x hx).2; simpa using this), h.ho.kept hg (fun x hx => by simp at hx; subst hx; have := hA.ngo.2; simpa using this), h.it, h.ob, h.la, h.lb⟩
end

/-- The fields after k of the six. -/
def stp (t u : It) (k : Nat) : It := { t with fl := if 0 < k then u.fl else t.fl, tk := if 1 < k then u.tk else t.tk, ex := if 2 < k then u.ex else t.ex, to := if 3 < k then u.to else t.to, st := if 4 < k then u.st else t.st, ms := if 5 < k then u.ms else t.ms }
theorem isI_layP {zs : List Int} (pl : Nat) (ex to tk fl st ms cl gn : Int) (K q : List Int) (hlen : pl + (58 + K.length + q.length) ≤ zs.length) (hb : Bnd fl ex to st ms) (htk : 0 ≤ tk ∧ tk < 18446744073709551616) (hcl : 0 ≤ cl ∧ cl < 256) (hgn : 0 ≤ gn ∧ gn < 4294967296) (hK : 1 ≤ K.length ∧ K.length ≤ 250) (hq : q.length ≤ 1048576) (hKb : isBytes K) (hqb : isBytes q) :
    IsI (lay zs pl (It.L ⟨0, 0, 0, gn, ex, to, tk, fl, st, ms, cl, K, q⟩).flatten) pl ⟨0, 0, 0, gn, ex, to, tk, fl, st, ms, cl, K, q⟩ := by
  obtain ⟨b1, b2, b3, b4, b5⟩ := hb
  exact ⟨lies_lay (by rw [It.len]; simp only; omega), by simp, by simp, by simp, hgn, b2, b3, htk, ⟨b1.1, by simp only; omega⟩, ⟨by simp only; omega, by simp only; omega⟩, ⟨b5.1, by simp only; omega⟩, hcl, hK, hq, hKb, hqb⟩
theorem legal_one {K : List Int} (h : LegalP K) (hb : isBytes K) : ∃ x, cut K 0 1 = [x] ∧ LegalP [x] ∧ isBytes [x] := by
  cases K with
  | nil => exact absurd h.1 (by simp)
  | cons x r =>
    refine ⟨x, by simp [cut], ⟨by simp, by simp, fun i hi => ?_⟩, fun z hz => hb z (by simp at hz; simp [hz])⟩
    have h0 : i = 0 := by simpa using hi
    subst h0
    exact h.2.2 0 (by simp)
theorem legal_z : LegalP [122] := ⟨by decide, by decide, fun i hi => by
  have : i = 0 := by simp at hi; omega
  subst this; decide⟩
theorem bytes_z : isBytes [122] := by intro z hz; simp at hz; omega
end Go.Proofs.YtoomnhclaofgaaaGreat
