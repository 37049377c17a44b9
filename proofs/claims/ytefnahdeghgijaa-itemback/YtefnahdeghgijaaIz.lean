import Derived.Test.YtefnahdeghgijaaIy
import Derived.Deep.RegionHeld3
/-
  ItemBack's walk: more words.
-/
namespace Go.Proofs.Ytefnahdeghgijaa
open Go.RowKit
set_option linter.unusedVariables false

section
variable {w : World} {xc : Array Value} {sb ib : Nat} {F : Nat → Prop} {B : Bl} {b c d e f g : Int} {A : Ab} {ko va na : Option Addr} {kn vn nn : Nat} {K vs us : List Int} {zs : List Int} {W : World}
/-- The item's value is another slice. -/
theorem BK.setv {x0 x1 x2 x3 x4 x5 x6 x7 : Value} (h : BK w xc sb ib F B b c d e f g A ko va na kn vn nn K vs us #[x0, x1, x2, x3, x4, x5, x6, x7] zs W) (hib : ¬ F ib) (hw : w.heap.size < ib) (hko : ∀ x, ko.map (·.block) = some x → x ≠ ib) (hva : ∀ x, va.map (·.block) = some x → x ≠ ib) (hna : ∀ x, na.map (·.block) = some x → x ≠ ib) (v : Value) :
    BK w xc sb ib F B b c d e f g A ko va na kn vn nn K vs us #[x0, v, x2, x3, x4, x5, x6, x7] zs (W.setCell ⟨ib, 1, none⟩ v) := by
  have hg : W.grownBy (W.setCell ⟨ib, 1, none⟩ v) (some ib) := gb_setCell (gb_refl _ _) _
  have hK : Kp (fun k => k = ib) W (W.setCell ⟨ib, 1, none⟩ v) := (Kp.refl _ _).step hg (fun i hi => .inl (by simpa using hi.symm))
  exact ⟨gb_mine h.gr hg (by omega), h.bx.kept hg (by simp; omega), h.bi.set 1 v, h.is.kept hK (fun k hk e => hib (e ▸ hk)), h.hk.kept hg (fun x hx => by have := hko x hx; simpa using this), h.hv.kept hg (fun x hx => by have := hva x hx; simpa using this), h.hu.kept hg (fun x hx => by have := hna x hx; simpa using this)⟩
/-- A block beyond all is written. -/
theorem BK.far {ic : Array Value} (h : BK w xc sb ib F B b c d e f g A ko va na kn vn nn K vs us ic zs W) {W' : World} {gb : Nat} (hf : W.grownBy W' (some gb)) (hgb : ib < gb) (hib : ∀ k, F k → k < ib) (hw : w.heap.size < ib) (hko : ∀ x, ko.map (·.block) = some x → x < ib) (hva : ∀ x, va.map (·.block) = some x → x < ib) (hna : ∀ x, na.map (·.block) = some x → x < ib) :
    BK w xc sb ib F B b c d e f g A ko va na kn vn nn K vs us ic zs W' := by
  have hK : Kp (fun k => k = gb) W W' := (Kp.refl _ _).step hf (fun i hi => .inl (by simpa using hi.symm))
  exact ⟨gb_mine h.gr hf (by omega), h.bx.kept hf (by simp; omega), h.bi.kept hf (by simp; omega), h.is.kept hK (fun k hk e => by have := hib k hk; omega), h.hk.kept hf (fun x hx => by have := hko x hx; simp; omega), h.hv.kept hf (fun x hx => by have := hva x hx; simp; omega), h.hu.kept hf (fun x hx => by have := hna x hx; simp; omega)⟩
end
theorem IsI.gen {zs : List Int} {pl : Nat} {t : It} (h : IsI zs pl t) : cut zs (pl + 12) 4 = be 4 t.gn := by
  have hc := cut_seg t.L 3 (be 4 t.gn) rfl
  rw [It.lens, be_len] at hc
  rw [h.lies.cutE 12 4 (by rw [It.len]; omega)]
  exact hc
section
variable {w : World} {xc : Array Value} {sb ib : Nat} {F : Nat → Prop} {B : Bl} {b c d e f g : Int} {A : Ab} {ko va na : Option Addr} {kn vn nn : Nat} {K vs us : List Int} {ic : Array Value} {zs : List Int} {W : World}
theorem bk_read2 (h : BK w xc sb ib F B b c d e f g A ko va na kn vn nn K vs us ic zs W) (hA : Fit2 A) {H p k : Nat} (hH : IsH A H p k) (t : It) (hI : IsI zs (A.place p k) t) (hfit : 58 + t.key.length + t.val.length ≤ A.sz (A.own p)) :
    Calls Try.prog 17 #[.pointer (some ⟨sb, 0, none⟩), .int .u64 H] W fun y W' => ∃ g1 g2, y = .returned (.tuple #[itV (some ⟨g1, 0, none⟩) t.key.length t.key.length (some ⟨g2, 0, none⟩) t.val.length t.val.length t.fl t.ex t.to t.tk t.st t.ms, .int .i64 0]) ∧ BK w xc sb ib F B b c d e f g A ko va na kn vn nn K vs us ic zs W' ∧ W.grownBy W' none ∧ W.heap.size ≤ g1 ∧ W.heap.size ≤ g2 ∧ Has W' (some ⟨g1, 0, none⟩) t.key.length t.key ∧ Has W' (some ⟨g2, 0, none⟩) t.val.length t.val :=
  (read_it h.is hA hH t hI hfit).mono (by
    rintro y W' ⟨g1, g2, rfl, h1, h2, h3, h4, h5⟩
    exact ⟨g1, g2, rfl, h.step h1, h1, h2, h3, has_vals h4 rfl, has_vals h5 rfl⟩)
end
theorem withVal_self (t : It) (q : List Int) (h : t.val = q) : t.withVal q = t := by
  subst h; rfl

/-- A part of a row, from x on to its end, whatever address the slice bears. -/
theorem has_end {W : World} {g n : Nat} {ys : List Int} (h : Has W (some ⟨g, 0, none⟩) n ys) (x : Nat) (hx : x ≤ n) (ad : Addr) (had : (if n = x then some (⟨g, 0, none⟩ : Addr) else some ⟨g, x, none⟩) = some ad) : Has W (some ad) (n - x) (cut ys x (n - x)) := by
  by_cases e : n = x
  · rw [if_pos e] at had
    cases had
    exact h.piece x (n - x) 0 (by omega) (fun h0 => by omega)
  · rw [if_neg e] at had
    cases had
    exact h.piece x (n - x) x (by omega) (fun _ => rfl)
end Go.Proofs.Ytefnahdeghgijaa
