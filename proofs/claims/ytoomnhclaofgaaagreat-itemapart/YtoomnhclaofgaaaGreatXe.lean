import Derived.Test.YtoomnhclaofgaaaGreatXc
/-
  ItemApart's walk: its calls.
-/
namespace Go.Proofs.YtoomnhclaofgaaaGreat
open Go.RowKit
set_option linter.unusedVariables false

section
variable {w : World} {xc : Array Value} {sb ib yb : Nat} {F : Nat → Prop} {B : Bl} {b c d e f g : Int} {A : Ab} {ko : Option Addr} {go pa pb s : Nat} {K OB : List Int} {yc ic : Array Value} {zs : List Int} {t : It} {W W' : World}
theorem aw_flags (h : AW w xc sb ib yb F B b c d e f g A ko go pa pb s K OB yc ic zs t W) (hF : AF w ib yb F ko go pa pb s) (hA : Fit2 A) {H p k : Nat} (hH : IsH A H p k) (hp : A.place p k = pa) (v : Int) (hv : 0 ≤ v ∧ v ≤ 4294967295) :
    Calls Tryz.prog 13 #[.pointer (some ⟨sb, 0, none⟩), .int .u64 H, .int .u64 v] W fun y W' => y = .returned (.int .i64 0) ∧ ∃ zs', AW w xc sb ib yb F B b c d e f g A ko go pa pb s K OB yc ic zs' { t with fl := v } W' := by
  have hk1 := h.it.k1
  refine (setFlags_yes h.is hA hH t.key.length (by rw [hp]; exact h.it.kl) (by omega) v hv).mono ?_
  rintro y W' ⟨rfl, hK, hS⟩
  rw [hp] at hS
  exact ⟨rfl, _, h.laid hF (by omega) (h.it.setFl v (by omega)) hK hS⟩
theorem aw_token (h : AW w xc sb ib yb F B b c d e f g A ko go pa pb s K OB yc ic zs t W) (hF : AF w ib yb F ko go pa pb s) (hA : Fit2 A) {H p k : Nat} (hH : IsH A H p k) (hp : A.place p k = pa) (v : Int) (hv : 0 ≤ v ∧ v ≤ 18446744073709551615) :
    Calls Tryz.prog 14 #[.pointer (some ⟨sb, 0, none⟩), .int .u64 H, .int .u64 v] W fun y W' => y = .returned (.int .i64 0) ∧ ∃ zs', AW w xc sb ib yb F B b c d e f g A ko go pa pb s K OB yc ic zs' { t with tk := v } W' := by
  have hk1 := h.it.k1
  refine (setToken_yes h.is hA hH t.key.length (by rw [hp]; exact h.it.kl) (by omega) v hv).mono ?_
  rintro y W' ⟨rfl, hK, hS⟩
  rw [hp] at hS
  exact ⟨rfl, _, h.laid hF (by omega) (h.it.setTk v (by omega)) hK hS⟩
theorem aw_expiry (h : AW w xc sb ib yb F B b c d e f g A ko go pa pb s K OB yc ic zs t W) (hF : AF w ib yb F ko go pa pb s) (hA : Fit2 A) {H p k : Nat} (hH : IsH A H p k) (hp : A.place p k = pa) (v : Int) (hv : 0 ≤ v ∧ v ≤ 9223372036854775807) :
    Calls Tryz.prog 15 #[.pointer (some ⟨sb, 0, none⟩), .int .u64 H, .int .i64 v] W fun y W' => y = .returned (.int .i64 0) ∧ ∃ zs', AW w xc sb ib yb F B b c d e f g A ko go pa pb s K OB yc ic zs' { t with ex := v } W' := by
  have hk1 := h.it.k1
  refine (setExpiry_yes h.is hA hH t.key.length (by rw [hp]; exact h.it.kl) (by omega) v hv).mono ?_
  rintro y W' ⟨rfl, hK, hS⟩
  rw [hp] at hS
  exact ⟨rfl, _, h.laid hF (by omega) (h.it.setEx v (by omega)) hK hS⟩
theorem aw_touched (h : AW w xc sb ib yb F B b c d e f g A ko go pa pb s K OB yc ic zs t W) (hF : AF w ib yb F ko go pa pb s) (hA : Fit2 A) {H p k : Nat} (hH : IsH A H p k) (hp : A.place p k = pa) (v : Int) (hv : 0 ≤ v ∧ v ≤ 9223372036854775807) :
    Calls Tryz.prog 16 #[.pointer (some ⟨sb, 0, none⟩), .int .u64 H, .int .i64 v] W fun y W' => y = .returned (.int .i64 0) ∧ ∃ zs', AW w xc sb ib yb F B b c d e f g A ko go pa pb s K OB yc ic zs' { t with to := v } W' := by
  have hk1 := h.it.k1
  refine (setTouched_yes h.is hA hH t.key.length (by rw [hp]; exact h.it.kl) (by omega) v hv).mono ?_
  rintro y W' ⟨rfl, hK, hS⟩
  rw [hp] at hS
  exact ⟨rfl, _, h.laid hF (by omega) (h.it.setTo v (by omega)) hK hS⟩
theorem aw_state (h : AW w xc sb ib yb F B b c d e f g A ko go pa pb s K OB yc ic zs t W) (hF : AF w ib yb F ko go pa pb s) (hA : Fit2 A) {H p k : Nat} (hH : IsH A H p k) (hp : A.place p k = pa) (v : Int) (hv : 1 ≤ v ∧ v ≤ 4) :
    Calls Tryz.prog 17 #[.pointer (some ⟨sb, 0, none⟩), .int .u64 H, .int .i64 v] W fun y W' => y = .returned (.int .i64 0) ∧ ∃ zs', AW w xc sb ib yb F B b c d e f g A ko go pa pb s K OB yc ic zs' { t with st := v } W' := by
  have hk1 := h.it.k1
  obtain ⟨n, rfl⟩ := Int.eq_ofNat_of_zero_le (show 0 ≤ v by omega)
  refine (setState_yes h.is hA hH t.key.length (by rw [hp]; exact h.it.kl) (by omega) n (by omega) (by omega)).mono ?_
  rintro y W' ⟨rfl, hK, hS⟩
  rw [hp] at hS
  exact ⟨rfl, _, h.laid hF (by omega) (h.it.setSt (n : Int) (by omega)) hK hS⟩
theorem aw_marks (h : AW w xc sb ib yb F B b c d e f g A ko go pa pb s K OB yc ic zs t W) (hF : AF w ib yb F ko go pa pb s) (hA : Fit2 A) {H p k : Nat} (hH : IsH A H p k) (hp : A.place p k = pa) (v : Int) (hv : 0 ≤ v ∧ v ≤ 15) :
    Calls Tryz.prog 18 #[.pointer (some ⟨sb, 0, none⟩), .int .u64 H, .int .i64 v] W fun y W' => y = .returned (.int .i64 0) ∧ ∃ zs', AW w xc sb ib yb F B b c d e f g A ko go pa pb s K OB yc ic zs' { t with ms := v } W' := by
  have hk1 := h.it.k1
  refine (setMarks_yes h.is hA hH t.key.length (by rw [hp]; exact h.it.kl) (by omega) v hv).mono ?_
  rintro y W' ⟨rfl, hK, hS⟩
  rw [hp] at hS
  exact ⟨rfl, _, h.laid hF (by omega) (h.it.setMs v (by omega)) hK hS⟩
theorem aw_read (h : AW w xc sb ib yb F B b c d e f g A ko go pa pb s K OB yc ic zs t W) (hA : Fit2 A) {H p k : Nat} (hH : IsH A H p k) (hp : A.place p k = pa) (hfit : 58 + t.key.length + t.val.length ≤ A.sz (A.own p)) :
    Calls Tryz.prog 19 #[.pointer (some ⟨sb, 0, none⟩), .int .u64 H] W fun y W' => ∃ g1 g2, y = .returned (.tuple #[itV (some ⟨g1, 0, none⟩) t.key.length t.key.length (some ⟨g2, 0, none⟩) t.val.length t.val.length t.fl t.ex t.to t.tk t.st t.ms, .int .i64 0]) ∧ AW w xc sb ib yb F B b c d e f g A ko go pa pb s K OB yc ic zs t W' ∧ W.grownBy W' none ∧ Has W' (some ⟨g1, 0, none⟩) t.key.length t.key ∧ Has W' (some ⟨g2, 0, none⟩) t.val.length t.val :=
  (read_it h.is hA hH t (by rw [hp]; exact h.it) hfit).mono (by
    rintro y W' ⟨g1, g2, rfl, h1, h2, h3, h4, h5⟩
    exact ⟨g1, g2, rfl, h.step h1, h1, has_vals h4 rfl, has_vals h5 rfl⟩)
/-- A handle and its number. -/
def Num (A : Ab) (to : Nat) (v : Int) : Prop := (to = 0 ∧ v = 0) ∨ ∃ q l, IsH A to q l ∧ v = ((nm to : Nat) : Int)
def It.setL (t : It) (j : Nat) (v : Int) : It := if j = 0 then { t with l0 := v } else if j = 1 then { t with l1 := v } else { t with l2 := v }
def It.getL (t : It) (j : Nat) : Int := if j = 0 then t.l0 else if j = 1 then t.l1 else t.l2
theorem It.getL_set (t : It) (i j : Nat) (hi : i < 3) (hj : j < 3) (v : Int) : (t.setL j v).getL i = if i = j then v else t.getL i := by
  have h1 : i = 0 ∨ i = 1 ∨ i = 2 := by omega
  have h2 : j = 0 ∨ j = 1 ∨ j = 2 := by omega
  rcases h1 with rfl | rfl | rfl <;> rcases h2 with rfl | rfl | rfl <;> rfl
theorem IsI.setL (h : IsI zs pa t) (j : Nat) (hj : j < 3) (v : Int) (hv : 0 ≤ v ∧ v < 4294967296) : IsI (lay zs (pa + j * 4) (be 4 v)) pa (t.setL j v) := by
  have h2 : j = 0 ∨ j = 1 ∨ j = 2 := by omega
  rcases h2 with rfl | rfl | rfl
  · exact h.setL0 v hv
  · exact h.setL1 v hv
  · exact h.setL2 v hv
theorem IsI.getL (h : IsI zs pa t) (j : Nat) (hj : j < 3) : YtoomnhclaofgaaaGreat.getL zs (pa + j * 4) 4 0 0 = t.getL j := by
  have h2 : j = 0 ∨ j = 1 ∨ j = 2 := by omega
  rcases h2 with rfl | rfl | rfl
  · exact h.link0
  · exact h.link1
  · exact h.link2
theorem aw_setLink (h : AW w xc sb ib yb F B b c d e f g A ko go pa pb s K OB yc ic zs t W) (hF : AF w ib yb F ko go pa pb s) (hA : Fit2 A) {H p k : Nat} (hH : IsH A H p k) (hp : A.place p k = pa) (j : Nat) (hj : j < 3) (to : Nat) (v : Int) (hv : Num A to v) :
    Calls Tryz.prog 22 #[.pointer (some ⟨sb, 0, none⟩), .int .u64 H, .int .i64 j, .int .u64 to] W fun y W' => y = .returned (.int .i64 0) ∧ Kp F W W' ∧ ∃ zs', AW w xc sb ib yb F B b c d e f g A ko go pa pb s K OB yc ic zs' (t.setL j v) W' := by
  have hk1 := h.it.k1
  rcases hv with ⟨rfl, rfl⟩ | ⟨q, l, hq, rfl⟩
  · refine (setLink_zero h.is hA hH t.key.length (by rw [hp]; exact h.it.kl) (by omega) j hj).mono ?_
    rintro y W' ⟨rfl, hK, hS⟩
    rw [hp] at hS
    exact ⟨rfl, hK, _, h.laid hF (by omega) (h.it.setL j hj 0 (by omega)) hK hS⟩
  · refine (setLink_to h.is hA hH t.key.length (by rw [hp]; exact h.it.kl) (by omega) j hj hq).mono ?_
    rintro y W' ⟨rfl, hK, hS⟩
    rw [hp] at hS
    exact ⟨rfl, hK, _, h.laid hF (by omega) (h.it.setL j hj _ (by unfold nm; omega)) hK hS⟩
theorem aw_link (h : AW w xc sb ib yb F B b c d e f g A ko go pa pb s K OB yc ic zs t W) (hA : Fit2 A) {H p k : Nat} (hH : IsH A H p k) (hp : A.place p k = pa) (j : Nat) (hj : j < 3) (to : Nat) (hv : Num A to (t.getL j)) :
    Calls Tryz.prog 23 #[.pointer (some ⟨sb, 0, none⟩), .int .u64 H, .int .i64 j] W fun y W' => y = .returned (.tuple #[.int .u64 to, .int .i64 0]) ∧ W.grownBy W' none := by
  have hk1 := h.it.k1
  have hg := h.it.getL j hj
  rcases hv with ⟨rfl, hv⟩ | ⟨q, l, hq, hv⟩
  · exact link_none h.is hA hH j hj (show _ = _ by rw [hp, hg, hv])
  · exact link_to h.is hA hH t.key.length (by rw [hp]; exact h.it.kl) (by omega) j hj hq (show _ = _ by rw [hp, hg, hv])
theorem AW.far (h : AW w xc sb ib yb F B b c d e f g A ko go pa pb s K OB yc ic zs t W) {lb : Nat} (hf : W.grownBy W' (some lb)) (hlF : ¬ F lb) (hw : w.heap.size < lb) (hib : ib ≠ lb) (hyb : yb ≠ lb) (hko : ∀ x, ko.map (·.block) = some x → x ≠ lb) (hgo : go ≠ lb) : AW w xc sb ib yb F B b c d e f g A ko go pa pb s K OB yc ic zs t W' := by
  have hK : Kp (fun k => k = lb) W W' := (Kp.refl _ _).step hf (fun i hi => .inl (by simpa using hi.symm))
  exact ⟨gb_mine h.gr hf (by omega), h.bx.kept hf (by simp; omega), h.bi.kept hf (by simpa using hib), h.bY.kept hf (by simpa using hyb), h.is.kept hK (fun k hk e => hlF (e ▸ hk)), h.hk.kept hf (fun x hx => by have := hko x hx; simpa using this), h.ho.kept hf (fun x hx => by simp at hx; subst hx; simpa using hgo), h.it, h.ob, h.la, h.lb⟩
theorem Num.bound {to : Nat} {v : Int} (hA : Fit2 A) (h : Num A to v) : to < 18446744073709551616 := by
  rcases h with ⟨rfl, _⟩ | ⟨q, l, hq, _⟩
  · omega
  · exact (hq.parts hA).2.2
end
theorem ix49_0 (a b c : Value) (W : World) : (Instr.index 49 (.agg #[a, b, c]) (.int .i64 0)).run Tryz.prog W = .ok a W := by kernel_rfl
theorem ix49_1 (a b c : Value) (W : World) : (Instr.index 49 (.agg #[a, b, c]) (.int .i64 1)).run Tryz.prog W = .ok b W := by kernel_rfl
theorem ix49_2 (a b c : Value) (W : World) : (Instr.index 49 (.agg #[a, b, c]) (.int .i64 2)).run Tryz.prog W = .ok c W := by kernel_rfl
def LB (L : Nat → Nat) : Array Value := #[.int .u64 (L 0), .int .u64 (L 1), .int .u64 (L 2)]
theorem LB_at (L : Nat → Nat) (j : Nat) (hj : j < 3) : (LB L)[j]? = some (.int .u64 (L j)) := by
  have h2 : j = 0 ∨ j = 1 ∨ j = 2 := by omega
  rcases h2 with rfl | rfl | rfl <;> rfl
theorem LB_set (L : Nat → Nat) (j : Nat) (hj : j < 3) (to : Nat) : (LB L).setIfInBounds j (.int .u64 to) = LB (upf L j to) := by
  have h2 : j = 0 ∨ j = 1 ∨ j = 2 := by omega
  rcases h2 with rfl | rfl | rfl <;> rfl
def upi (a : Nat → Int) (j : Nat) (v : Int) : Nat → Int := fun i => if i = j then v else a i
def linked (a : Nat → Int) (t : It) : It := { t with l0 := a 0, l1 := a 1, l2 := a 2 }
theorem linked_set (a : Nat → Int) (t : It) (j : Nat) (hj : j < 3) (v : Int) : (linked a t).setL j v = linked (upi a j v) t := by
  have h2 : j = 0 ∨ j = 1 ∨ j = 2 := by omega
  rcases h2 with rfl | rfl | rfl <;> rfl
theorem linked_get (a : Nat → Int) (t : It) (j : Nat) (hj : j < 3) : (linked a t).getL j = a j := by
  have h2 : j = 0 ∨ j = 1 ∨ j = 2 := by omega
  rcases h2 with rfl | rfl | rfl <;> rfl
theorem num_upd {A : Ab} {L : Nat → Nat} {a : Nat → Int} (h : ∀ i, i < 3 → Num A (L i) (a i)) (j to : Nat) (v : Int) (hn : Num A to v) : ∀ i, i < 3 → Num A (upf L j to i) (upi a j v i) := by
  intro i hi
  unfold upf upi
  by_cases e : i = j
  · rw [if_pos e, if_pos e]; exact hn
  · rw [if_neg e, if_neg e]; exact h i hi
end Go.Proofs.YtoomnhclaofgaaaGreat
