/-
  CountSplits: what a call's numbers keep.
-/
import Derived.Test.YtonbkpfnpnlkpaaDoorY1
namespace Go.Proofs.YtonbkpfnpnlkpaaDoor
open Go.ChangeShapes Go.WideShapes Go.ChangeAt Go.RowKit
set_option linter.unusedSimpArgs false

/-- What k keys, s sets and at most t touches leave. -/
structure Sp (D : Cn) (k s t : Nat) : Prop where
  a1 : D 1 = k
  a2 : D 6 + D 7 = k
  a3 : D 8 + D 9 ≤ D 7
  a4 : D 19 + D 20 ≤ D 3
  a5 : D 2 = s
  a6 : D 24 ≤ s
  a7 : D 16 + D 17 + D 18 ≤ s
  a8 : D 3 ≤ t
  b1 : D 25 = 0
  b2 : D 26 = 0
  b3 : D 27 = 0
  b4 : D 28 = 0
  b5 : D 30 = 0
theorem Sp.add {D E : Cn} {k s t k' s' t' : Nat} (h : Sp D k s t) (g : Sp E k' s' t') : Sp (Cn.add D E) (k + k') (s + s') (t + t') := by
  obtain ⟨h1, h2, h3, h4, h5, h6, h7, h8, h9, h10, h11, h12, h13⟩ := h
  obtain ⟨g1, g2, g3, g4, g5, g6, g7, g8, g9, g10, g11, g12, g13⟩ := g
  constructor <;> simp only [Cn.add] <;> omega
theorem Sp.more {D : Cn} {k s t t' : Nat} (h : Sp D k s t) (ht : t ≤ t') : Sp D k s t' := ⟨h.a1, h.a2, h.a3, h.a4, h.a5, h.a6, h.a7, Nat.le_trans h.a8 ht, h.b1, h.b2, h.b3, h.b4, h.b5⟩
theorem Sp.zero : Sp (fun _ => 0) 0 0 0 := by constructor <;> simp
theorem Sp.plus {D : Cn} {k s t : Nat} (h : Sp D k s t) (hk : k ≤ 9223372036854775807) (hs : s ≤ 9223372036854775807) (ht : t ≤ 9223372036854775807) : Sp (plus N0 D) k s t := by
  obtain ⟨h1, h2, h3, h4, h5, h6, h7, h8, h9, h10, h11, h12, h13⟩ := h
  constructor <;> simp only [Proofs.YtonbkpfnpnlkpaaDoor.plus, N0] <;> omega
/-- How many are keys that were looked for. -/
def isK (y : Int) : Nat := if 0 ≤ y ∧ y ≤ 3 then 1 else 0
def cnt : List Int → Nat
  | [] => 0
  | y :: l => isK y + cnt l
theorem cnt_app : ∀ (a b : List Int), cnt (a ++ b) = cnt a + cnt b
  | [], _ => by simp [cnt]
  | y :: a, b => by simp only [List.cons_append, cnt, cnt_app a b]; omega
theorem cnt_le : ∀ (a : List Int), cnt a ≤ a.length
  | [] => Nat.le_refl _
  | y :: a => by have := cnt_le a; simp only [cnt, List.length_cons, isK]; split <;> omega
theorem cnt_step {l : List Int} {k : Nat} {y : Int} (h : l[k]? = some y) : cnt (l.take (k + 1)) = cnt (l.take k) + isK y := by
  rw [List.take_add_one, h, cnt_app]; simp [cnt]
theorem Sp.key (y : Int) : Sp (dl (keyL y)) (isK y) 0 0 := by
  rcases (by omega : y = 0 ∨ y = 1 ∨ y = 2 ∨ y = 3 ∨ (y ≠ 0 ∧ y ≠ 1 ∧ y ≠ 2 ∧ y ≠ 3)) with rfl | rfl | rfl | rfl | ⟨h0, h1, h2, h3⟩
  · constructor <;> decide
  · constructor <;> decide
  · constructor <;> decide
  · constructor <;> decide
  · have e : keyL y = [] := by simp [keyL, wh, miss, h0, h1, h2, h3]
    have e2 : isK y = 0 := by unfold isK; rw [if_neg (by omega)]
    rw [e, e2, dl_nil]; exact Sp.zero
theorem Sp.touch (y : Int) : Sp (dl (touchL y)) 0 0 1 := by
  rcases (by omega : y = 0 ∨ y = 1 ∨ y = 2 ∨ y = 3 ∨ (y ≠ 0 ∧ y ≠ 1 ∧ y ≠ 2 ∧ y ≠ 3)) with rfl | rfl | rfl | rfl | ⟨h0, h1, h2, h3⟩
  · constructor <;> decide
  · constructor <;> decide
  · constructor <;> decide
  · constructor <;> decide
  · have e : touchL y = [] := by simp [touchL, wh, miss, h0, h1, h2, h3]
    rw [e, dl_nil]; exact Sp.zero.more (by omega)
theorem Sp.keys : ∀ l : List Int, Sp (dl (keysL l)) (cnt l) 0 0
  | [] => by simp only [keysL, List.flatMap_nil, dl_nil, cnt]; exact Sp.zero
  | y :: l => by
    simp only [keysL, List.flatMap_cons, ← dl_app, cnt]
    exact (Sp.key y).add (Sp.keys l)
theorem Sp.touches : ∀ l : List Int, Sp (dl (touchesL l)) 0 0 l.length
  | [] => by simp only [touchesL, List.flatMap_nil, dl_nil, List.length_nil]; exact Sp.zero
  | y :: l => by
    simp only [touchesL, List.flatMap_cons, ← dl_app, List.length_cons, Nat.add_comm l.length]
    exact (Sp.touch y).add (Sp.touches l)
def kx (v : Int) (why : List Int) : Nat := if 1 ≤ v ∧ v ≤ 4 then cnt why else if v = 20 then isK (why.headD (-1)) else 0
def sx (v : Int) : Nat := if (5 ≤ v ∧ v ≤ 10) ∨ v = 21 then 1 else 0
theorem Sp.ans (v k : Int) (h1 : ¬ (1 ≤ v ∧ v ≤ 4)) (h2 : ¬ (20 ≤ v ∧ v ≤ 24)) : Sp (dl (ansL v k)) 0 (sx v) 1 := by
  rcases (by omega : v = 5 ∨ v = 6 ∨ v = 7 ∨ v = 8 ∨ v = 9 ∨ v = 10 ∨ v = 11 ∨ v = 12 ∨ v = 13 ∨ v = 14 ∨ v = 15 ∨ (v < 5 ∨ 15 < v)) with rfl | rfl | rfl | rfl | rfl | rfl | rfl | rfl | rfl | rfl | rfl | hv
  iterate 11
    · rcases (by omega : k = 1 ∨ k = 3 ∨ k = 4 ∨ k = 5 ∨ k = 6 ∨ k = 7 ∨ (k ≠ 1 ∧ k ≠ 3 ∧ k ≠ 4 ∧ k ≠ 5 ∧ k ≠ 6 ∧ k ≠ 7)) with rfl | rfl | rfl | rfl | rfl | rfl | ⟨h1, h3, h4, h5, h6, h7⟩
      · constructor <;> decide
      · constructor <;> decide
      · constructor <;> decide
      · constructor <;> decide
      · constructor <;> decide
      · constructor <;> decide
      · constructor <;> simp [dl, ansL, wh, sx, h1, h3, h4, h5, h6, h7]
  · have e : ansL v k = [] := by
      unfold ansL
      rw [if_neg (by omega), if_neg (by omega), if_neg (by omega), if_neg (by omega), if_neg (by omega), if_neg (by omega), if_neg (by omega)]
    have e2 : sx v = 0 := by unfold sx; rw [if_neg (by omega)]
    rw [e, e2, dl_nil]; exact Sp.zero.more (by omega)
theorem Sp.m21 (p q r c : Bool) (h1 : (p && q) = false) (h2 : (p && r) = false) (h3 : (q && r) = false) : Sp (dl ([2] ++ wh p [24] ++ wh c (wh p [16] ++ wh q [17] ++ wh r [18]))) 0 1 1 := by
  cases p <;> cases q <;> cases r <;> cases c <;> first | (exact absurd h1 (by decide)) | (exact absurd h2 (by decide)) | (exact absurd h3 (by decide)) | (constructor <;> decide)
theorem Sp.m22 (p q : Bool) : Sp (dl (wh p [10] ++ wh q [11])) 0 0 1 := by
  cases p <;> cases q <;> (constructor <;> decide)
theorem Sp.m23 (p q a : Bool) : Sp (dl (wh p [if a then 14 else 12] ++ wh q [if a then 15 else 13])) 0 0 1 := by
  cases p <;> cases q <;> cases a <;> (constructor <;> decide)
theorem bq_ne (cd a b : Bs) (h : a ≠ b) : (bq cd a && bq cd b) = false := by
  cases h1 : bq cd a <;> cases h2 : bq cd b <;> try rfl
  exact absurd ((eq_of_beq h1).symm.trans (eq_of_beq h2)) h
theorem Sp.meta (v y ak : Int) (cd : Bs) (fl : List Fl) (h : 20 ≤ v ∧ v ≤ 24) : Sp (dl (metaL v y ak cd fl)) (if v = 20 then isK y else 0) (sx v) 1 := by
  rcases (by omega : v = 20 ∨ v = 21 ∨ v = 22 ∨ v = 23 ∨ v = 24) with rfl | rfl | rfl | rfl | rfl
  · exact (Sp.key y).more (by omega)
  · exact Sp.m21 (bq cd [72, 68]) (bq cd [69, 88]) (bq cd [78, 70]) (fnd fl 67).isSome (bq_ne _ _ _ (by decide)) (bq_ne _ _ _ (by decide)) (bq_ne _ _ _ (by decide))
  · exact Sp.m22 _ _
  · exact Sp.m23 _ _ _
  · have e : metaL 24 y ak cd fl = [] := by simp [metaL]
    rw [e, dl_nil]; exact Sp.zero.more (by omega)
theorem Sp.cmd (v ak : Int) (cd : Bs) (fl : List Fl) (why : List Int) : Sp (dl (cmdL v ak cd fl why)) (kx v why) (sx v) (why.length + 1) := by
  unfold cmdL
  by_cases h1 : v = 1 ∨ v = 2
  · rw [if_pos h1]
    have e : kx v why = cnt why := by unfold kx; rw [if_pos (by omega)]
    have e2 : sx v = 0 := by unfold sx; rw [if_neg (by omega)]
    rw [e, e2]; exact (Sp.keys why).more (by omega)
  · rw [if_neg h1]
    by_cases h2 : v = 3 ∨ v = 4
    · rw [if_pos h2]
      have e : kx v why = cnt why := by unfold kx; rw [if_pos (by omega)]
      have e2 : sx v = 0 := by unfold sx; rw [if_neg (by omega)]
      rw [e, e2, ← dl_app]; exact ((Sp.keys why).add (Sp.touches why)).more (by omega)
    · rw [if_neg h2]
      have hk : ¬ (1 ≤ v ∧ v ≤ 4) := by omega
      by_cases h3 : 20 ≤ v ∧ v ≤ 24
      · rw [if_pos h3, ← dl_app]
        have e : kx v why = 0 + (if v = 20 then isK (why.headD (-1)) else 0) := by unfold kx; rw [if_neg hk]; omega
        have f : Sp (dl [5]) 0 0 0 := by constructor <;> decide
        have := f.add (Sp.meta v (why.headD (-1)) ak cd fl h3)
        rw [e, show sx v = 0 + sx v by omega]; exact this.more (by omega)
      · rw [if_neg h3]
        have e : kx v why = 0 := by unfold kx; rw [if_neg hk, if_neg (by omega)]
        rw [e]; exact (Sp.ans v ak hk h3).more (by omega)
theorem Sp.all (x : Oc) : Sp (dO x) (kx x.c.verb x.why) (sx x.c.verb) (x.why.length + 1) := by
  have f1 : Sp (workD x.m) 0 0 0 := by constructor <;> simp [workD, Cn.add, sgl]
  have f2 : Sp (dl (wh (x.a.kind == 11) [23])) 0 0 0 := by cases (x.a.kind == 11) <;> (constructor <;> decide)
  have := f1.add (f2.add (Sp.cmd x.c.verb x.a.kind (code x.a) x.fl x.why))
  rw [dl_app] at this
  have e : ∀ a : Nat, 0 + (0 + a) = a := fun a => by omega
  rw [e, e, e] at this
  exact this
theorem kx_le (v : Int) (why : List Int) : kx v why ≤ why.length + 1 := by
  have := cnt_le why
  unfold kx isK
  repeat' split
  all_goals omega
theorem sx_le (v : Int) : sx v ≤ 1 := by unfold sx; split <;> omega
end Go.Proofs.YtonbkpfnpnlkpaaDoor
