import Derived.Test.YtndjimdegkdljaaZe
import Derived.Test.YtndjimdegkdljaaZj
import Derived.Test.YtndjimdegkdljaaZl
import Derived.Test.YtndjimdegkdljaaV
import Derived.Test.YtndjimdegkdljaaW
import Derived.Lib.SlBytesRow
import Derived.Lib.BufferRead
/-
  A disk does something: the law's two runs, the states and the calls.
-/
namespace Go.Proofs.Ytndjimdegkdljaa
open Go.RowKit Go.MapKept
set_option linter.unusedVariables false
set_option linter.unusedSimpArgs false
attribute [local go_sem] Oper.semAt_some

/-! ### Bytes to a string -/
theorem row_str {w : World} {B : Nat} {v : Value} {l : Bs} (h : w.ownsRow B 5 1 v l.length (l.map b8)) : (convert 38 9 v).run Try.prog w = .ok (sv l) w := by
  rcases h.2 with ⟨rfl, h2⟩ | ⟨g, c, cur, rfl, h2, h3, h4, h5, h6, h7⟩
  · have hl : l = [] := List.length_eq_zero_iff.1 h2
    subst hl
    exact Lib.run_convert_nil_bytes w 38 9 5 0 Try.underlying38 Try.underlying5 Try.underlying9
  · have hB : Lib.Bytes w g 0 ⟨l.toArray⟩ := fun i hi => by
      have hi' : i < l.length := by simpa [ByteArray.size] using hi
      have := row_cell h i (b8 l[i]) (by simp [hi'])
      rw [Nat.zero_add]
      exact this
    have := Lib.run_convert_whole (P := Try.prog) w 38 5 9 Try.underlying38 Try.underlying5 Try.underlying9 g 0 ⟨l.toArray⟩ hB c
    have e : (ByteArray.mk l.toArray).size = l.length := by simp [ByteArray.size]
    rw [e] at this
    exact this

/-! ### A disk that a law has made -/
structure At (w0 w : World) (p : Pl) (M : Md) : Prop where
  rp : RP w p M
  gb : w0.grownBy w none
  col : ∀ b, b < w0.heap.size → p.col b = 0
theorem At.go {w0 w w' : World} {p p' : Pl} {M M' : Md} (h : At w0 w p M) (r : RP w' p' M') (a : Aft w w' p p') : At w0 w' p' M' :=
  ⟨r, gb_of_kp h.gb a.kp (fun j hj => by
    rcases Nat.lt_or_ge j w0.heap.size with hl | hl
    · exact absurd (h.col j hl) hj
    · exact hl), fun b hb => by
    by_cases hc : p'.col b = 0
    · exact hc
    · exact absurd (h.col b hb) (a.col b (Nat.lt_of_lt_of_le hb h.gb.size) hc)⟩
theorem At.more {w0 w w' : World} {p : Pl} {M : Md} (h : At w0 w p M) (g : w.grownBy w' none) : At w0 w' p M := ⟨h.rp.gb g, gb_trans h.gb g, h.col⟩
def Dk (w0 w : World) (d : Nat) (M : Md) : Prop := ∃ p, p.d = d ∧ At w0 w p M
theorem Dk.more {w0 w w' : World} {d : Nat} {M : Md} (h : Dk w0 w d M) (g : w.grownBy w' none) : Dk w0 w' d M := by
  obtain ⟨p, h1, h2⟩ := h; exact ⟨p, h1, h2.more g⟩
theorem Dk.lt {w0 w : World} {d : Nat} {M : Md} (h : Dk w0 w d M) : d < w.heap.size := by
  obtain ⟨p, rfl, h2⟩ := h; exact h2.rp.lt _ (by rw [h2.rp.cd]; decide)
theorem ErrV.zero {w : World} {v : Value} {a b : Bs} (h : ErrV w v a b 0) : v = .nilIface := by
  rcases h with ⟨_, h⟩ | ⟨h, _⟩
  · exact h
  · exact absurd rfl h

def n0 : NS := fun _ => none
def sA : NS := after n0 [⟨[], [97], 0⟩]
def t1 : Md := ⟨3, 1, [([], 0)], n0, [⟨[], [97], 0⟩], fun _ => none, false⟩
def t2 : Md := ⟨3, 2, [([], 0)], sA, [], fun _ => none, false⟩
def t3 : Md := ⟨3, 3, [([97, 98, 99], 0)], sA, [], fun _ => none, false⟩
def t4 : Md := ⟨3, 3, [([97], 1)], sA, [], fun _ => none, false⟩
theorem e1 : actR (md0 3) (doC (md0 3).act1 [97]) = (0, t1) := rfl
theorem e2 : actR t1 (0, t1.act1.settle t1.ch.length) = (0, t2) := rfl
theorem e3 : actR t2 (doAp t2.act1 3 [97] [97, 98, 99, 100]) = (181, t3) := rfl
theorem repA : Rep [([97], 0)] sA := by
  refine ⟨by simp, fun s => ?_⟩
  show _ = Ch.app ⟨[], [97], 0⟩ n0 s
  unfold Ch.app n0
  by_cases h : s = [97]
  · subst h; rfl
  · have : (s == [97]) = false := by simpa using h
    simp [List.lookup, this, h]
theorem sA_one {s : Bs} {k : Nat} (h : sA s = some k) : k = 0 := by
  have := repA.mem.2 h
  simp at this
  exact this.2

theorem st_6 (w : World) : Calls Try.prog 6 #[.int .i64 3] w fun e w' => ∃ d, e = .returned (.tuple #[pv d, .nilIface]) ∧ Dk w w' d (md0 3) := by
  refine (new_6 3 (by decide) (by decide) w).mono ?_
  rintro e w' ⟨p, rfl, h1, h2, h3⟩
  exact ⟨p.d, rfl, p, rfl, h1, h2, h3⟩
theorem st_22 {w0 w : World} {d : Nat} {M : Md} (h : Dk w0 w d M) (hd : M.dark = false) : Calls Try.prog 22 #[pv d] w fun e w' => e = .returned (.bool true) ∧ w' = w := by
  obtain ⟨p, rfl, h2⟩ := h
  have := power_22 h2.rp
  rw [hd] at this
  exact this
theorem st_13 {w0 w : World} {d : Nat} (h : Dk w0 w d (md0 3)) : Calls Try.prog 13 #[pv d, sv [97]] w fun e w' => e = .returned .nilIface ∧ Dk w0 w' d t1 := by
  obtain ⟨p, rfl, h2⟩ := h
  refine (create_13 h2.rp (by decide) [97] (by decide)).mono ?_
  rw [e1]
  rintro e w' ⟨v, rfl, hv, p', hp, ha⟩
  rw [hv.zero]
  exact ⟨rfl, p', ha.d, h2.go hp ha⟩
theorem st_23 {w0 w : World} {d : Nat} (h : Dk w0 w d t1) : Calls Try.prog 23 #[pv d] w fun e w' => e = .returned (.bool true) ∧ Dk w0 w' d t1 := by
  obtain ⟨p, rfl, h2⟩ := h
  refine (loose_23 h2.rp (L := [([97], 0)]) repA).mono ?_
  rintro e w' ⟨rfl, hg⟩
  exact ⟨rfl, p, rfl, h2.more hg⟩
theorem st_24 {w0 w : World} {d : Nat} (h : Dk w0 w d t1) : Calls Try.prog 24 #[pv d] w fun e w' => e = .returned .nilIface ∧ Dk w0 w' d t2 := by
  obtain ⟨p, rfl, h2⟩ := h
  refine (syncn_24 h2.rp (by decide)).mono ?_
  rw [e2]
  rintro e w' ⟨v, rfl, hv, p', hp, ha⟩
  rw [hv.zero]
  exact ⟨rfl, p', ha.d, h2.go hp ha⟩
theorem st_26 {w0 w : World} {d g cp : Nat} (h : Dk w0 w d t2) (hg : d ≠ g) (hb : Rdr w 5 1 g 4 cp (([97, 98, 99, 100] : Bs).map b8)) :
    Calls Try.prog 26 #[pv d, sv [97], .slice (some ⟨g, 0, none⟩) 4 cp] w fun e w' => ∃ v, e = .returned v ∧ ErrV w' v [97, 112, 112, 101, 110, 100] [97] 181 ∧ Dk w0 w' d t3 := by
  obtain ⟨p, rfl, h2⟩ := h
  refine (append_26 h2.rp (by decide) [97] (by decide) (L := [([97], 0)]) repA (by decide) (b := [97, 98, 99, 100]) hb hg 3 (by decide) (by decide) (fun k => ?_) (by decide)).mono ?_
  · have : (t2.file k).1 = [] := by
      unfold Md.file t2
      cases k <;> simp
    rw [this]
    decide
  · rw [e3]
    rintro e w' ⟨v, rfl, hv, p', hp, ha⟩
    exact ⟨v, rfl, hv, p', ha.d, h2.go hp ha⟩
theorem st_27 {w0 w : World} {d : Nat} {M : Md} {l : Bs} (h : Dk w0 w d M) (hr : rdR M [97] = (0, l)) (hs : ∀ f ∈ M.files, f.1.length ≤ 1000000000) :
    Calls Try.prog 27 #[pv d, sv [97]] w fun e w' => ∃ b, e = .returned (.tuple #[b, .nilIface]) ∧ (∀ W, w'.grownBy W none → (convert 38 9 b).run Try.prog W = .ok (sv l) W) ∧ w.grownBy w' none := by
  obtain ⟨p, rfl, h2⟩ := h
  refine (read_27 h2.rp [97] (by decide) hs).mono ?_
  rw [hr]
  rintro e w' ⟨b, v, rfl, hv, ho, hg⟩
  rw [hv.zero]
  exact ⟨b, rfl, fun W gW => row_str (B := 0) (row_kept ho gW (by simp)), hg⟩
theorem st_28 {w0 w : World} {d : Nat} (h : Dk w0 w d t3) : Calls Try.prog 28 #[pv d] w fun e w' => e = .returned (.int .i64 3) ∧ w' = w := by
  obtain ⟨p, rfl, h2⟩ := h
  exact acts_28 h2.rp
theorem st_11 {w0 w : World} {d g c : Nat} (p : Pl) (hpd : p.d = d) (h2 : At w0 w p t3) (hg : w.ownsRow w0.heap.size 3 1 (.slice (some ⟨g, 0, none⟩) 1 c) 1 [.int .i64 1]) (hcol : p.col g = 0) :
    Calls Try.prog 11 #[pv d, .agg #[.slice (some ⟨g, 0, none⟩) 1 c, .int .i64 0]] w fun e w' => e = .returned (.tuple #[]) ∧ Dk w0 w' d t4 := by
  subst hpd
  refine (restart_11 h2.rp (ls := [1]) (row_base hg (Nat.zero_le _)) (fun b hb => by
    simp only [Value.ownBlock, Option.some.injEq] at hb
    rw [← hb]; exact hcol) 0 (fun k => ?_)).mono ?_
  · unfold Md.file t3
    cases k <;> simp
  · rintro e w' ⟨rfl, p', S, hp, ha, hS⟩
    have h0 : (0 : Nat) ∈ S := (hS 0).2 ⟨[97], rfl⟩
    have e4 : ((t3.settle (btw 0 t3.ch.length).toNat).cutBy S [1]).wake = t4 := by
      unfold Md.cutBy Md.settle Md.wake t3 t4 btw
      simp [List.mapIdx, List.mapIdx.go, h0, after]
      rfl
    rw [e4] at hp
    exact ⟨rfl, p', ha.d, h2.go hp ha⟩
theorem st_29 {w0 w : World} {d : Nat} (h : Dk w0 w d t4) : Calls Try.prog 29 #[pv d] w fun e w' => ∃ g c, e = .returned (.slice (some ⟨g, 0, none⟩) 1 c) ∧ w'.cell? ⟨g, 0, none⟩ = some (sv [97]) ∧ g < w'.heap.size ∧ w.grownBy w' none := by
  obtain ⟨p, rfl, h2⟩ := h
  refine (names_29 h2.rp rfl (L := [([97], 0)]) repA (by decide)).mono ?_
  rintro e w' ⟨v, rfl, ho, hg⟩
  obtain ⟨ao, c, rfl, _, _, _, h5⟩ := row_shape ho
  obtain ⟨g, rfl⟩ := h5 (by decide)
  have hs : srt [([97], 0)] = [[97]] := by unfold srt; simp
  rw [hs] at ho
  exact ⟨g, c, rfl, row_cell ho 0 _ rfl, (row_ge ho rfl).2, hg⟩
theorem st_23' {w0 w : World} {d : Nat} (h : Dk w0 w d t4) : Calls Try.prog 23 #[pv d] w fun e w' => e = .returned (.bool false) ∧ w.grownBy w' none := by
  obtain ⟨p, rfl, h2⟩ := h
  exact loose_23 h2.rp (L := [([97], 0)]) repA
end Go.Proofs.Ytndjimdegkdljaa
