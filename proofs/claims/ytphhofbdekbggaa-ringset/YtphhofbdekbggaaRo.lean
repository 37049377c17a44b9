/-
  Servers by name.
-/
import Derived.Test.YtphhofbdekbggaaRn
namespace Go.Proofs.Ytphhofbdekbggaa
open Go.RowKit Go.Sort
set_option linter.unusedVariables false
set_option linter.unusedSimpArgs false

theorem sat_arr (d : Array Sv) (i : Nat) (hi : i < d.size) : d[i]! = sat d.toList i := by
  rw [getElem!_pos d i hi]
  simp [sat, hi]
theorem holdsS {w : World} {B g n c : Nat} {ps : List Sv} (h : w.ownsRow B 26 2 (.slice (some ⟨g, 0, none⟩) n c) n (flatS ps)) (hn : ps.length = n) : HoldsK encSv 2 w g 0 ps.toArray := by
  intro j hj
  have hj2 : j < n * 2 := by simpa [hn] using hj
  obtain ⟨cur, hcur⟩ := row_block h g rfl
  obtain ⟨e0, e1⟩ := serv_cell h hn (j / 2) (by omega)
  refine ⟨?_, by simp [World.frozen?, hcur]⟩
  rw [get_flatK encSv 2 ps.toArray j (by simpa using hj), sat_arr ps.toArray (j / 2) (by simp; omega), Nat.zero_add]
  rcases (show j % 2 = 0 ∨ j % 2 = 1 by omega) with e | e
  · rw [e, show w.cell? ⟨g, j, none⟩ = w.cell? ⟨g, j / 2 * 2, none⟩ by congr 2; omega, e0]
    rfl
  · rw [e, show w.cell? ⟨g, j, none⟩ = w.cell? ⟨g, j / 2 * 2 + 1, none⟩ by congr 2; omega, e1]
    rfl
/-- Servers from a place on. -/
def SvAt (w : World) (g : Nat) (ps : List Sv) : Prop := ∀ i, i < ps.length → w.cell? ⟨g, i * 2, none⟩ = some (.string (sat ps i).1) ∧ w.cell? ⟨g, i * 2 + 1, none⟩ = some (.int .i64 (sat ps i).2)
theorem SvAt.grown {w w' : World} {g : Nat} {ps : List Sv} (h : SvAt w g ps) (hf : w.grownBy w' none) : SvAt w' g ps :=
  fun i hi => ⟨gb_cellN hf (h i hi).1, gb_cellN hf (h i hi).2⟩
theorem SvAt.of_holds {w : World} {g : Nat} {d : Array Sv} (h : HoldsK encSv 2 w g 0 d) : SvAt w g d.toList := fun i hi => by
  have hi2 : i < d.size := by simpa using hi
  have hc := HoldsK.cells h (fun _ => rfl) hi2
  rw [sat_arr d i hi2] at hc
  have h0 := hc 0 _ rfl
  have h1 := hc 1 _ rfl
  rw [Addr.add_lit] at h0 h1
  simp only [Nat.zero_add, Nat.add_zero] at h0 h1
  exact ⟨h0, h1⟩
set_option maxRecDepth 100000 in
set_option maxHeartbeats 2000000 in
theorem byName_31 {w : World} {C g n c : Nat} {ps : List Sv} (h : w.ownsRow C 26 2 (.slice (some ⟨g, 0, none⟩) n c) n (flatS ps)) (hn : ps.length = n) (h0 : 0 < n) (hn2 : n ≤ 1000000) :
    Calls Try.prog 31 #[.slice (some ⟨g, 0, none⟩) n c] w fun e w' => (∃ g' c' qs, e = .returned (.slice (some ⟨g', 0, none⟩) n c') ∧ qs.Perm ps ∧ (∀ i j, i < j → j < n → ¬ (sat qs j).1.toList < (sat qs i).1.toList) ∧ SvAt w' g' qs) ∧ w.grownBy w' none := by
  have h32 := clone_32 (c := c) h hn h0 hn2
  clear h
  have h45 : ∀ (W : World) (g2 c2 : Nat), w.heap.size ≤ g2 → g2 < W.heap.size → w.grownBy W none → W.ownsRow w.heap.size 26 2 (.slice (some ⟨g2, 0, none⟩) n c2) n (flatS ps) →
      Calls Try.prog 45 #[.slice (some ⟨g2, 0, none⟩) n c2, .func (.func 46) #[] #[]] W fun e w' => e = .returned (.tuple #[]) ∧ (∃ qs, qs.Perm ps ∧ (∀ i j, i < j → j < n → ¬ (sat qs j).1.toList < (sat qs i).1.toList) ∧ SvAt w' g2 qs) ∧ w.grownBy w' none := by
    intro W g2 c2 hg hlt hf hr
    have hc := sort_45 g2 0 c2 ps.toArray W (holdsS hr hn) hlt (by simp; omega)
    rw [show ps.toArray.size = n by simpa using hn] at hc
    refine hc.mono ?_
    rintro e w' ⟨rfl, d', q, os, hp, hs, rfl⟩
    obtain ⟨hp1, hp2, hp3⟩ := hp
    have hsz : d'.size = n := by rw [hp1]; simpa using hn
    have hperm : d'.toList.Perm ps := by
      have e1 : d'.extract 0 n = d' := by rw [← hsz]; simp
      have e2 : ps.toArray.extract 0 n = ps.toArray := by rw [← hn]; simp
      rw [e1, e2] at hp3
      simpa using hp3
    refine ⟨rfl, ⟨d'.toList, hperm, fun i j hij hj => ?_, SvAt.of_holds (holdsK_sortWorldK_c encSv 2 W g2 0 ps.toArray d' q os (holdsS hr hn) hlt (by simp [hsz, hn]))⟩, gb_far hf (gb_sort encSv 2 W g2 0 q d' os hlt) (B := w.heap.size) (fun i e => by cases e; exact hg) (Nat.le_refl _)⟩
    have := hs i j (Nat.zero_le _) hij hj
    rw [ltS, sat_arr d' j (by omega), sat_arr d' i (by omega)] at this
    simpa using this
  go_enter Try.func31, Try.ntmps31
  go_wp2_with (first
    | (go_at_call 32; go_must (refine h32.mono ?_); rintro y w2 ⟨⟨g2, c2, rfl, hr⟩, hg2⟩; (have hlt2 := World.ownsRow.lt hr g2 rfl))
    | (go_at_call 45; go_must (refine (h45 _ g2 c2 hlt2.1 hlt2.2 hg2 hr).mono ?_); rintro y w3 ⟨rfl, ⟨qs, p1, p2, p3⟩, hg3⟩) | fail)
  go_ret
  exact ⟨⟨_, _, qs, rfl, p1, p2, p3⟩, hg3⟩
end Go.Proofs.Ytphhofbdekbggaa
