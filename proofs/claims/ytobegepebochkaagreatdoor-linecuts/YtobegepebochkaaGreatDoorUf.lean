/-
  Data of steps; a row that is filled.
-/
import Derived.Test.YtobegepebochkaaGreatDoorUe
namespace Go.Proofs.YtobegepebochkaaGreatDoor
open Go.RowKit Go.Maps
set_option linter.unusedVariables false
set_option linter.unusedSimpArgs false

/-- No data lies in a step that is not whole yet. -/
def Fd.Dn (F : Fd) : Prop := F.s.data = []
theorem dn_rd (F : Fd) : F.rd.1.Dn := by
  unfold Fd.rd
  cases lineS (trim F.kept.dropLast) with
  | inl x =>
    obtain ⟨c, n⟩ := x
    dsimp only
    split
    · rfl
    · split <;> rfl
  | inr x =>
    obtain ⟨k, t, p⟩ := x
    dsimp only
    split <;> rfl
theorem dn_tell (F : Fd) (n : Nat) (h : F.s.data.length ≤ n) : F.tell.1.Dn ∧ ∀ s ∈ F.tell.2, s.data.length ≤ n := by
  refine ⟨rfl, fun s hs => ?_⟩
  simp [Fd.tell] at hs
  subst hs
  exact h
theorem dn_skip (F : Fd) (n : Nat) (b : UInt8) (h : F.Dn) : (F.skip b).1.Dn ∧ ∀ s ∈ (F.skip b).2, s.data.length ≤ n := by
  unfold Fd.skip
  split
  · exact ⟨h, fun s hs => by simp at hs⟩
  · split
    · exact dn_tell F n (by rw [h]; simp)
    · exact ⟨h, fun s hs => by simp at hs⟩
theorem dn_fb {F : Fd} (hok : F.Ok) (h : F.Dn) (b : UInt8) : (F.fb b).1.Dn ∧ ∀ s ∈ (F.fb b).2, s.data.length ≤ F.taken := by
  have hk := (held_le hok).2
  unfold Fd.fb
  split
  · split
    · unfold Fd.end1
      split
      · exact dn_tell _ _ (by rw [dn_rd]; simp)
      · exact ⟨dn_rd _, fun s hs => by simp at hs⟩
    · split
      · exact ⟨rfl, fun s hs => by simp at hs⟩
      · exact ⟨h, fun s hs => by simp at hs⟩
  · split
    · exact ⟨h, fun s hs => by simp at hs⟩
    · split
      · split
        · exact ⟨h, fun s hs => by simp at hs⟩
        · exact dn_skip _ _ _ rfl
      · split
        · split
          · refine dn_tell _ _ ?_
            show ((F.kept.drop F.head).dropLast).length ≤ F.taken
            rw [List.length_dropLast, List.length_drop]
            omega
          · exact dn_skip _ _ _ rfl
        · split
          · exact dn_skip _ _ _ h
          · exact ⟨h, fun s hs => by simp at hs⟩
theorem dn_run : ∀ (l : Bs) {F : Fd}, F.Ok → F.Dn → ∀ s ∈ (F.run l).2, s.data.length ≤ F.taken + l.length
  | [], F, _, _ => by simp [Fd.run]
  | b :: t, F, hok, h => by
    intro s hs
    simp only [Fd.run] at hs
    obtain ⟨h1, h2⟩ := dn_fb hok h b
    rcases List.mem_append.1 hs with hs | hs
    · have := h2 s hs
      simp; omega
    · have := dn_run t (ok_fb hok b) h1 s hs
      rw [(fb_facts F b).1] at this
      simp; omega
/-- A row that is filled with -1 up to k. -/
def fil (n k : Nat) : List Int := List.replicate k (-1) ++ List.replicate (n - k) 0
theorem fil_len (n k : Nat) (h : k ≤ n) : (fil n k).length = n := by simp [fil]; omega
theorem fil_set (n k : Nat) (h : k < n) : (fil n k).set k (-1) = fil n (k + 1) := by
  unfold fil
  obtain ⟨m, hm⟩ : ∃ m, n - k = m + 1 := ⟨n - k - 1, by omega⟩
  have hm2 : n - (k + 1) = m := by omega
  rw [hm, hm2, List.replicate_succ (n := m), List.set_append, if_neg (by simp), List.replicate_succ' (n := k)]
  simp
theorem fil_zero (n : Nat) : fil n 0 = List.replicate n 0 := by simp [fil]
theorem fil_all (n : Nat) : fil n n = List.replicate n (-1) := by simp [fil]
theorem made_ints (N : Nat) : madeCells (Value.int .i64 0).cells N = ((fil N 0).map (Value.int .i64)).toArray := by
  apply Array.ext'
  apply List.ext_getElem?
  intro i
  by_cases h : i < N <;> simp [madeCells, Value.cells, fil, h, Nat.mod_one]
theorem Tryz.info3b : (Tryz.prog.info? 3).map (fun i => (i.zero, i.size, i.bytes)) = some (some (.int .i64 0), 1, 8) := by kernel_rfl
theorem run_make_ints (N : Nat) (h : N ≤ 1000000) (w : World) : (Instr.makeSlice 82 (.int .i64 (N : Int)) (.int .i64 (N : Int))).run Tryz.prog w = .ok (.slice (some ⟨w.heap.size, 0, none⟩) N N) (w.alloc (.cells ((fil N 0).map (Value.int .i64)).toArray 3)) := by
  obtain ⟨i0, hi, hz0, hz1, hz2⟩ := info_parts Tryz.info3b
  have := run_make (P := Tryz.prog) w 82 3 i0 (.int .i64 0) Tryz.underlying82 hi hz0 .i64 .i64 N N (by omega) (by omega) (by rw [hz2]; omega) (by omega)
  rw [this, hz1]
  simp [made_ints]
end Go.Proofs.YtobegepebochkaaGreatDoor
