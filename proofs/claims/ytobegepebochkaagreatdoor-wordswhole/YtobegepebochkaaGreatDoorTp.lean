import Derived.Test.YtobegepebochkaaGreatDoorTj
import Derived.Test.YtobegepebochkaaGreatDoorZe
/-
  Whatever the state is.
-/
namespace Go.Proofs.YtobegepebochkaaGreatDoor
open Go.RowKit Go.Maps
set_option linter.unusedVariables false
set_option linter.unusedSimpArgs false

/-- What read promises, wherever a Feeder stands. -/
def Rd136 (fb : Nat) : Prop := ∀ (G : Fd) (w4 : World) (kv4 : Value), IsF w4 fb G kv4 → G.st = 0 → Er w4 → G.kept.length ≤ 2050 → (∃ q, G.kept = q ++ [10]) → (∃ g n c, kv4 = .slice (some ⟨g, 0, none⟩) n c) → Calls Tryz.prog 136 #[.pointer (some ⟨fb, 0, none⟩)] w4 fun e w' => RdF G w4 fb kv4 e w'
/-- Whatever the state is, its function does what the bytes say. -/
theorem state_any {w : World} {fb : Nat} {F : Fd} {kv : Value} (h : IsF w fb F kv) (hok : F.Ok) {v : Value} {l : Bs} (hv : Ck w (XF fb kv) v l) (hl : 0 < l.length) (hl2 : l.length ≤ 1099511627776) (ht : F.taken ≤ 2199023255552) (hE : Er w) (hX : ¬ XF fb kv 2 ∧ ¬ XF fb kv 3) (h136 : Rd136 fb) :
    Calls Tryz.prog (stF F.st) #[.pointer (some ⟨fb, 0, none⟩), v] w fun e w' => StP F l w fb kv e w' := by
  obtain ⟨b, t, hbt⟩ : ∃ b t, l = b :: t := by
    cases l with
    | nil => simp at hl
    | cons b t => exact ⟨b, t, rfl⟩
  have h5 := hok.st
  have hc : F.st = 0 ∨ F.st = 1 ∨ F.st = 2 ∨ F.st = 3 ∨ F.st = 4 ∨ F.st = 5 := by omega
  rcases hc with e | e | e | e | e | e
  · have e' : stF F.st = 89 := by rw [e]; rfl
    rw [e']
    obtain ⟨ql, -⟩ := hok.line e
    rcases indexByte_spec 10 (l.take (2050 - F.kept.length)) with ⟨-, h4⟩ | ⟨p, t', h3, h4, -⟩
    · by_cases hs : 2048 < (trim (F.kept ++ l.take (2050 - F.kept.length))).length
      · exact line_long h hok hv hl hl2 ht e _ rfl h4 hE hX hs
      · exact line_short h hok hv hl hl2 ht e _ rfl h4 hs
    · refine line_end h hok hv hl hl2 ht e hE hX p t' h3 h4 (fun w4 kv4 hi hE4 hs4 => h136 _ _ _ hi e hE4 ?_ ⟨F.kept ++ p, by simp [Fd.put]⟩ hs4)
      have h6 : (p ++ 10 :: t').length ≤ 2050 - F.kept.length := by rw [← h3, List.length_take]; omega
      show (F.kept ++ (p ++ [10])).length ≤ 2050
      simp at h6 ⊢
      omega
  · have e' : stF F.st = 171 := by rw [e]; rfl
    rw [e']
    exact block_st h hok hv hl hl2 ht e
  · have e' : stF F.st = 172 := by rw [e]; rfl
    rw [e']
    by_cases hb : b = 13
    · subst hb; exact behind_yes h hok hv hl hl2 ht e t hbt
    · exact behind_no h hok hv hl hl2 ht e b t hbt hb
  · have e' : stF F.st = 188 := by rw [e]; rfl
    rw [e']
    by_cases hb : b = 10
    · subst hb; exact last_yes h hok hv hl hl2 ht e t hbt
    · exact last_no h hok hv hl hl2 ht e b t hbt hb
  · have e' : stF F.st = 158 := by rw [e]; rfl
    rw [e']
    rcases Nat.eq_zero_or_pos F.left with h0 | h0
    · exact skip_end h hok hv hl hl2 ht e h0
    · exact skip_left h hok hv hl hl2 ht e h0
  · have e' : stF F.st = 140 := by rw [e]; rfl
    rw [e']
    exact over_st h hok hv hl hl2 ht e
end Go.Proofs.YtobegepebochkaaGreatDoor
