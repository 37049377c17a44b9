import Derived.Test.YtobegepebochkaaGreatDoorYm
/-
  The document's Line, whole: it tells what the program's tells.
-/
namespace Go.Proofs.YtobegepebochkaaGreatDoor
open Go.RowKit Go.Maps
set_option linter.unusedVariables false
set_option linter.unusedSimpArgs false

theorem rline_13 {w : World} (v : Value) (l : Bs) (hB : By w v l) : Calls Tryz.prog 13 #[v] w fun e w' => LnP l w e w' := by
  have h : Calls Tryz.prog 13 #[v] w fun e w' => DLn l w e w' := by
    by_cases hl : 2048 < l.length
    · exact rline_long v l hB hl
    · cases hs : spl [] l with
      | nil => exact rline_none v l hB hl (.inl hs)
      | cons x ws =>
        by_cases hv : vbS x = 0
        · exact rline_none v l hB hl (.inr ⟨x, ws, hs, hv⟩)
        · cases hr : rowS x with
          | none => exact absurd (by simp [vbS, hr]) hv
          | some r =>
            obtain ⟨i, hi, hx, _⟩ := row_of hr
            exact rline_read v l hB hl x ws hs i hi (by rw [← hx]; exact vbS_yes hi)
  refine h.mono fun e w' he => ?_
  obtain ⟨h1, h2⟩ := he
  rw [dline_eq] at h1
  refine ⟨?_, h2⟩
  rcases h1 with ⟨c, n, kv, mv, ha, hb, hk⟩ | ⟨k, t, p, ha, hb⟩
  · exact .inl ⟨c, n, kv, mv, ha, hb, hk.k, hk.m⟩
  · exact .inr ⟨k, t, p, ha, hb⟩
end Go.Proofs.YtobegepebochkaaGreatDoor
