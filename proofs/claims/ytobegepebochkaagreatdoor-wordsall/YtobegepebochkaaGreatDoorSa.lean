import Derived.Test.YtobegepebochkaaGreatDoorPbq
import Derived.Test.YtobegepebochkaaGreatDoorPau
set_option linter.unusedVariables false
set_option linter.unusedSimpArgs false
namespace Go.Proofs.YtobegepebochkaaGreatDoor
open Go.RowKit Go.Shelf
set_option maxRecDepth 100000 in
set_option maxHeartbeats 4000000 in
theorem must_K (c : Cmd) (kv dv mv : Value) (lg : Bool) (w : World) (h1 : ∃ a n c', kv = .slice a n c') (h2 : ∃ a n c', dv = .slice a n c') (h3 : ∃ a n c', mv = .slice a n c') :
    Calls Tryz.prog 125 #[.agg (cmB c kv dv mv lg), .int .u8 75] w fun e w' => e = .returned kv ∧ w.grownBy w' none := by
  obtain ⟨a1, n1, c1, rfl⟩ := h1
  obtain ⟨a2, n2, c2, rfl⟩ := h2
  obtain ⟨a3, n3, c3, rfl⟩ := h3
  go_enter Tryz.func125, Tryz.ntmps125
  go_wp2
  go_ret
  exact ⟨rfl, gb_alloc (gb_refl _ _) _⟩
set_option maxRecDepth 100000 in
set_option maxHeartbeats 4000000 in
theorem might_K (c : Cmd) (kv dv mv : Value) (lg : Bool) (w : World) (h1 : ∃ a n c', kv = .slice a n c') (h2 : ∃ a n c', dv = .slice a n c') (h3 : ∃ a n c', mv = .slice a n c') :
    Calls Tryz.prog 126 #[.agg (cmB c kv dv mv lg), .int .u8 75] w fun e w' => e = .returned (.slice none 0 0) ∧ w.grownBy w' none := by
  obtain ⟨a1, n1, c1, rfl⟩ := h1
  obtain ⟨a2, n2, c2, rfl⟩ := h2
  obtain ⟨a3, n3, c3, rfl⟩ := h3
  go_enter Tryz.func126, Tryz.ntmps126
  go_wp2
  go_ret
  exact ⟨rfl, gb_alloc (gb_refl _ _) _⟩
theorem join_24 (g o c : Nat) (ws : List Bs) (w : World) (hg : g < w.heap.size) (hn : ws.length ≤ 1000000000) (hc : ws.length ≤ c) (hcell : ∀ i x, ws[i]? = some x → w.cell? ⟨g, o + i, none⟩ = some (sv x)) (hl : (Lib.join ws [32]).length ≤ 140737488355328) :
    Calls Tryz.prog 127 #[.slice (some ⟨g, o, none⟩) ws.length c, .string ⟨#[32]⟩] w fun e w' => e = .returned (sv (Lib.join ws [32])) ∧ w.grownBy w' none := by
  have hm : (ws.map (fun x => (ByteArray.mk x.toArray))).map (·.data.toList) = ws := by simp [Function.comp_def]
  have := Any.strings_Join layJ layJX g o c (ws.map fun x => ByteArray.mk x.toArray) ⟨#[32]⟩ w (fun j x hx => by
    rw [List.getElem?_map] at hx
    cases hw : ws[j]? with
    | none => simp [hw] at hx
    | some y => simp [hw] at hx; subst hx; exact hcell j y hw) hg (by simp; omega) (by simpa using hc) (by rw [hm]; exact hl)
  rw [hm, List.length_map] at this
  exact this.mono fun e w' ⟨h1, h2⟩ => ⟨h1, gb_below h2⟩
end Go.Proofs.YtobegepebochkaaGreatDoor
