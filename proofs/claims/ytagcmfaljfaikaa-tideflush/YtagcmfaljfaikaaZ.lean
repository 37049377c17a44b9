/-
  TideFlush: a day (the others).
-/
import Derived.Test.YtagcmfaljfaikaaY
namespace Go.Proofs.Ytagcmfaljfaikaa
open Go.RowKit
set_option linter.unusedVariables false

section
variable {w wr w' : World} {wb cb : Nat} {tv : Value} {m d : Nat} {now comes : Int}
theorem day_post_of {t : Int} (h : ∃ d' comes', FSt w w' wb cb tv m d' (now + t) comes') (ht : t ≤ 1000000) : DayPost w wb cb m now w' := by
  obtain ⟨d', comes', hf⟩ := h
  exact ⟨tv, m, d', now + t, comes', by omega, by omega, hf⟩
set_option maxRecDepth 100000 in
set_option maxHeartbeats 8000000 in
theorem day_move_false (h : FSt w wr wb cb tv m d now comes) (hm : m < 900000) (hn : now ≤ 900000000) (x1 : Int) (hx : isI x1) :
    Calls Try.prog 26 #[.pointer (some ⟨wb, 0, none⟩), dayV 2 x1 false] wr fun y w' => y = .returned (.bool true) ∧ DayPost w wb cb m now w' := by
  have hal := World.grownBy_alloc wr (.cells (dayA 2 x1 false) 79) none
  have hD : Box (wr.alloc (.cells (dayA 2 x1 false) 79)) 79 wr.heap.size (dayA 2 x1 false) := Box.new _ _ _
  have h1 := h.kept0 hal
  unfold dayA at hal hD h1
  unfold dayV
  obtain ⟨e0, e1, e2, e3, e4⟩ := h1.cells
  have y0 : World.cell? _ ⟨wr.heap.size, 0, none⟩ = some (.int .i64 2) := hD.cell 0
  have y1 : World.cell? _ ⟨wr.heap.size, 1, none⟩ = some (.int .i64 x1) := hD.cell 1
  have y2 : World.cell? _ ⟨wr.heap.size, 2, none⟩ = some (.bool false) := hD.cell 2
  have hw1 := fun W => within_29 x1 1 3 hx (by omega) (by omega) (by omega) (by omega) W
  have hb := wth_in (n := x1) (show (1 : Int) ≤ 3 by omega)
  have hcm := comesTo_56 h1 (by omega) (wth x1 1 3) (by omega) (by omega) hn
  generalize wth x1 1 3 = t at *
  clear h h1 hal hD
  generalize hV : wr.alloc (.cells #[.int .i64 2, .int .i64 x1, .bool false] 79) = V at *
  go_enter Try.func26, Try.ntmps26
  rw [← hV] at *
  go_wp2_with (first | (go_at_call 29; go_must (with_reducible refine (hw1 _).mono ?_); rintro y w' ⟨rfl, rfl⟩) | fail)
  refine hcm.mono ?_
  rintro y w3 ⟨rfl, hp3⟩
  have hpost := day_post_of hp3 (by omega)
  clear hp3 hcm e0 e1 e2 e3 e4 y0 y1 y2
  go_wp2
  go_ret
  exact ⟨rfl, hpost⟩
set_option maxRecDepth 100000 in
set_option maxHeartbeats 8000000 in
theorem day_move_true (h : FSt w wr wb cb tv m d now comes) (hm : m < 900000) (hn : now ≤ 900000000) (x1 : Int) (hx : isI x1) :
    Calls Try.prog 26 #[.pointer (some ⟨wb, 0, none⟩), dayV 2 x1 true] wr fun y w' => y = .returned (.bool true) ∧ DayPost w wb cb m now w' := by
  have hal := World.grownBy_alloc wr (.cells (dayA 2 x1 true) 79) none
  have hD : Box (wr.alloc (.cells (dayA 2 x1 true) 79)) 79 wr.heap.size (dayA 2 x1 true) := Box.new _ _ _
  have h1 := h.kept0 hal
  unfold dayA at hal hD h1
  unfold dayV
  obtain ⟨e0, e1, e2, e3, e4⟩ := h1.cells
  have y0 : World.cell? _ ⟨wr.heap.size, 0, none⟩ = some (.int .i64 2) := hD.cell 0
  have y1 : World.cell? _ ⟨wr.heap.size, 1, none⟩ = some (.int .i64 x1) := hD.cell 1
  have y2 : World.cell? _ ⟨wr.heap.size, 2, none⟩ = some (.bool true) := hD.cell 2
  have hw1 := fun W => within_29 x1 1 3 hx (by omega) (by omega) (by omega) (by omega) W
  have hw2 := fun W => within_29 x1 1 1000000 hx (by omega) (by omega) (by omega) (by omega) W
  have hb := wth_in (n := x1) (show (1 : Int) ≤ 1000000 by omega)
  have hcm := comesTo_56 h1 (by omega) (wth x1 1 1000000) (by omega) (by omega) hn
  generalize wth x1 1 1000000 = t at *
  generalize wth x1 1 3 = t3 at *
  clear h h1 hal hD
  generalize hV : wr.alloc (.cells #[.int .i64 2, .int .i64 x1, .bool true] 79) = V at *
  go_enter Try.func26, Try.ntmps26
  rw [← hV] at *
  go_wp2_with (first | (go_at_call 29; go_must (with_reducible first | refine (hw1 _).mono ?_ | refine (hw2 _).mono ?_); rintro y w' ⟨rfl, rfl⟩) | fail)
  refine hcm.mono ?_
  rintro y w3 ⟨rfl, hp3⟩
  have hpost := day_post_of hp3 (by omega)
  clear hp3 hcm e0 e1 e2 e3 e4 y0 y1 y2
  go_wp2
  go_ret
  exact ⟨rfl, hpost⟩
set_option maxRecDepth 100000 in
set_option maxHeartbeats 8000000 in
theorem day_flush (h : FSt w wr wb cb tv m d now comes) (hm : m < 900000) (hn : now ≤ 900000000) (x1 : Int) (hx : isI x1) (x2 : Bool) :
    Calls Try.prog 26 #[.pointer (some ⟨wb, 0, none⟩), dayV 3 x1 x2] wr fun y w' => y = .returned (.bool true) ∧ DayPost w wb cb m now w' := by
  have hal := World.grownBy_alloc wr (.cells (dayA 3 x1 x2) 79) none
  have hD : Box (wr.alloc (.cells (dayA 3 x1 x2) 79)) 79 wr.heap.size (dayA 3 x1 x2) := Box.new _ _ _
  have h1 := h.kept0 hal
  unfold dayA at hal hD h1
  unfold dayV
  obtain ⟨e0, e1, e2, e3, e4⟩ := h1.cells
  have y0 : World.cell? _ ⟨wr.heap.size, 0, none⟩ = some (.int .i64 3) := hD.cell 0
  have y1 : World.cell? _ ⟨wr.heap.size, 1, none⟩ = some (.int .i64 x1) := hD.cell 1
  have y2 : World.cell? _ ⟨wr.heap.size, 2, none⟩ = some (.bool x2) := hD.cell 2
  have hw := fun W => within_29 x1 0 9 hx (by omega) (by omega) (by omega) (by omega) W
  have hb := wth_in (n := x1) (show (0 : Int) ≤ 9 by omega)
  generalize wth x1 0 9 = t at *
  have hok := h.ok
  have hdm := h.dm
  have hck : Ck.flush ⟨now, d, pend comes⟩ (-t) m = ⟨now, m, 0⟩ := by
    unfold Ck.flush Ck.fl
    rw [if_pos (by omega)]
    simp only []
    rw [show max (d : Int) m = m by omega]
  have hfl := fun W (hM : Mid w W wb cb tv m d now comes ⟨now, d, pend comes⟩) => flush_18 hM.ck hok (-t) m (by unfold isI; omega)
  rw [hck] at hfl
  have hn1 := h.n1; have hn2 := h.n2
  have hmid := h1.mid
  have hwt2 : IntKind.i64.wrap (-t) = -t := by rw [IntKind.wrap_i64]; omega
  clear h h1 hal hck
  go_enter Try.func26, Try.ntmps26
  go_wp2_with fail
  obtain ⟨ob, hob⟩ : ∃ ob, ob = wr.heap.size := ⟨_, rfl⟩
  rw [← hob] at y0 y1 y2 hD ⊢
  clear hob
  generalize wr.alloc (.cells #[.int .i64 3, .int .i64 x1, .bool x2] 79) = V at *
  have hM1 := hmid.kept0 (gb_drew (gb_refl V none))
  go_region_held3 (fun w' => w'.cell? ⟨wb, 0, none⟩ = some (.pointer (some ⟨cb, 0, none⟩)) ∧ w'.cell? ⟨wb, 2, none⟩ = some (.int .u64 m) ∧ w'.cell? ⟨ob, 1, none⟩ = some (.int .i64 x1)) ((first | exact ⟨hm3.cells.1, hm3.cells.2.2.1, ho3⟩ | go_keep)) ((first | (go_at_call 29; with_reducible refine (hw _).mono ?_; rintro y w2 ⟨rfl, rfl⟩) | (go_at_call 18; with_reducible refine (hfl _ hM1).mono ?_; rintro y w3 ⟨rfl, hg3, hb3⟩; have hm3 : Mid w w3 wb cb tv m d now comes ⟨now, m, 0⟩ := hM1.clock hg3 hb3; have ho3 : w3.cell? ⟨ob, 1, none⟩ = some (.int .i64 x1) := gb_cell hg3 (gb_cellN (gb_drew (gb_refl V none)) y1) (box_ne hD hmid.ck (by decide)))))
  have hfl2 := hm3.flush hdm (by omega)
  clear hfl hM1 hmid e0 e1 e2 e3 e4 y0 y1 y2 ho3 hm3
  go_wp2_with fail
  refine hfl2.mono ?_
  rintro y w5 ⟨rfl, hm5⟩
  have hf5 := hm5.th.box.fz 4
  obtain ⟨s0, s1, s2, s3, s4⟩ := hm5.cells
  have hm6 := hm5.set4 0
  have hpost : DayPost w wb cb m now _ := ⟨tv, m, m, now, 0, by omega, by omega, ⟨hm6.th, hm6.ck, hm6.g, hm6.lc, Nat.le_refl _, hn1, hn2, .inl rfl, by omega⟩⟩
  clear hm5 hm6 hfl2
  go_wp2
  go_ret
  exact ⟨rfl, hpost⟩
set_option maxRecDepth 100000 in
set_option maxHeartbeats 8000000 in
theorem day_later_false (h : FSt w wr wb cb tv m d now comes) (hm : m < 900000) (hn : now ≤ 900000000) (x1 : Int) (hx : isI x1) :
    Calls Try.prog 26 #[.pointer (some ⟨wb, 0, none⟩), dayV 4 x1 false] wr fun y w' => y = .returned (.bool true) ∧ DayPost w wb cb m now w' := by
  have hal := World.grownBy_alloc wr (.cells (dayA 4 x1 false) 79) none
  have hD : Box (wr.alloc (.cells (dayA 4 x1 false) 79)) 79 wr.heap.size (dayA 4 x1 false) := Box.new _ _ _
  have h1 := h.kept0 hal
  unfold dayA at hal hD h1
  unfold dayV
  obtain ⟨e0, e1, e2, e3, e4⟩ := h1.cells
  have y0 : World.cell? _ ⟨wr.heap.size, 0, none⟩ = some (.int .i64 4) := hD.cell 0
  have y1 : World.cell? _ ⟨wr.heap.size, 1, none⟩ = some (.int .i64 x1) := hD.cell 1
  have y2 : World.cell? _ ⟨wr.heap.size, 2, none⟩ = some (.bool false) := hD.cell 2
  have hw1 := fun W => within_29 x1 1 6 hx (by omega) (by omega) (by omega) (by omega) W
  have hb := wth_in (n := x1) (show (1 : Int) ≤ 6 by omega)
  generalize wth x1 1 6 = t at *
  have hok := h.ok
  have hdm := h.dm
  have hn1 := h.n1; have hn2 := h.n2
  have hck : Ck.flush ⟨now, d, pend comes⟩ t m = ⟨now, d, pend (now + t)⟩ := by
    unfold Ck.flush
    rw [if_neg (by omega)]
    by_cases h2 : t > 1099511627776 - now
    · rw [if_pos h2]; unfold pend; rw [if_neg (show ¬ (now + t ≤ 1099511627776) by omega)]
    · rw [if_neg h2]; unfold pend; rw [if_pos (show now + t ≤ 1099511627776 by omega)]
  have hfl := fun W (hM : Mid w W wb cb tv m d now comes ⟨now, d, pend comes⟩) => flush_18 hM.ck hok t m (by unfold isI; omega)
  rw [hck] at hfl
  have hmid := h1.mid
  have hwt : IntKind.i64.wrap (now + t) = now + t := by rw [IntKind.wrap_i64]; omega
  clear h h1 hal hck hD
  generalize hV : wr.alloc (.cells #[.int .i64 4, .int .i64 x1, .bool false] 79) = V at *
  go_enter Try.func26, Try.ntmps26
  rw [← hV] at *
  go_wp2_with (first | (go_at_call 29; go_must (with_reducible refine (hw1 _).mono ?_); rintro y w' ⟨rfl, rfl⟩) | fail)
  clear y0 y1 y2
  generalize wr.alloc (.cells #[.int .i64 4, .int .i64 x1, .bool false] 79) = V2 at *
  have hM1 := hmid.kept0 (gb_drew (gb_refl V2 none))
  go_region_held3 (fun w' => w'.cell? ⟨wb, 0, none⟩ = some (.pointer (some ⟨cb, 0, none⟩)) ∧ w'.cell? ⟨wb, 2, none⟩ = some (.int .u64 m)) ((first | exact ⟨hm3.cells.1, hm3.cells.2.2.1⟩ | go_keep)) ((first | (go_at_call 18; with_reducible refine (hfl _ hM1).mono ?_; rintro y w3 ⟨rfl, hg3, hb3⟩; have hm3 : Mid w w3 wb cb tv m d now comes ⟨now, d, pend (now + t)⟩ := hM1.clock hg3 hb3)))
  have hf5 := hm3.th.box.fz 4
  obtain ⟨s0, s1, s2, s3, s4⟩ := hm3.cells
  have hm6 := hm3.set4 (now + t)
  have hpost : DayPost w wb cb m now _ := ⟨tv, m, d, now, now + t, by omega, by omega, ⟨hm6.th, hm6.ck, hm6.g, hm6.lc, hdm, hn1, hn2, .inr (by omega), by omega⟩⟩
  clear hfl hM1 hmid e0 e1 e2 e3 e4 hm3 hm6
  go_wp2
  go_ret
  exact ⟨rfl, hpost⟩
set_option maxRecDepth 100000 in
set_option maxHeartbeats 8000000 in
theorem day_later_true (h : FSt w wr wb cb tv m d now comes) (hm : m < 900000) (hn : now ≤ 900000000) (x1 : Int) (hx : isI x1) :
    Calls Try.prog 26 #[.pointer (some ⟨wb, 0, none⟩), dayV 4 x1 true] wr fun y w' => y = .returned (.bool true) ∧ DayPost w wb cb m now w' := by
  have hal := World.grownBy_alloc wr (.cells (dayA 4 x1 true) 79) none
  have hD : Box (wr.alloc (.cells (dayA 4 x1 true) 79)) 79 wr.heap.size (dayA 4 x1 true) := Box.new _ _ _
  have h1 := h.kept0 hal
  unfold dayA at hal hD h1
  unfold dayV
  obtain ⟨e0, e1, e2, e3, e4⟩ := h1.cells
  have y0 : World.cell? _ ⟨wr.heap.size, 0, none⟩ = some (.int .i64 4) := hD.cell 0
  have y1 : World.cell? _ ⟨wr.heap.size, 1, none⟩ = some (.int .i64 x1) := hD.cell 1
  have y2 : World.cell? _ ⟨wr.heap.size, 2, none⟩ = some (.bool true) := hD.cell 2
  have hw1 := fun W => within_29 x1 1 6 hx (by omega) (by omega) (by omega) (by omega) W
  have hw2 := fun W => within_29 x1 1 4611686018427387904 hx (by omega) (by omega) (by omega) (by omega) W
  have hb := wth_in (n := x1) (show (1 : Int) ≤ 4611686018427387904 by omega)
  generalize wth x1 1 4611686018427387904 = t at *
  generalize wth x1 1 6 = t3 at *
  have hok := h.ok
  have hdm := h.dm
  have hn1 := h.n1; have hn2 := h.n2
  have hck : Ck.flush ⟨now, d, pend comes⟩ t m = ⟨now, d, pend (now + t)⟩ := by
    unfold Ck.flush
    rw [if_neg (by omega)]
    by_cases h2 : t > 1099511627776 - now
    · rw [if_pos h2]; unfold pend; rw [if_neg (show ¬ (now + t ≤ 1099511627776) by omega)]
    · rw [if_neg h2]; unfold pend; rw [if_pos (show now + t ≤ 1099511627776 by omega)]
  have hfl := fun W (hM : Mid w W wb cb tv m d now comes ⟨now, d, pend comes⟩) => flush_18 hM.ck hok t m (by unfold isI; omega)
  rw [hck] at hfl
  have hmid := h1.mid
  have hwt : IntKind.i64.wrap (now + t) = now + t := by rw [IntKind.wrap_i64]; omega
  clear h h1 hal hck hD
  generalize hV : wr.alloc (.cells #[.int .i64 4, .int .i64 x1, .bool true] 79) = V at *
  go_enter Try.func26, Try.ntmps26
  rw [← hV] at *
  go_wp2_with (first | (go_at_call 29; go_must (with_reducible first | refine (hw1 _).mono ?_ | refine (hw2 _).mono ?_); rintro y w' ⟨rfl, rfl⟩) | fail)
  clear y0 y1 y2
  generalize wr.alloc (.cells #[.int .i64 4, .int .i64 x1, .bool true] 79) = V2 at *
  have hM1 := hmid.kept0 (gb_drew (gb_refl V2 none))
  go_region_held3 (fun w' => w'.cell? ⟨wb, 0, none⟩ = some (.pointer (some ⟨cb, 0, none⟩)) ∧ w'.cell? ⟨wb, 2, none⟩ = some (.int .u64 m)) ((first | exact ⟨hm3.cells.1, hm3.cells.2.2.1⟩ | go_keep)) ((first | (go_at_call 18; with_reducible refine (hfl _ hM1).mono ?_; rintro y w3 ⟨rfl, hg3, hb3⟩; have hm3 : Mid w w3 wb cb tv m d now comes ⟨now, d, pend (now + t)⟩ := hM1.clock hg3 hb3)))
  have hf5 := hm3.th.box.fz 4
  obtain ⟨s0, s1, s2, s3, s4⟩ := hm3.cells
  have hm6 := hm3.set4 (now + t)
  have hpost : DayPost w wb cb m now _ := ⟨tv, m, d, now, now + t, by omega, by omega, ⟨hm6.th, hm6.ck, hm6.g, hm6.lc, hdm, hn1, hn2, .inr (by omega), by omega⟩⟩
  clear hfl hM1 hmid e0 e1 e2 e3 e4 hm3 hm6
  go_wp2
  go_ret
  exact ⟨rfl, hpost⟩
set_option maxRecDepth 100000 in
set_option maxHeartbeats 8000000 in
theorem day_other (h : FSt w wr wb cb tv m d now comes) (x0 x1 : Int) (x2 : Bool) (h1 : ¬ x0 = 1) (h2 : ¬ x0 = 2) (h3 : ¬ x0 = 3) (h4 : ¬ x0 = 4) :
    Calls Try.prog 26 #[.pointer (some ⟨wb, 0, none⟩), dayV x0 x1 x2] wr fun y w' => y = .returned (.bool true) ∧ DayPost w wb cb m now w' := by
  have hal := World.grownBy_alloc wr (.cells (dayA x0 x1 x2) 79) none
  have hpost : DayPost w wb cb m now _ := ⟨tv, m, d, now, comes, by omega, by omega, h.kept0 hal⟩
  unfold dayA at hpost
  unfold dayV
  clear hal h
  go_enter Try.func26, Try.ntmps26
  go_wp2
  go_ret
  exact ⟨rfl, hpost⟩

theorem day_26 (h : FSt w wr wb cb tv m d now comes) (hm : m < 900000) (hn : now ≤ 900000000) (x0 x1 : Int) (x2 : Bool) (hx : isI x1) :
    Calls Try.prog 26 #[.pointer (some ⟨wb, 0, none⟩), dayV x0 x1 x2] wr fun y w' => y = .returned (.bool true) ∧ DayPost w wb cb m now w' := by
  by_cases h1 : x0 = 1
  · subst h1; exact day_store h hm x1 x2
  · by_cases h2 : x0 = 2
    · subst h2
      cases x2
      · exact day_move_false h hm hn x1 hx
      · exact day_move_true h hm hn x1 hx
    · by_cases h3 : x0 = 3
      · subst h3; exact day_flush h hm hn x1 hx x2
      · by_cases h4 : x0 = 4
        · subst h4
          cases x2
          · exact day_later_false h hm hn x1 hx
          · exact day_later_true h hm hn x1 hx
        · exact day_other h x0 x1 x2 h1 h2 h3 h4
end

end Go.Proofs.Ytagcmfaljfaikaa
