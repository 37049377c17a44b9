import Derived.Test.YtdlaanigfhlolaaGreatUb
/-
  A table of one item: lead, hang, seek, Put, Find.
-/
namespace Go.Proofs.YtdlaanigfhlolaaGreat
open Go.RowKit
set_option linter.unusedVariables false

section
variable {w : World} {tb hb sb : Nat} {mo it bu mv st : Int} {hs : List Nat} {F : Nat → Prop} {B : Bl} {b c d e f g : Int} {A : Ab} {zs : List Int}

theorem IsT.set (h : IsT w tb hb sb mo it bu mv st hs) (r H : Nat) : IsT (w.setCell ⟨hb, r, none⟩ (.int .u64 (H : Int))) tb hb sb mo it bu mv st (hs.set r H) := by
  refine ⟨?_, ?_, by simpa using h.len⟩
  · unfold Box
    rw [heap_setCell_other _ _ _ _ h.ne.symm, List.length_set]
    exact h.box
  · rw [heap_setCell_same w hb r _ _ (.int .u64 (H : Int)) h.hd]
    simp [u64s, List.map_set]

set_option maxRecDepth 100000 in
theorem lead0 (hT : IsT w tb hb sb mo it bu mv st hs) (h : IsS w sb F B b c d e f g A zs) (hA : Fit2 A) {H p k : Nat} (hH : IsH A H p k) (t : It) (hI : IsI zs (A.place p k) t) :
    Calls Tryz.prog 60 #[.pointer (some ⟨tb, 0, none⟩), .int .u64 H, .int .u64 0] w fun y w' => y = .returned (.tuple #[]) ∧ Kp F w w' ∧ IsS w' sb F B b c d e f g A (lay zs (A.place p k) (be 4 0)) := by
  have hk1 := hI.k1
  have hs := setLink0 h hA hH t.key.length hI.kl (by omega)
  have c0 := hT.box.cell 0
  simp [tabC] at c0
  have hs2 := hs.mono (R' := fun y w' => y = .returned (.int .i64 0) ∧ Hid (Kp F w w' ∧ IsS w' sb F B b c d e f g A (lay zs (A.place p k) (be 4 0)))) (by rintro y w' ⟨rfl, h1, h2⟩; exact ⟨rfl, h1, h2⟩)
  clear hs h hH hI hT
  go_enter Tryz.func60, Tryz.ntmps60
  go_wp2_with (first | (go_at_call 110; go_must (refine hs2.mono ?_); rintro y w1 ⟨rfl, hE⟩) | fail)
  go_end0
  exact ⟨rfl, hE.out⟩

set_option maxRecDepth 100000 in
theorem hang0 (hT : IsT w tb hb sb mo it bu mv st hs) (h : IsS w sb F B b c d e f g A zs) (hA : Fit2 A) {H p k : Nat} (hH : IsH A H p k) (t : It) (hI : IsI zs (A.place p k) t) (ht : ¬ F tb) (hh : ¬ F hb) {r : Nat} (hr : r < hs.length) (h0 : hs.getD r 0 = 0) :
    Calls Tryz.prog 109 #[.pointer (some ⟨tb, 0, none⟩), .int .u64 H, .pointer (some ⟨hb, r, none⟩)] w fun y w' => y = .returned (.tuple #[]) ∧ Kp (fun k => F k ∨ k = hb) w w' ∧ IsS w' sb F B b c d e f g A (lay zs (A.place p k) (be 4 0)) ∧ IsT w' tb hb sb mo it bu mv st (hs.set r H) := by
  have hl := lead0 hT h hA hH t hI
  have c1 := hT.hcell hr
  rw [h0] at c1
  have hl2 := hl.mono (R' := fun y w' => y = .returned (.tuple #[]) ∧ w'.cell? ⟨hb, r, none⟩ = some (.int .u64 0) ∧ w'.frozen? ⟨hb, r, none⟩ = false ∧ Hid (Kp F w w' ∧ IsS w' sb F B b c d e f g A (lay zs (A.place p k) (be 4 0)) ∧ IsT w' tb hb sb mo it bu mv st hs)) (by
    rintro y w' ⟨rfl, h1, h2⟩
    have h3 := hT.kept h1 ht hh
    have c2 := h3.hcell hr
    rw [h0] at c2
    exact ⟨rfl, c2, h3.fz r, h1, h2, h3⟩)
  clear hl h hH hI hT
  go_enter Tryz.func109, Tryz.ntmps109
  go_wp2_with (first | (go_at_call 60; go_must (refine hl2.mono ?_); rintro y w1 ⟨rfl, d1, d2, hE⟩) | fail)
  go_end0
  obtain ⟨h1, h2, h3⟩ := hE.out
  refine ⟨rfl, ?_, ?_, h3.set r H⟩
  · exact h1.trans ((Kp.refl (fun k => k = hb) w1).step (gb_setCell (gb_refl _ _) _) (fun i hi => .inl (by simpa using hi.symm))) (fun _ h => .inl h) (fun i hi => .inl (.inr hi))
  · exact h2.kept ((Kp.refl (fun k => k = hb) w1).step (gb_setCell (gb_refl _ _) _) (fun i hi => .inl (by simpa using hi.symm))) (fun k hk e => hh (e ▸ hk))

set_option maxRecDepth 100000 in
set_option maxHeartbeats 1000000 in
theorem seek0 (hT : IsT w tb hb sb mo 0 bu mv st hs) {a : Option Addr} {n c : Nat} {xs : List Int} (hy : Has w a n xs) (hx : isBytes xs) (hn : n ≤ 281474976710656) :
    Calls Tryz.prog 64 #[.pointer (some ⟨tb, 0, none⟩), .slice a n c] w fun y w' => y = .returned (.agg #[.pointer (some ⟨hb, sumB xs % hs.length, none⟩), .int .u64 0, .int .u64 0]) ∧ w.grownBy w' none := by
  have hbk := fun W (hf : w.grownBy W none) => bucket_any (c := c) (hT.kept0 hf) (hy.kept0 hf) hx hn
  have hal := World.grownBy_alloc w (.cells #[.pointer none, .int .u64 0, .int .u64 0] 120) none
  have hb0 := Box.new w 120 #[.pointer none, .int .u64 0, .int .u64 0]
  have hmod := Nat.mod_lt (sumB xs) hT.len.1
  have hcc := fun W (hf : w.grownBy W none) => (hT.kept0 hf).hcell hmod
  have hc2 := fun W (hf : w.grownBy W none) => (hT.kept0 hf).box.cell 2
  simp [tabC] at hc2
  generalize sumB xs % hs.length = r at *
  generalize hs.getD r 0 = H at *
  clear hT hy
  go_enter Tryz.func64, Tryz.ntmps64
  go_wp2_with (first | (go_at_call 111; go_must (refine (hbk _ hal).mono ?_); rintro y w1 ⟨rfl, hf1⟩; (have hf2 := gb_trans hal hf1); (have hb1 := hb0.kept hf1 (by simp)); (have hs1 := hb1.lt); (have hf3 : w.grownBy (w1.alloc (.cells #[.pointer (some ⟨hb, r, none⟩), .int .u64 0, .int .u64 0] 120)) none := gb_alloc hf2 _); (have hb3 := hb1.kept (World.grownBy_alloc w1 (.cells #[.pointer (some ⟨hb, r, none⟩), .int .u64 0, .int .u64 0] 120) none) (by simp)); (have hne : ¬ w.heap.size = w1.heap.size := by omega); (have hne2 : ¬ w1.heap.size = w.heap.size := by omega); (have u0 := hb3.cell 0); (have u1 := hb3.cell 1); (have u2 := hb3.cell 2); simp at u0 u1 u2; (have v0 := hb3.fz 0); (have v1 := hb3.fz 1); (have v2 := hb3.fz 2); (have d1 := hcc _ hf3); (have d2 := hc2 _ hf3)) | fail)
  generalize hW : w1.alloc (.cells #[.pointer (some ⟨hb, r, none⟩), .int .u64 0, .int .u64 0] 120) = W at *
  have hat := Box.new w1 120 #[.pointer (some ⟨hb, r, none⟩), .int .u64 0, .int .u64 0]
  rw [hW] at hat
  have t0 := hat.cell 0
  simp at t0
  clear hW
  go_loopw [19] (fun v wr => v = .int .i64 0 ∧ W = wr) (fun _ _ => 0)
  case atStart => exact ⟨rfl, rfl⟩
  case round =>
    obtain ⟨rfl, rfl⟩ := hrel
    go_wp2
    have hF : w.grownBy (((W.setCell ⟨w.heap.size, 0, none⟩ (.pointer (some ⟨hb, r, none⟩))).setCell ⟨w.heap.size, 1, none⟩ (.int .u64 0)).setCell ⟨w.heap.size, 2, none⟩ (.int .u64 0)) none := gb_mine hf3 (gb_setCell (gb_setCell (gb_setCell (gb_refl _ _) _) _) _) (Nat.le_refl _)
    have hb4 := ((hb3.set 0 (.pointer (some ⟨hb, r, none⟩))).set 1 (.int .u64 0)).set 2 (.int .u64 0)
    generalize (((W.setCell ⟨w.heap.size, 0, none⟩ (.pointer (some ⟨hb, r, none⟩))).setCell ⟨w.heap.size, 1, none⟩ (.int .u64 0)).setCell ⟨w.heap.size, 2, none⟩ (.int .u64 0)) = V at *
    have x0 := hb4.cell 0
    have x1 := hb4.cell 1
    have x2 := hb4.cell 2
    simp at x0 x1 x2
    exact bodyPost_ret (v := .agg #[.pointer (some ⟨hb, r, none⟩), .int .u64 0, .int .u64 0]) (by simp [results, Tryz.results64, go_sem, x0, x1, x2]) rfl ⟨rfl, hF⟩

set_option maxRecDepth 100000 in
set_option maxHeartbeats 1000000 in
theorem seek1 (hT : IsT w tb hb sb mo 1 bu mv st hs) (h : IsS w sb F B b c d e f g A zs) (hA : Fit2 A) {H p k : Nat} (hH : IsH A H p k) (t : It) (hI : IsI zs (A.place p k) t) (hfit : 58 + t.key.length + t.val.length ≤ A.sz (A.own p)) {a : Option Addr} {n cp : Nat} (hy : Has w a n t.key) (hn : n ≤ 281474976710656) (hd : hs.getD (sumB t.key % hs.length) 0 = H) (hH0 : 0 < H) :
    Calls Tryz.prog 64 #[.pointer (some ⟨tb, 0, none⟩), .slice a n cp] w fun y w' => y = .returned (.agg #[.pointer (some ⟨hb, sumB t.key % hs.length, none⟩), .int .u64 0, .int .u64 H]) ∧ w.grownBy w' none := by
  have hbk := fun W (hf : w.grownBy W none) => bucket_any (c := cp) (hT.kept0 hf) (hy.kept0 hf) hI.kb hn
  have hal := World.grownBy_alloc w (.cells #[.pointer none, .int .u64 0, .int .u64 0] 120) none
  have hb0 := Box.new w 120 #[.pointer none, .int .u64 0, .int .u64 0]
  have hmod := Nat.mod_lt (sumB t.key) hT.len.1
  have hcc := fun W (hf : w.grownBy W none) => (hT.kept0 hf).hcell hmod
  have hc2 := fun W (hf : w.grownBy W none) => (hT.kept0 hf).box.cell 2
  have hc0 := fun W (hf : w.grownBy W none) => (hT.kept0 hf).box.cell 0
  simp [tabC] at hc2 hc0
  have hsm := fun W (hf : w.grownBy W none) => isame_yes (h.kept0 hf) hA hH t hI a n cp t.key (hy.kept0 hf) rfl hfit
  simp only [hd] at hcc
  generalize sumB t.key % hs.length = r at *
  have hHz : ((H : Int) == 0) = false := by simp; omega
  clear hT hy h hH hI
  go_enter Tryz.func64, Tryz.ntmps64
  go_wp2_with (first | (go_at_call 111; go_must (refine (hbk _ hal).mono ?_); rintro y w1 ⟨rfl, hf1⟩; (have hf2 := gb_trans hal hf1); (have hb1 := hb0.kept hf1 (by simp)); (have hs1 := hb1.lt); (have hf3 : w.grownBy (w1.alloc (.cells #[.pointer (some ⟨hb, r, none⟩), .int .u64 0, .int .u64 0] 120)) none := gb_alloc hf2 _); (have hb3 := hb1.kept (World.grownBy_alloc w1 (.cells #[.pointer (some ⟨hb, r, none⟩), .int .u64 0, .int .u64 0] 120) none) (by simp)); (have hne : ¬ w.heap.size = w1.heap.size := by omega); (have hne2 : ¬ w1.heap.size = w.heap.size := by omega); (have d1 := hcc _ hf3); (have d2 := hc2 _ hf3)) | fail)
  generalize hW : w1.alloc (.cells #[.pointer (some ⟨hb, r, none⟩), .int .u64 0, .int .u64 0] 120) = W at *
  have hat := Box.new w1 120 #[.pointer (some ⟨hb, r, none⟩), .int .u64 0, .int .u64 0]
  rw [hW] at hat
  have d0 := hc0 _ hf3
  clear hW
  go_loopw [6, 19] (fun x v wr => x = .int .u64 (H : Int) ∧ v = .int .i64 0 ∧ W = wr) (fun _ _ _ => 0)
  case atStart => exact ⟨rfl, rfl, rfl⟩
  case round =>
    obtain ⟨rfl, rfl, rfl⟩ := hrel
    go_wp2_with (first | (go_at_call 78; go_must (refine (hsm _ hf3).mono ?_); rintro y w5 ⟨rfl, hf5⟩; (have hb5 := hb3.kept hf5 (by simp)); (have ha5 := hat.kept hf5 (by simp)); (have t0 := ha5.cell 0); (have t1 := ha5.cell 1); (have t2 := ha5.cell 2); simp at t0 t1 t2; (have s2 := ha5.fz 2); (have v0 := hb5.fz 0); (have v1 := hb5.fz 1); (have v2 := hb5.fz 2); (have u0 := hb5.cell 0); (have u1 := hb5.cell 1); (have u2 := hb5.cell 2); simp at u0 u1 u2) | fail)
    have hb6 := hb5.kept (gb_setCell (gb_refl w5 (some w1.heap.size)) (.int .u64 (H : Int)) (i := 2)) (by simp; omega)
    have hF : w.grownBy ((((w5.setCell ⟨w1.heap.size, 2, none⟩ (.int .u64 H)).setCell ⟨w.heap.size, 0, none⟩ (.pointer (some ⟨hb, r, none⟩))).setCell ⟨w.heap.size, 1, none⟩ (.int .u64 0)).setCell ⟨w.heap.size, 2, none⟩ (.int .u64 H)) none := gb_mine (gb_mine (gb_trans hf3 hf5) (gb_setCell (gb_refl _ _) _) (by omega)) (gb_setCell (gb_setCell (gb_setCell (gb_refl _ _) _) _) _) (Nat.le_refl _)
    have hb4 := ((hb6.set 0 (.pointer (some ⟨hb, r, none⟩))).set 1 (.int .u64 0)).set 2 (.int .u64 H)
    generalize ((((w5.setCell ⟨w1.heap.size, 2, none⟩ (.int .u64 H)).setCell ⟨w.heap.size, 0, none⟩ (.pointer (some ⟨hb, r, none⟩))).setCell ⟨w.heap.size, 1, none⟩ (.int .u64 0)).setCell ⟨w.heap.size, 2, none⟩ (.int .u64 H)) = V at *
    have x0 := hb4.cell 0
    have x1 := hb4.cell 1
    have x2 := hb4.cell 2
    simp at x0 x1 x2
    exact bodyPost_ret (v := .agg #[.pointer (some ⟨hb, r, none⟩), .int .u64 0, .int .u64 H]) (by simp [results, Tryz.results64, go_sem, x0, x1, x2]) rfl ⟨rfl, hF⟩
end

end Go.Proofs.YtdlaanigfhlolaaGreat
