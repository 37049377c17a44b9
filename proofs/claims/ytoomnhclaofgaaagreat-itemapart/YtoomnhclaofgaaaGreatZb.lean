import Derived.Test.YtoomnhclaofgaaaGreatZa
/-
  Items: state and links, told and set.
-/
namespace Go.Proofs.YtoomnhclaofgaaaGreat
open Go.RowKit
set_option linter.unusedVariables false

section
variable {w : World} {sb : Nat} {F : Nat → Prop} {B : Bl} {b c d e f g : Int} {A : Ab} {zs : List Int}

theorem isLink_any (j : Nat) (hj : j < 3) (w : World) : Calls Tryz.prog 62 #[.int .i64 j] w fun y w' => y = .returned (.bool true) ∧ w = w' := by
  have hj2 : (j : Int) < 3 := by omega
  have hj3 : decide ((j : Int) < 3) = true := decide_eq_true hj2
  go_enter Tryz.func62, Tryz.ntmps62
  go_wp2
  go_ret
  exact ⟨rfl, rfl⟩
theorem linkAt_any (j : Nat) (hj : j < 3) (w : World) : Calls Tryz.prog 63 #[.int .i64 j] w fun y w' => y = .returned (.int .i64 ((j : Int) * 4)) ∧ w = w' := by
  go_enter Tryz.func63, Tryz.ntmps63
  go_wp2
  go_ret
  exact ⟨rfl, rfl⟩

/-- SetLink to none, or to a good handle. -/
theorem setLink_kit (h : IsS w sb F B b c d e f g A zs) (hA : Fit2 A) {H p k : Nat} (hH : IsH A H p k) (kl : Nat) (hkl : Hid (getL zs (A.place p k + 44) 1 0 0 = kl)) (hk2 : 0 < kl ∧ kl < 256) (j : Nat) (hj : j < 3) (v : Nat) (hv : v < 4294967296) :
    (∀ w1, w.grownBy w1 none → Calls Tryz.prog 39 #[chV B.ab (A.place p k) (A.own p) (A.sz (A.own p)), .int .i64 ((j : Int) * 4), .int .u32 v] w1 fun y w' => y = .returned (.tuple #[]) ∧ w1.grownBy w' (some B.ag) ∧ Hid (Kp F w w' ∧ IsS w' sb F B b c d e f g A (lay zs (A.place p k + j * 4) (be 4 v)))) := by
  intro w1 hf
  have hP := pl_of h hA.toFit1 hH.hp hH.hk
  have h64 := hA.lo _ (hA.on p hH.hp)
  have := (iput_u32 ((h.kept0 hf).ar) (A.place p k) (A.own p) (A.sz (A.own p)) (j * 4) v (by omega) (by have := hP.hb; omega) (hP.th (j * 4) 4 (by omega))).mono (R' := fun y w' => y = .returned (.tuple #[]) ∧ w1.grownBy w' (some B.ag) ∧ Hid (Kp F w w' ∧ IsS w' sb F B b c d e f g A (lay zs (A.place p k + j * 4) (be 4 v)))) (by
    rintro y w' ⟨rfl, hg, hA'⟩
    obtain ⟨h1, h2⟩ := (h.kept0 hf).bytes hg hA'
    exact ⟨rfl, hg, ((Kp.of (F := F) hf).trans h2 (fun _ h => h) (fun i hi => .inl hi)), h1⟩)
  rw [show ((j * 4 : Nat) : Int) = (j : Int) * 4 by omega] at this
  exact this

set_option maxRecDepth 100000 in
set_option maxHeartbeats 1000000 in
theorem setLink_zero (h : IsS w sb F B b c d e f g A zs) (hA : Fit2 A) {H p k : Nat} (hH : IsH A H p k) (kl : Nat) (hkl : Hid (getL zs (A.place p k + 44) 1 0 0 = kl)) (hk2 : 0 < kl ∧ kl < 256) (j : Nat) (hj : j < 3) :
    Calls Tryz.prog 22 #[.pointer (some ⟨sb, 0, none⟩), .int .u64 H, .int .i64 j, .int .u64 0] w fun y w' => y = .returned (.int .i64 0) ∧ Kp F w w' ∧ IsS w' sb F B b c d e f g A (lay zs (A.place p k + j * 4) (be 4 0)) := by
  have hop := openItem_yes h hA hH kl hkl hk2
  have hpt := setLink_kit h hA hH kl hkl hk2 j hj 0 (by omega)
  have hag : B.ag < w.heap.size := h.lt _ h.fa.2
  have hil := fun W => isLink_any j hj W
  have hw0 : IntKind.u32.wrap 0 = 0 := by decide
  have hla := fun W => linkAt_any j hj W
  clear h hH hkl
  unfold chV at *
  generalize A.place p k = pl at *
  generalize A.sz (A.own p) = s at *
  generalize A.own p = op at *
  have hab : ∃ ab, ab = B.ab := ⟨_, rfl⟩
  obtain ⟨ab, hab⟩ := hab
  rw [← hab] at hop hpt
  clear hab
  obtain ⟨ag, hag2⟩ : ∃ ag, ag = B.ag := ⟨_, rfl⟩
  rw [← hag2] at hag hpt
  clear hag2
  simp only [show ((0 : Nat) : Int) = 0 from rfl] at hpt
  generalize lay zs (pl + j * 4) (be 4 0) = us at *
  go_enter Tryz.func22, Tryz.ntmps22
  go_wp2_with (first | (go_at_call 61; go_must (refine hop.mono ?_); rintro y w1 ⟨rfl, hf1⟩; (have hf2 : w.grownBy (w1.alloc (.cells #[.pointer (some ⟨ab, 0, none⟩), .int .i64 pl, .int .i64 op, .int .i64 s] 84)) none := gb_alloc hf1 _); (have hc3 := Box.new w1 84 #[.pointer (some ⟨ab, 0, none⟩), .int .i64 pl, .int .i64 op, .int .i64 s]); skip) | (go_at_call 62; go_must (refine (hil _).mono ?_); rintro y w' ⟨rfl, rfl⟩) | fail)
  have hCC : ∀ W, (w1.alloc (.cells #[.pointer (some ⟨ab, 0, none⟩), .int .i64 pl, .int .i64 op, .int .i64 s] 84)).grownBy W none → W.cell? ⟨w1.heap.size, 0, none⟩ = some (.pointer (some ⟨ab, 0, none⟩)) ∧ W.cell? ⟨w1.heap.size, 1, none⟩ = some (.int .i64 pl) ∧ W.cell? ⟨w1.heap.size, 2, none⟩ = some (.int .i64 op) ∧ W.cell? ⟨w1.heap.size, 3, none⟩ = some (.int .i64 s) := fun W hf => ⟨gb_cellN hf (hc3.cell 0), gb_cellN hf (hc3.cell 1), gb_cellN hf (hc3.cell 2), gb_cellN hf (hc3.cell 3)⟩
  generalize w1.alloc (.cells #[.pointer (some ⟨ab, 0, none⟩), .int .i64 pl, .int .i64 op, .int .i64 s] 84) = W3 at *
  have h3d : W3.grownBy W3.drew none := gb_drew (gb_refl _ _)
  have hf3 := gb_drew hf2
  have hs1 := hf1.size
  have hCD : ∀ W, W3.drew.grownBy W (some ag) → W.cell? ⟨w1.heap.size, 0, none⟩ = some (.pointer (some ⟨ab, 0, none⟩)) ∧ W.cell? ⟨w1.heap.size, 1, none⟩ = some (.int .i64 pl) ∧ W.cell? ⟨w1.heap.size, 2, none⟩ = some (.int .i64 op) ∧ W.cell? ⟨w1.heap.size, 3, none⟩ = some (.int .i64 s) := fun W hf => by
    obtain ⟨d0, d1, d2, d3⟩ := hCC _ h3d
    have hne : some w1.heap.size ≠ some ag := by simp; omega
    exact ⟨gb_cell hf d0 hne, gb_cell hf d1 hne, gb_cell hf d2 hne, gb_cell hf d3 hne⟩
  go_region_held3 (fun w' => w'.cell? ⟨w1.heap.size, 0, none⟩ = some (.pointer (some ⟨ab, 0, none⟩)) ∧ w'.cell? ⟨w1.heap.size, 1, none⟩ = some (.int .i64 pl) ∧ w'.cell? ⟨w1.heap.size, 2, none⟩ = some (.int .i64 op) ∧ w'.cell? ⟨w1.heap.size, 3, none⟩ = some (.int .i64 s)) ((first | with_reducible exact hCD _ hg4 | with_reducible exact hCC _ h3d | go_keep)) ((first | (go_at_call 63; with_reducible refine (hla _).mono ?_; rintro y w' ⟨rfl, rfl⟩) | (go_at_call 39; with_reducible refine (hpt _ hf3).mono ?_; rintro y w4 ⟨rfl, hg4, hE⟩)))
  go_wp2
  go_ret
  exact ⟨rfl, hE.out⟩

set_option maxRecDepth 100000 in
set_option maxHeartbeats 1000000 in
theorem setLink_to (h : IsS w sb F B b c d e f g A zs) (hA : Fit2 A) {H p k : Nat} (hH : IsH A H p k) (kl : Nat) (hkl : Hid (getL zs (A.place p k + 44) 1 0 0 = kl)) (hk2 : 0 < kl ∧ kl < 256) (j : Nat) (hj : j < 3) {K q l : Nat} (hK : IsH A K q l) :
    Calls Tryz.prog 22 #[.pointer (some ⟨sb, 0, none⟩), .int .u64 H, .int .i64 j, .int .u64 K] w fun y w' => y = .returned (.int .i64 0) ∧ Kp F w w' ∧ IsS w' sb F B b c d e f g A (lay zs (A.place p k + j * 4) (be 4 ((nm K : Nat) : Int))) := by
  have hop := openItem_yes h hA hH kl hkl hk2
  have hKp := hK.parts hA
  have hn1 := num_lt hA.toFit1 hK.hp hK.hk
  have hv : nm K < 4294967296 := by unfold nm; omega
  have hpt := setLink_kit h hA hH kl hkl hk2 j hj (nm K) hv
  have hag : B.ag < w.heap.size := h.lt _ h.fa.2
  have hil := fun W => isLink_any j hj W
  have hw0 : IntKind.u32.wrap (K : Int) = ((nm K : Nat) : Int) := by
    unfold nm
    simp [IntKind.wrap, IntKind.signed, IntKind.bits]
  have hK0 : ¬ K = 0 := by omega
  have hKz : ¬ (K : Int) = 0 := by omega
  have hat := fun w1 (hf : w.grownBy w1 none) => at_yes (h.kept0 hf) hA hK
  have hla := fun W => linkAt_any j hj W
  clear h hH hkl hK hKp hn1
  unfold chV at *
  generalize A.place p k = pl at *
  generalize A.sz (A.own p) = s at *
  generalize A.own p = op at *
  generalize A.place q l = pl2 at *
  generalize A.own q = op2 at *
  have hab : ∃ ab, ab = B.ab := ⟨_, rfl⟩
  obtain ⟨ab, hab⟩ := hab
  rw [← hab] at hop hpt
  clear hab
  obtain ⟨ag, hag2⟩ : ∃ ag, ag = B.ag := ⟨_, rfl⟩
  rw [← hag2] at hag hpt
  clear hag2
  generalize lay zs (pl + j * 4) (be 4 ((nm K : Nat) : Int)) = us at *
  generalize nm K = nK at *
  go_enter Tryz.func22, Tryz.ntmps22
  go_wp2_with (first | (go_at_call 61; go_must (refine hop.mono ?_); rintro y w1 ⟨rfl, hf1⟩; (have hf2 : w.grownBy (w1.alloc (.cells #[.pointer (some ⟨ab, 0, none⟩), .int .i64 pl, .int .i64 op, .int .i64 s] 84)) none := gb_alloc hf1 _); (have hc3 := Box.new w1 84 #[.pointer (some ⟨ab, 0, none⟩), .int .i64 pl, .int .i64 op, .int .i64 s]); skip) | (go_at_call 62; go_must (refine (hil _).mono ?_); rintro y w' ⟨rfl, rfl⟩) | (go_at_call 43; go_must (refine (hat _ hf2).mono ?_); rintro y w2 ⟨rfl, hf22⟩) | fail)
  have hc4 := hc3.kept hf22 (by simp)
  have hCC : ∀ W, w2.grownBy W none → W.cell? ⟨w1.heap.size, 0, none⟩ = some (.pointer (some ⟨ab, 0, none⟩)) ∧ W.cell? ⟨w1.heap.size, 1, none⟩ = some (.int .i64 pl) ∧ W.cell? ⟨w1.heap.size, 2, none⟩ = some (.int .i64 op) ∧ W.cell? ⟨w1.heap.size, 3, none⟩ = some (.int .i64 s) := fun W hf => ⟨gb_cellN hf (hc4.cell 0), gb_cellN hf (hc4.cell 1), gb_cellN hf (hc4.cell 2), gb_cellN hf (hc4.cell 3)⟩
  have h3d : w2.grownBy w2.drew none := gb_drew (gb_refl _ _)
  have hf3 := gb_drew (gb_trans hf2 hf22)
  have hs1 := hf1.size
  clear hc3 hc4
  have hCD : ∀ W, w2.drew.grownBy W (some ag) → W.cell? ⟨w1.heap.size, 0, none⟩ = some (.pointer (some ⟨ab, 0, none⟩)) ∧ W.cell? ⟨w1.heap.size, 1, none⟩ = some (.int .i64 pl) ∧ W.cell? ⟨w1.heap.size, 2, none⟩ = some (.int .i64 op) ∧ W.cell? ⟨w1.heap.size, 3, none⟩ = some (.int .i64 s) := fun W hf => by
    obtain ⟨d0, d1, d2, d3⟩ := hCC _ h3d
    have hne : some w1.heap.size ≠ some ag := by simp; omega
    exact ⟨gb_cell hf d0 hne, gb_cell hf d1 hne, gb_cell hf d2 hne, gb_cell hf d3 hne⟩
  go_region_held3 (fun w' => w'.cell? ⟨w1.heap.size, 0, none⟩ = some (.pointer (some ⟨ab, 0, none⟩)) ∧ w'.cell? ⟨w1.heap.size, 1, none⟩ = some (.int .i64 pl) ∧ w'.cell? ⟨w1.heap.size, 2, none⟩ = some (.int .i64 op) ∧ w'.cell? ⟨w1.heap.size, 3, none⟩ = some (.int .i64 s)) ((first | with_reducible exact hCD _ hg4 | with_reducible exact hCC _ h3d | go_keep)) ((first | (go_at_call 63; with_reducible refine (hla _).mono ?_; rintro y w' ⟨rfl, rfl⟩) | (go_at_call 39; with_reducible refine (hpt _ hf3).mono ?_; rintro y w4 ⟨rfl, hg4, hE⟩)))
  go_wp2
  go_ret
  exact ⟨rfl, hE.out⟩
end
end Go.Proofs.YtoomnhclaofgaaaGreat
