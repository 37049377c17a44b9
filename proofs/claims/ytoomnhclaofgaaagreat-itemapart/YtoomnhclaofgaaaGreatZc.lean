import Derived.Test.YtoomnhclaofgaaaGreatZb
/-
  Items: SetState, Link.
-/
namespace Go.Proofs.YtoomnhclaofgaaaGreat
open Go.RowKit
set_option linter.unusedVariables false

section
variable {w : World} {sb : Nat} {F : Nat → Prop} {B : Bl} {b c d e f g : Int} {A : Ab} {zs : List Int}

set_option maxRecDepth 100000 in
set_option maxHeartbeats 1000000 in
theorem setState_yes (h : IsS w sb F B b c d e f g A zs) (hA : Fit2 A) {H p k : Nat} (hH : IsH A H p k) (kl : Nat) (hkl : Hid (getL zs (A.place p k + 44) 1 0 0 = kl)) (hk2 : 0 < kl ∧ kl < 256) (n : Nat) (h1 : 1 ≤ n) (h2 : n ≤ 4) :
    Calls Tryz.prog 17 #[.pointer (some ⟨sb, 0, none⟩), .int .u64 H, .int .i64 n] w fun y w' => y = .returned (.int .i64 0) ∧ Kp F w w' ∧ IsS w' sb F B b c d e f g A (lay zs (A.place p k + 45) (be 1 n)) := by
  have hP := pl_of h hA.toFit1 hH.hp hH.hk
  have h64 := hA.lo _ (hA.on p hH.hp)
  have hop := openItem_yes h hA hH kl hkl hk2
  have hpt := fun w1 (hf : w.grownBy w1 none) => (iput_u8 ((h.kept0 hf).ar) (A.place p k) (A.own p) (A.sz (A.own p)) 45 n (by omega) (by have := hP.hb; omega) (hP.th 45 1 (by omega))).mono (R' := fun y w' => y = .returned (.tuple #[]) ∧ Hid (Kp F w w' ∧ IsS w' sb F B b c d e f g A (lay zs (A.place p k + 45) (be 1 n)))) (by
    rintro y w' ⟨rfl, hg, hA'⟩
    obtain ⟨h1, h2⟩ := (h.kept0 hf).bytes hg hA'
    exact ⟨rfl, ((Kp.of (F := F) hf).trans h2 (fun _ h => h) (fun i hi => .inl hi)), h1⟩)
  simp only [show ((45 : Nat) : Int) = 45 from rfl] at hpt
  have his := fun W => isState_yes (n : Int) (by omega) W
  clear h hH hkl hP
  have hst : Calls Tryz.prog 51 #[.pointer (some ⟨sb, 0, none⟩), .int .u64 H, .int .i64 45, .int .u8 n, .bool true] w fun y w' => y = .returned (.int .i64 0) ∧ Hid (Kp F w w' ∧ IsS w' sb F B b c d e f g A (lay zs (A.place p k + 45) (be 1 n))) := by
    generalize lay zs (A.place p k + 45) (be 1 n) = us at *
    unfold chV at *
    generalize A.place p k = pl at *
    generalize A.sz (A.own p) = s at *
    generalize A.own p = op at *
    have hab : ∃ ab, ab = B.ab := ⟨_, rfl⟩
    obtain ⟨ab, hab⟩ := hab
    rw [← hab] at hop hpt
    clear hab
    go_enter Tryz.func51, Tryz.ntmps51
    go_wp2_with (first | (go_at_call 61; go_must (refine hop.mono ?_); rintro y w1 ⟨rfl, hf1⟩; (have hf2 : w.grownBy (w1.alloc (.cells #[.pointer (some ⟨ab, 0, none⟩), .int .i64 pl, .int .i64 op, .int .i64 s] 84)) none := gb_alloc hf1 _)) | (go_at_call 40; go_must (refine (hpt _ hf2).mono ?_); rintro y w4 ⟨rfl, hE⟩) | fail)
    go_ret
    exact ⟨rfl, hE⟩
  generalize lay zs (A.place p k + 45) (be 1 n) = us at *
  clear hop hpt
  go_enter Tryz.func17, Tryz.ntmps17
  go_wp2_with (first | (go_at_call 52; go_must (refine (his _).mono ?_); rintro y w' ⟨rfl, rfl⟩) | (go_at_call 51; go_must (with_reducible refine hst.mono ?_); rintro y w1 ⟨rfl, hE⟩) | fail)
  go_ret
  exact ⟨rfl, hE.out⟩

set_option maxRecDepth 100000 in
set_option maxHeartbeats 1000000 in
theorem link_none (h : IsS w sb F B b c d e f g A zs) (hA : Fit2 A) {H p k : Nat} (hH : IsH A H p k) (j : Nat) (hj : j < 3) (hl : Hid (getL zs (A.place p k + j * 4) 4 0 0 = 0)) :
    Calls Tryz.prog 23 #[.pointer (some ⟨sb, 0, none⟩), .int .u64 H, .int .i64 j] w fun y w' => y = .returned (.tuple #[.int .u64 0, .int .i64 0]) ∧ w.grownBy w' none := by
  have hP := pl_of h hA.toFit1 hH.hp hH.hk
  have h64 := hA.lo _ (hA.on p hH.hp)
  have hop := open_yes h hA hH
  have hgt := fun w1 (hf : w.grownBy w1 none) => iget_u32 ((h.kept0 hf).ar) (A.place p k) (A.own p) (A.sz (A.own p)) (j * 4) (by have := hP.hb; omega) (hP.th (j * 4) 4 (by omega))
  simp only [hl.out, show ((j * 4 : Nat) : Int) = (j : Int) * 4 by omega] at hgt
  have hil := fun W => isLink_any j hj W
  have hla := fun W => linkAt_any j hj W
  clear h hH hP hl
  unfold chV at *
  generalize A.place p k = pl at *
  generalize A.sz (A.own p) = s at *
  generalize A.own p = op at *
  generalize B.ab = ab at *
  go_enter Tryz.func23, Tryz.ntmps23
  go_wp2_with (first | (go_at_call 33; go_must (refine hop.mono ?_); rintro y w1 ⟨rfl, hf1⟩; (have hf2 : w.grownBy (w1.alloc (.cells #[.pointer (some ⟨ab, 0, none⟩), .int .i64 pl, .int .i64 op, .int .i64 s] 84)) none := gb_alloc hf1 _); (have hc3 := Box.new w1 84 #[.pointer (some ⟨ab, 0, none⟩), .int .i64 pl, .int .i64 op, .int .i64 s])) | (go_at_call 62; go_must (refine (hil _).mono ?_); rintro y w' ⟨rfl, rfl⟩) | fail)
  have hCC : ∀ W, (w1.alloc (.cells #[.pointer (some ⟨ab, 0, none⟩), .int .i64 pl, .int .i64 op, .int .i64 s] 84)).grownBy W none → W.cell? ⟨w1.heap.size, 0, none⟩ = some (.pointer (some ⟨ab, 0, none⟩)) ∧ W.cell? ⟨w1.heap.size, 1, none⟩ = some (.int .i64 pl) ∧ W.cell? ⟨w1.heap.size, 2, none⟩ = some (.int .i64 op) ∧ W.cell? ⟨w1.heap.size, 3, none⟩ = some (.int .i64 s) := fun W hf => ⟨gb_cellN hf (hc3.cell 0), gb_cellN hf (hc3.cell 1), gb_cellN hf (hc3.cell 2), gb_cellN hf (hc3.cell 3)⟩
  generalize w1.alloc (.cells #[.pointer (some ⟨ab, 0, none⟩), .int .i64 pl, .int .i64 op, .int .i64 s] 84) = W3 at *
  have h3d : W3.grownBy W3.drew none := gb_drew (gb_refl _ _)
  have hf3 := gb_drew hf2
  go_region_held3 (fun w' => w'.cell? ⟨w1.heap.size, 0, none⟩ = some (.pointer (some ⟨ab, 0, none⟩)) ∧ w'.cell? ⟨w1.heap.size, 1, none⟩ = some (.int .i64 pl) ∧ w'.cell? ⟨w1.heap.size, 2, none⟩ = some (.int .i64 op) ∧ w'.cell? ⟨w1.heap.size, 3, none⟩ = some (.int .i64 s)) ((first | with_reducible exact hCC _ h34 | with_reducible exact hCC _ h3d | go_keep)) ((first | (go_at_call 63; with_reducible refine (hla _).mono ?_; rintro y w' ⟨rfl, rfl⟩) | (go_at_call 58; with_reducible refine (hgt _ hf3).mono ?_; rintro y w4 ⟨rfl, hf4⟩; (have h34 := gb_trans h3d hf4))))
  go_wp2
  go_ret2
  exact ⟨rfl, gb_trans hf3 hf4⟩

set_option maxRecDepth 100000 in
set_option maxHeartbeats 1000000 in
theorem link_to (h : IsS w sb F B b c d e f g A zs) (hA : Fit2 A) {H p k : Nat} (hH : IsH A H p k) (kl : Nat) (hkl : Hid (getL zs (A.place p k + 44) 1 0 0 = kl)) (hk2 : 0 < kl ∧ kl < 256) (j : Nat) (hj : j < 3) {K q l : Nat} (hK : IsH A K q l) (hl : Hid (getL zs (A.place p k + j * 4) 4 0 0 = ((nm K : Nat) : Int))) :
    Calls Tryz.prog 23 #[.pointer (some ⟨sb, 0, none⟩), .int .u64 H, .int .i64 j] w fun y w' => y = .returned (.tuple #[.int .u64 K, .int .i64 0]) ∧ w.grownBy w' none := by
  have hP := pl_of h hA.toFit1 hH.hp hH.hk
  have h64 := hA.lo _ (hA.on p hH.hp)
  have hop := open_yes h hA hH
  have hhi := fun w1 (hf : w.grownBy w1 none) => hasItem_it h hA hH.hp hH.hk kl hkl hk2.2 hf
  rw [show decide (0 < kl) = true by simpa using hk2.1] at hhi
  have hgt := fun w1 (hf : w.grownBy w1 none) => iget_u32 ((h.kept0 hf).ar) (A.place p k) (A.own p) (A.sz (A.own p)) (j * 4) (by have := hP.hb; omega) (hP.th (j * 4) 4 (by omega))
  simp only [hl.out, show ((j * 4 : Nat) : Int) = (j : Int) * 4 by omega] at hgt
  have hil := fun W => isLink_any j hj W
  have hla := fun W => linkAt_any j hj W
  have hn := num_lt hA.toFit1 hK.hp hK.hk
  have hnK : nm K = A.num q l := (hK.parts hA).1
  have hof := fun w1 (hf : w.grownBy w1 none) => of_yes (h.kept0 hf) hA (x := (((nm K : Nat) : Int) - 1) * 8) (p := q) (k := l) ⟨hK.hp, hK.hk, by rw [hnK]; omega⟩ hK.ht
  rw [← hK.hH] at hof
  rw [← hnK] at hn
  have hnb : 1 ≤ nm K ∧ nm K < 4294967296 := ⟨hn.2.1, hn.1⟩
  have hx0 : ¬ nm K = 0 := by omega
  have hx1 : ¬ ((nm K : Nat) : Int) = 0 := by omega
  clear h hH hP hl hkl hK hn hnK
  unfold chV at *
  generalize nm K = x at *
  generalize A.place p k = pl at *
  generalize A.sz (A.own p) = s at *
  generalize A.own p = op at *
  generalize B.ab = ab at *
  go_enter Tryz.func23, Tryz.ntmps23
  go_wp2_with (first | (go_at_call 33; go_must (refine hop.mono ?_); rintro y w1 ⟨rfl, hf1⟩; (have hf2 : w.grownBy (w1.alloc (.cells #[.pointer (some ⟨ab, 0, none⟩), .int .i64 pl, .int .i64 op, .int .i64 s] 84)) none := gb_alloc hf1 _); (have hc3 := Box.new w1 84 #[.pointer (some ⟨ab, 0, none⟩), .int .i64 pl, .int .i64 op, .int .i64 s])) | (go_at_call 62; go_must (refine (hil _).mono ?_); rintro y w' ⟨rfl, rfl⟩) | fail)
  have hCC : ∀ W, (w1.alloc (.cells #[.pointer (some ⟨ab, 0, none⟩), .int .i64 pl, .int .i64 op, .int .i64 s] 84)).grownBy W none → W.cell? ⟨w1.heap.size, 0, none⟩ = some (.pointer (some ⟨ab, 0, none⟩)) ∧ W.cell? ⟨w1.heap.size, 1, none⟩ = some (.int .i64 pl) ∧ W.cell? ⟨w1.heap.size, 2, none⟩ = some (.int .i64 op) ∧ W.cell? ⟨w1.heap.size, 3, none⟩ = some (.int .i64 s) := fun W hf => ⟨gb_cellN hf (hc3.cell 0), gb_cellN hf (hc3.cell 1), gb_cellN hf (hc3.cell 2), gb_cellN hf (hc3.cell 3)⟩
  generalize w1.alloc (.cells #[.pointer (some ⟨ab, 0, none⟩), .int .i64 pl, .int .i64 op, .int .i64 s] 84) = W3 at *
  have h3d : W3.grownBy W3.drew none := gb_drew (gb_refl _ _)
  have hf3 := gb_drew hf2
  go_region_held3 (fun w' => w'.cell? ⟨w1.heap.size, 0, none⟩ = some (.pointer (some ⟨ab, 0, none⟩)) ∧ w'.cell? ⟨w1.heap.size, 1, none⟩ = some (.int .i64 pl) ∧ w'.cell? ⟨w1.heap.size, 2, none⟩ = some (.int .i64 op) ∧ w'.cell? ⟨w1.heap.size, 3, none⟩ = some (.int .i64 s)) ((first | with_reducible exact hCC _ h34 | with_reducible exact hCC _ h3d | go_keep)) ((first | (go_at_call 63; with_reducible refine (hla _).mono ?_; rintro y w' ⟨rfl, rfl⟩) | (go_at_call 58; with_reducible refine (hgt _ hf3).mono ?_; rintro y w4 ⟨rfl, hf4⟩; (have h34 := gb_trans h3d hf4))))
  have hf24 := gb_trans hf3 hf4
  obtain ⟨z0, z1, z2, z3⟩ := hCC _ h34
  go_wp2_with (first | (go_at_call 54; go_must (refine (hhi _ hf24).mono ?_); rintro y w5 ⟨rfl, hf5⟩; (have hf25 := gb_trans hf24 hf5)) | (go_at_call 64; go_must (refine (hof _ hf25).mono ?_); rintro y w6 ⟨rfl, hf6⟩) | fail)
  go_ret2
  exact ⟨rfl, gb_trans hf25 hf6⟩
end
end Go.Proofs.YtoomnhclaofgaaaGreat
