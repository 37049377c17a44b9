import Derived.Test.YtjkdflnnpdionaaGreatZa
/-
  Items: state and links, told and set.
-/
namespace Go.Proofs.YtjkdflnnpdionaaGreat
open Go.RowKit
set_option linter.unusedVariables false

section
variable {w : World} {sb : Nat} {F : Nat → Prop} {B : Bl} {b c d e f g : Int} {A : Ab} {zs : List Int}

set_option maxRecDepth 100000 in
set_option maxHeartbeats 1000000 in
theorem state_yes (h : IsS w sb F B b c d e f g A zs) (hA : Fit2 A) {H p k : Nat} (hH : IsH A H p k) (t : It) (hI : IsI zs (A.place p k) t) :
    Calls Tryz.prog 124 #[.pointer (some ⟨sb, 0, none⟩), .int .u64 H] w fun y w' => y = .returned (.tuple #[.int .i64 t.st, .int .i64 0]) ∧ w.grownBy w' none := by
  have hP := pl_of h hA.toFit1 hH.hp hH.hk
  have h64 := hA.lo _ (hA.on p hH.hp)
  have hop := open_yes h hA hH
  have hhi := fun w1 (hf : w.grownBy w1 none) => hasItem_it h hA hH.hp hH.hk t.key.length hI.kl (by have := hI.k1; omega) hf
  rw [decide_eq_true (show 0 < t.key.length by have := hI.k1; omega)] at hhi
  have hgt := fun w1 (hf : w.grownBy w1 none) => iget_u8 ((h.kept0 hf).ar) (A.place p k) (A.own p) (A.sz (A.own p)) 45 (by have := hP.hb; omega) (hP.th 45 1 (by omega))
  rw [hI.state] at hgt
  simp only [show ((45 : Nat) : Int) = 45 from rfl] at hgt
  have hs := hI.st
  clear h hH hP hI
  generalize t.st = st at *
  have htl : Calls Tryz.prog 178 #[.pointer (some ⟨sb, 0, none⟩), .int .u64 H, .int .i64 45] w fun y w' => y = .returned (.tuple #[.int .u8 st, .int .i64 0]) ∧ w.grownBy w' none := by
    unfold chV at *
    generalize A.place p k = pl at *
    generalize A.sz (A.own p) = s at *
    generalize A.own p = op at *
    generalize B.ab = ab at *
    go_enter Tryz.func178, Tryz.ntmps178
    go_wp2_with (first | (go_at_call 141; go_must (refine hop.mono ?_); rintro y w1 ⟨rfl, hf1⟩; (have hf2 : w.grownBy (w1.alloc (.cells #[.pointer (some ⟨ab, 0, none⟩), .int .i64 pl, .int .i64 op, .int .i64 s] 217)) none := gb_alloc hf1 _); (have hc2 := Box.new w1 217 #[.pointer (some ⟨ab, 0, none⟩), .int .i64 pl, .int .i64 op, .int .i64 s])) | (go_at_call 182; go_must (refine (hhi _ hf2).mono ?_); rintro y w3 ⟨rfl, hf3⟩; (have hc3 := hc2.kept hf3 (by simp)); (have z0 := hc3.cell 0); (have z1 := hc3.cell 1); (have z2 := hc3.cell 2); (have z3 := hc3.cell 3); simp at z0 z1 z2 z3) | (go_at_call 204; go_must (refine (hgt _ (gb_trans hf2 hf3)).mono ?_); rintro y w4 ⟨rfl, hf4⟩) | fail)
    go_ret2
    exact ⟨rfl, gb_trans (gb_trans hf2 hf3) hf4⟩
  go_enter Tryz.func124, Tryz.ntmps124
  go_wp2_with (first | (go_at_call 178; go_must (refine htl.mono ?_); rintro y w1 ⟨rfl, hf1⟩) | fail)
  go_ret2
  exact ⟨rfl, hf1⟩

theorem isLink_any (j : Nat) (hj : j < 3) (w : World) : Calls Tryz.prog 179 #[.int .i64 j] w fun y w' => y = .returned (.bool true) ∧ w = w' := by
  have hj2 : (j : Int) < 3 := by omega
  have hj3 : decide ((j : Int) < 3) = true := decide_eq_true hj2
  go_enter Tryz.func179, Tryz.ntmps179
  go_wp2
  go_ret
  exact ⟨rfl, rfl⟩
theorem linkAt_any (j : Nat) (hj : j < 3) (w : World) : Calls Tryz.prog 181 #[.int .i64 j] w fun y w' => y = .returned (.int .i64 ((j : Int) * 4)) ∧ w = w' := by
  go_enter Tryz.func181, Tryz.ntmps181
  go_wp2
  go_ret
  exact ⟨rfl, rfl⟩

/-- SetLink to none, or to a good handle. -/
theorem setLink_kit (h : IsS w sb F B b c d e f g A zs) (hA : Fit2 A) {H p k : Nat} (hH : IsH A H p k) (kl : Nat) (hkl : Hid (getL zs (A.place p k + 44) 1 0 0 = kl)) (hk2 : 0 < kl ∧ kl < 256) (j : Nat) (hj : j < 3) (v : Nat) (hv : v < 4294967296) :
    (∀ w1, w.grownBy w1 none → Calls Tryz.prog 147 #[chV B.ab (A.place p k) (A.own p) (A.sz (A.own p)), .int .i64 ((j : Int) * 4), .int .u32 v] w1 fun y w' => y = .returned (.tuple #[]) ∧ w1.grownBy w' (some B.ag) ∧ Hid (Kp F w w' ∧ IsS w' sb F B b c d e f g A (lay zs (A.place p k + j * 4) (be 4 v)))) := by
  intro w1 hf
  have hP := pl_of h hA.toFit1 hH.hp hH.hk
  have h64 := hA.lo _ (hA.on p hH.hp)
  have := (iput_u32 ((h.kept0 hf).ar) (A.place p k) (A.own p) (A.sz (A.own p)) (j * 4) v (by omega) (by have := hP.hb; omega) (hP.th (j * 4) 4 (by omega))).mono (R' := fun y w' => y = .returned (.tuple #[]) ∧ w1.grownBy w' (some B.ag) ∧ Hid (Kp F w w' ∧ IsS w' sb F B b c d e f g A (lay zs (A.place p k + j * 4) (be 4 v)))) (by
    rintro y w' ⟨rfl, hg, hA'⟩
    obtain ⟨h1, h2⟩ := (h.kept0 hf).bytes hg hA'
    exact ⟨rfl, hg, ((Kp.of (F := F) hf).trans h2 (fun _ h => h) (fun i hi => .inl hi)), h1⟩)
  rw [show ((j * 4 : Nat) : Int) = (j : Int) * 4 by omega] at this
  exact this

set_option maxRecDepth 100000 in
set_option maxHeartbeats 1000000 in
theorem setLink_zero (h : IsS w sb F B b c d e f g A zs) (hA : Fit2 A) {H p k : Nat} (hH : IsH A H p k) (kl : Nat) (hkl : Hid (getL zs (A.place p k + 44) 1 0 0 = kl)) (hk2 : 0 < kl ∧ kl < 256) (j : Nat) (hj : j < 3) :
    Calls Tryz.prog 154 #[.pointer (some ⟨sb, 0, none⟩), .int .u64 H, .int .i64 j, .int .u64 0] w fun y w' => y = .returned (.int .i64 0) ∧ Kp F w w' ∧ IsS w' sb F B b c d e f g A (lay zs (A.place p k + j * 4) (be 4 0)) := by
  have hop := openItem_yes h hA hH kl hkl hk2
  have hpt := setLink_kit h hA hH kl hkl hk2 j hj 0 (by omega)
  have hag : B.ag < w.heap.size := h.lt _ h.fa.2
  have hil := fun W => isLink_any j hj W
  have hw0 : IntKind.u32.wrap 0 = 0 := by decide
  have hla := fun W => linkAt_any j hj W
  clear h hH hkl
  unfold chV at *
  generalize A.place p k = pl at *
  generalize A.sz (A.own p) = s at *
  generalize A.own p = op at *
  have hab : ∃ ab, ab = B.ab := ⟨_, rfl⟩
  obtain ⟨ab, hab⟩ := hab
  rw [← hab] at hop hpt
  clear hab
  obtain ⟨ag, hag2⟩ : ∃ ag, ag = B.ag := ⟨_, rfl⟩
  rw [← hag2] at hag hpt
  clear hag2
  simp only [show ((0 : Nat) : Int) = 0 from rfl] at hpt
  generalize lay zs (pl + j * 4) (be 4 0) = us at *
  go_enter Tryz.func154, Tryz.ntmps154
  go_wp2_with (first | (go_at_call 198; go_must (refine hop.mono ?_); rintro y w1 ⟨rfl, hf1⟩; (have hf2 : w.grownBy (w1.alloc (.cells #[.pointer (some ⟨ab, 0, none⟩), .int .i64 pl, .int .i64 op, .int .i64 s] 217)) none := gb_alloc hf1 _); (have hc3 := Box.new w1 217 #[.pointer (some ⟨ab, 0, none⟩), .int .i64 pl, .int .i64 op, .int .i64 s]); skip) | (go_at_call 179; go_must (refine (hil _).mono ?_); rintro y w' ⟨rfl, rfl⟩) | fail)
  have hCC : ∀ W, (w1.alloc (.cells #[.pointer (some ⟨ab, 0, none⟩), .int .i64 pl, .int .i64 op, .int .i64 s] 217)).grownBy W none → W.cell? ⟨w1.heap.size, 0, none⟩ = some (.pointer (some ⟨ab, 0, none⟩)) ∧ W.cell? ⟨w1.heap.size, 1, none⟩ = some (.int .i64 pl) ∧ W.cell? ⟨w1.heap.size, 2, none⟩ = some (.int .i64 op) ∧ W.cell? ⟨w1.heap.size, 3, none⟩ = some (.int .i64 s) := fun W hf => ⟨gb_cellN hf (hc3.cell 0), gb_cellN hf (hc3.cell 1), gb_cellN hf (hc3.cell 2), gb_cellN hf (hc3.cell 3)⟩
  generalize w1.alloc (.cells #[.pointer (some ⟨ab, 0, none⟩), .int .i64 pl, .int .i64 op, .int .i64 s] 217) = W3 at *
  have h3d : W3.grownBy W3.drew none := gb_drew (gb_refl _ _)
  have hf3 := gb_drew hf2
  have hs1 := hf1.size
  have hCD : ∀ W, W3.drew.grownBy W (some ag) → W.cell? ⟨w1.heap.size, 0, none⟩ = some (.pointer (some ⟨ab, 0, none⟩)) ∧ W.cell? ⟨w1.heap.size, 1, none⟩ = some (.int .i64 pl) ∧ W.cell? ⟨w1.heap.size, 2, none⟩ = some (.int .i64 op) ∧ W.cell? ⟨w1.heap.size, 3, none⟩ = some (.int .i64 s) := fun W hf => by
    obtain ⟨d0, d1, d2, d3⟩ := hCC _ h3d
    have hne : some w1.heap.size ≠ some ag := by simp; omega
    exact ⟨gb_cell hf d0 hne, gb_cell hf d1 hne, gb_cell hf d2 hne, gb_cell hf d3 hne⟩
  go_region_held3 (fun w' => w'.cell? ⟨w1.heap.size, 0, none⟩ = some (.pointer (some ⟨ab, 0, none⟩)) ∧ w'.cell? ⟨w1.heap.size, 1, none⟩ = some (.int .i64 pl) ∧ w'.cell? ⟨w1.heap.size, 2, none⟩ = some (.int .i64 op) ∧ w'.cell? ⟨w1.heap.size, 3, none⟩ = some (.int .i64 s)) ((first | with_reducible exact hCD _ hg4 | with_reducible exact hCC _ h3d | go_keep)) ((first | (go_at_call 181; with_reducible refine (hla _).mono ?_; rintro y w' ⟨rfl, rfl⟩) | (go_at_call 147; with_reducible refine (hpt _ hf3).mono ?_; rintro y w4 ⟨rfl, hg4, hE⟩)))
  go_wp2
  go_ret
  exact ⟨rfl, hE.out⟩

set_option maxRecDepth 100000 in
set_option maxHeartbeats 1000000 in
theorem setLink_to (h : IsS w sb F B b c d e f g A zs) (hA : Fit2 A) {H p k : Nat} (hH : IsH A H p k) (kl : Nat) (hkl : Hid (getL zs (A.place p k + 44) 1 0 0 = kl)) (hk2 : 0 < kl ∧ kl < 256) (j : Nat) (hj : j < 3) {K q l : Nat} (hK : IsH A K q l) :
    Calls Tryz.prog 154 #[.pointer (some ⟨sb, 0, none⟩), .int .u64 H, .int .i64 j, .int .u64 K] w fun y w' => y = .returned (.int .i64 0) ∧ Kp F w w' ∧ IsS w' sb F B b c d e f g A (lay zs (A.place p k + j * 4) (be 4 ((nm K : Nat) : Int))) := by
  have hop := openItem_yes h hA hH kl hkl hk2
  have hKp := hK.parts hA
  have hn1 := num_lt hA.toFit1 hK.hp hK.hk
  have hv : nm K < 4294967296 := by unfold nm; omega
  have hpt := setLink_kit h hA hH kl hkl hk2 j hj (nm K) hv
  have hag : B.ag < w.heap.size := h.lt _ h.fa.2
  have hil := fun W => isLink_any j hj W
  have hw0 : IntKind.u32.wrap (K : Int) = ((nm K : Nat) : Int) := by
    unfold nm
    simp [IntKind.wrap, IntKind.signed, IntKind.bits]
  have hK0 : ¬ K = 0 := by omega
  have hKz : ¬ (K : Int) = 0 := by omega
  have hat := fun w1 (hf : w.grownBy w1 none) => at_yes (h.kept0 hf) hA hK
  have hla := fun W => linkAt_any j hj W
  clear h hH hkl hK hKp hn1
  unfold chV at *
  generalize A.place p k = pl at *
  generalize A.sz (A.own p) = s at *
  generalize A.own p = op at *
  generalize A.place q l = pl2 at *
  generalize A.own q = op2 at *
  have hab : ∃ ab, ab = B.ab := ⟨_, rfl⟩
  obtain ⟨ab, hab⟩ := hab
  rw [← hab] at hop hpt
  clear hab
  obtain ⟨ag, hag2⟩ : ∃ ag, ag = B.ag := ⟨_, rfl⟩
  rw [← hag2] at hag hpt
  clear hag2
  generalize lay zs (pl + j * 4) (be 4 ((nm K : Nat) : Int)) = us at *
  generalize nm K = nK at *
  go_enter Tryz.func154, Tryz.ntmps154
  go_wp2_with (first | (go_at_call 198; go_must (refine hop.mono ?_); rintro y w1 ⟨rfl, hf1⟩; (have hf2 : w.grownBy (w1.alloc (.cells #[.pointer (some ⟨ab, 0, none⟩), .int .i64 pl, .int .i64 op, .int .i64 s] 217)) none := gb_alloc hf1 _); (have hc3 := Box.new w1 217 #[.pointer (some ⟨ab, 0, none⟩), .int .i64 pl, .int .i64 op, .int .i64 s]); skip) | (go_at_call 179; go_must (refine (hil _).mono ?_); rintro y w' ⟨rfl, rfl⟩) | (go_at_call 82; go_must (refine (hat _ hf2).mono ?_); rintro y w2 ⟨rfl, hf22⟩) | fail)
  have hc4 := hc3.kept hf22 (by simp)
  have hCC : ∀ W, w2.grownBy W none → W.cell? ⟨w1.heap.size, 0, none⟩ = some (.pointer (some ⟨ab, 0, none⟩)) ∧ W.cell? ⟨w1.heap.size, 1, none⟩ = some (.int .i64 pl) ∧ W.cell? ⟨w1.heap.size, 2, none⟩ = some (.int .i64 op) ∧ W.cell? ⟨w1.heap.size, 3, none⟩ = some (.int .i64 s) := fun W hf => ⟨gb_cellN hf (hc4.cell 0), gb_cellN hf (hc4.cell 1), gb_cellN hf (hc4.cell 2), gb_cellN hf (hc4.cell 3)⟩
  have h3d : w2.grownBy w2.drew none := gb_drew (gb_refl _ _)
  have hf3 := gb_drew (gb_trans hf2 hf22)
  have hs1 := hf1.size
  clear hc3 hc4
  have hCD : ∀ W, w2.drew.grownBy W (some ag) → W.cell? ⟨w1.heap.size, 0, none⟩ = some (.pointer (some ⟨ab, 0, none⟩)) ∧ W.cell? ⟨w1.heap.size, 1, none⟩ = some (.int .i64 pl) ∧ W.cell? ⟨w1.heap.size, 2, none⟩ = some (.int .i64 op) ∧ W.cell? ⟨w1.heap.size, 3, none⟩ = some (.int .i64 s) := fun W hf => by
    obtain ⟨d0, d1, d2, d3⟩ := hCC _ h3d
    have hne : some w1.heap.size ≠ some ag := by simp; omega
    exact ⟨gb_cell hf d0 hne, gb_cell hf d1 hne, gb_cell hf d2 hne, gb_cell hf d3 hne⟩
  go_region_held3 (fun w' => w'.cell? ⟨w1.heap.size, 0, none⟩ = some (.pointer (some ⟨ab, 0, none⟩)) ∧ w'.cell? ⟨w1.heap.size, 1, none⟩ = some (.int .i64 pl) ∧ w'.cell? ⟨w1.heap.size, 2, none⟩ = some (.int .i64 op) ∧ w'.cell? ⟨w1.heap.size, 3, none⟩ = some (.int .i64 s)) ((first | with_reducible exact hCD _ hg4 | with_reducible exact hCC _ h3d | go_keep)) ((first | (go_at_call 181; with_reducible refine (hla _).mono ?_; rintro y w' ⟨rfl, rfl⟩) | (go_at_call 147; with_reducible refine (hpt _ hf3).mono ?_; rintro y w4 ⟨rfl, hg4, hE⟩)))
  go_wp2
  go_ret
  exact ⟨rfl, hE.out⟩
end
end Go.Proofs.YtjkdflnnpdionaaGreat
/-
  Items: SetState, Link.
-/
namespace Go.Proofs.YtjkdflnnpdionaaGreat
open Go.RowKit
set_option linter.unusedVariables false

section
variable {w : World} {sb : Nat} {F : Nat → Prop} {B : Bl} {b c d e f g : Int} {A : Ab} {zs : List Int}

set_option maxRecDepth 100000 in
set_option maxHeartbeats 1000000 in
theorem setState_yes (h : IsS w sb F B b c d e f g A zs) (hA : Fit2 A) {H p k : Nat} (hH : IsH A H p k) (kl : Nat) (hkl : Hid (getL zs (A.place p k + 44) 1 0 0 = kl)) (hk2 : 0 < kl ∧ kl < 256) (n : Nat) (h1 : 1 ≤ n) (h2 : n ≤ 4) :
    Calls Tryz.prog 153 #[.pointer (some ⟨sb, 0, none⟩), .int .u64 H, .int .i64 n] w fun y w' => y = .returned (.int .i64 0) ∧ Kp F w w' ∧ IsS w' sb F B b c d e f g A (lay zs (A.place p k + 45) (be 1 n)) := by
  have hP := pl_of h hA.toFit1 hH.hp hH.hk
  have h64 := hA.lo _ (hA.on p hH.hp)
  have hop := openItem_yes h hA hH kl hkl hk2
  have hpt := fun w1 (hf : w.grownBy w1 none) => (iput_u8 ((h.kept0 hf).ar) (A.place p k) (A.own p) (A.sz (A.own p)) 45 n (by omega) (by have := hP.hb; omega) (hP.th 45 1 (by omega))).mono (R' := fun y w' => y = .returned (.tuple #[]) ∧ Hid (Kp F w w' ∧ IsS w' sb F B b c d e f g A (lay zs (A.place p k + 45) (be 1 n)))) (by
    rintro y w' ⟨rfl, hg, hA'⟩
    obtain ⟨h1, h2⟩ := (h.kept0 hf).bytes hg hA'
    exact ⟨rfl, ((Kp.of (F := F) hf).trans h2 (fun _ h => h) (fun i hi => .inl hi)), h1⟩)
  simp only [show ((45 : Nat) : Int) = 45 from rfl] at hpt
  have his := fun W => isState_yes (n : Int) (by omega) W
  clear h hH hkl hP
  have hst : Calls Tryz.prog 197 #[.pointer (some ⟨sb, 0, none⟩), .int .u64 H, .int .i64 45, .int .u8 n, .bool true] w fun y w' => y = .returned (.int .i64 0) ∧ Hid (Kp F w w' ∧ IsS w' sb F B b c d e f g A (lay zs (A.place p k + 45) (be 1 n))) := by
    generalize lay zs (A.place p k + 45) (be 1 n) = us at *
    unfold chV at *
    generalize A.place p k = pl at *
    generalize A.sz (A.own p) = s at *
    generalize A.own p = op at *
    have hab : ∃ ab, ab = B.ab := ⟨_, rfl⟩
    obtain ⟨ab, hab⟩ := hab
    rw [← hab] at hop hpt
    clear hab
    go_enter Tryz.func197, Tryz.ntmps197
    go_wp2_with (first | (go_at_call 198; go_must (refine hop.mono ?_); rintro y w1 ⟨rfl, hf1⟩; (have hf2 : w.grownBy (w1.alloc (.cells #[.pointer (some ⟨ab, 0, none⟩), .int .i64 pl, .int .i64 op, .int .i64 s] 217)) none := gb_alloc hf1 _)) | (go_at_call 148; go_must (refine (hpt _ hf2).mono ?_); rintro y w4 ⟨rfl, hE⟩) | fail)
    go_ret
    exact ⟨rfl, hE⟩
  generalize lay zs (A.place p k + 45) (be 1 n) = us at *
  clear hop hpt
  go_enter Tryz.func153, Tryz.ntmps153
  go_wp2_with (first | (go_at_call 186; go_must (refine (his _).mono ?_); rintro y w' ⟨rfl, rfl⟩) | (go_at_call 197; go_must (with_reducible refine hst.mono ?_); rintro y w1 ⟨rfl, hE⟩) | fail)
  go_ret
  exact ⟨rfl, hE.out⟩

set_option maxRecDepth 100000 in
set_option maxHeartbeats 1000000 in
theorem link_none (h : IsS w sb F B b c d e f g A zs) (hA : Fit2 A) {H p k : Nat} (hH : IsH A H p k) (j : Nat) (hj : j < 3) (hl : Hid (getL zs (A.place p k + j * 4) 4 0 0 = 0)) :
    Calls Tryz.prog 125 #[.pointer (some ⟨sb, 0, none⟩), .int .u64 H, .int .i64 j] w fun y w' => y = .returned (.tuple #[.int .u64 0, .int .i64 0]) ∧ w.grownBy w' none := by
  have hP := pl_of h hA.toFit1 hH.hp hH.hk
  have h64 := hA.lo _ (hA.on p hH.hp)
  have hop := open_yes h hA hH
  have hgt := fun w1 (hf : w.grownBy w1 none) => iget_u32 ((h.kept0 hf).ar) (A.place p k) (A.own p) (A.sz (A.own p)) (j * 4) (by have := hP.hb; omega) (hP.th (j * 4) 4 (by omega))
  simp only [hl.out, show ((j * 4 : Nat) : Int) = (j : Int) * 4 by omega] at hgt
  have hil := fun W => isLink_any j hj W
  have hla := fun W => linkAt_any j hj W
  clear h hH hP hl
  unfold chV at *
  generalize A.place p k = pl at *
  generalize A.sz (A.own p) = s at *
  generalize A.own p = op at *
  generalize B.ab = ab at *
  go_enter Tryz.func125, Tryz.ntmps125
  go_wp2_with (first | (go_at_call 141; go_must (refine hop.mono ?_); rintro y w1 ⟨rfl, hf1⟩; (have hf2 : w.grownBy (w1.alloc (.cells #[.pointer (some ⟨ab, 0, none⟩), .int .i64 pl, .int .i64 op, .int .i64 s] 217)) none := gb_alloc hf1 _); (have hc3 := Box.new w1 217 #[.pointer (some ⟨ab, 0, none⟩), .int .i64 pl, .int .i64 op, .int .i64 s])) | (go_at_call 179; go_must (refine (hil _).mono ?_); rintro y w' ⟨rfl, rfl⟩) | fail)
  have hCC : ∀ W, (w1.alloc (.cells #[.pointer (some ⟨ab, 0, none⟩), .int .i64 pl, .int .i64 op, .int .i64 s] 217)).grownBy W none → W.cell? ⟨w1.heap.size, 0, none⟩ = some (.pointer (some ⟨ab, 0, none⟩)) ∧ W.cell? ⟨w1.heap.size, 1, none⟩ = some (.int .i64 pl) ∧ W.cell? ⟨w1.heap.size, 2, none⟩ = some (.int .i64 op) ∧ W.cell? ⟨w1.heap.size, 3, none⟩ = some (.int .i64 s) := fun W hf => ⟨gb_cellN hf (hc3.cell 0), gb_cellN hf (hc3.cell 1), gb_cellN hf (hc3.cell 2), gb_cellN hf (hc3.cell 3)⟩
  generalize w1.alloc (.cells #[.pointer (some ⟨ab, 0, none⟩), .int .i64 pl, .int .i64 op, .int .i64 s] 217) = W3 at *
  have h3d : W3.grownBy W3.drew none := gb_drew (gb_refl _ _)
  have hf3 := gb_drew hf2
  go_region_held3 (fun w' => w'.cell? ⟨w1.heap.size, 0, none⟩ = some (.pointer (some ⟨ab, 0, none⟩)) ∧ w'.cell? ⟨w1.heap.size, 1, none⟩ = some (.int .i64 pl) ∧ w'.cell? ⟨w1.heap.size, 2, none⟩ = some (.int .i64 op) ∧ w'.cell? ⟨w1.heap.size, 3, none⟩ = some (.int .i64 s)) ((first | with_reducible exact hCC _ h34 | with_reducible exact hCC _ h3d | go_keep)) ((first | (go_at_call 181; with_reducible refine (hla _).mono ?_; rintro y w' ⟨rfl, rfl⟩) | (go_at_call 180; with_reducible refine (hgt _ hf3).mono ?_; rintro y w4 ⟨rfl, hf4⟩; (have h34 := gb_trans h3d hf4))))
  go_wp2
  go_ret2
  exact ⟨rfl, gb_trans hf3 hf4⟩

set_option maxRecDepth 100000 in
set_option maxHeartbeats 1000000 in
theorem link_to (h : IsS w sb F B b c d e f g A zs) (hA : Fit2 A) {H p k : Nat} (hH : IsH A H p k) (kl : Nat) (hkl : Hid (getL zs (A.place p k + 44) 1 0 0 = kl)) (hk2 : 0 < kl ∧ kl < 256) (j : Nat) (hj : j < 3) {K q l : Nat} (hK : IsH A K q l) (hl : Hid (getL zs (A.place p k + j * 4) 4 0 0 = ((nm K : Nat) : Int))) :
    Calls Tryz.prog 125 #[.pointer (some ⟨sb, 0, none⟩), .int .u64 H, .int .i64 j] w fun y w' => y = .returned (.tuple #[.int .u64 K, .int .i64 0]) ∧ w.grownBy w' none := by
  have hP := pl_of h hA.toFit1 hH.hp hH.hk
  have h64 := hA.lo _ (hA.on p hH.hp)
  have hop := open_yes h hA hH
  have hhi := fun w1 (hf : w.grownBy w1 none) => hasItem_it h hA hH.hp hH.hk kl hkl hk2.2 hf
  rw [show decide (0 < kl) = true by simpa using hk2.1] at hhi
  have hgt := fun w1 (hf : w.grownBy w1 none) => iget_u32 ((h.kept0 hf).ar) (A.place p k) (A.own p) (A.sz (A.own p)) (j * 4) (by have := hP.hb; omega) (hP.th (j * 4) 4 (by omega))
  simp only [hl.out, show ((j * 4 : Nat) : Int) = (j : Int) * 4 by omega] at hgt
  have hil := fun W => isLink_any j hj W
  have hla := fun W => linkAt_any j hj W
  have hn := num_lt hA.toFit1 hK.hp hK.hk
  have hnK : nm K = A.num q l := (hK.parts hA).1
  have hof := fun w1 (hf : w.grownBy w1 none) => of_yes (h.kept0 hf) hA (x := (((nm K : Nat) : Int) - 1) * 8) (p := q) (k := l) ⟨hK.hp, hK.hk, by rw [hnK]; omega⟩ hK.ht
  rw [← hK.hH] at hof
  rw [← hnK] at hn
  have hnb : 1 ≤ nm K ∧ nm K < 4294967296 := ⟨hn.2.1, hn.1⟩
  have hx0 : ¬ nm K = 0 := by omega
  have hx1 : ¬ ((nm K : Nat) : Int) = 0 := by omega
  clear h hH hP hl hkl hK hn hnK
  unfold chV at *
  generalize nm K = x at *
  generalize A.place p k = pl at *
  generalize A.sz (A.own p) = s at *
  generalize A.own p = op at *
  generalize B.ab = ab at *
  go_enter Tryz.func125, Tryz.ntmps125
  go_wp2_with (first | (go_at_call 141; go_must (refine hop.mono ?_); rintro y w1 ⟨rfl, hf1⟩; (have hf2 : w.grownBy (w1.alloc (.cells #[.pointer (some ⟨ab, 0, none⟩), .int .i64 pl, .int .i64 op, .int .i64 s] 217)) none := gb_alloc hf1 _); (have hc3 := Box.new w1 217 #[.pointer (some ⟨ab, 0, none⟩), .int .i64 pl, .int .i64 op, .int .i64 s])) | (go_at_call 179; go_must (refine (hil _).mono ?_); rintro y w' ⟨rfl, rfl⟩) | fail)
  have hCC : ∀ W, (w1.alloc (.cells #[.pointer (some ⟨ab, 0, none⟩), .int .i64 pl, .int .i64 op, .int .i64 s] 217)).grownBy W none → W.cell? ⟨w1.heap.size, 0, none⟩ = some (.pointer (some ⟨ab, 0, none⟩)) ∧ W.cell? ⟨w1.heap.size, 1, none⟩ = some (.int .i64 pl) ∧ W.cell? ⟨w1.heap.size, 2, none⟩ = some (.int .i64 op) ∧ W.cell? ⟨w1.heap.size, 3, none⟩ = some (.int .i64 s) := fun W hf => ⟨gb_cellN hf (hc3.cell 0), gb_cellN hf (hc3.cell 1), gb_cellN hf (hc3.cell 2), gb_cellN hf (hc3.cell 3)⟩
  generalize w1.alloc (.cells #[.pointer (some ⟨ab, 0, none⟩), .int .i64 pl, .int .i64 op, .int .i64 s] 217) = W3 at *
  have h3d : W3.grownBy W3.drew none := gb_drew (gb_refl _ _)
  have hf3 := gb_drew hf2
  go_region_held3 (fun w' => w'.cell? ⟨w1.heap.size, 0, none⟩ = some (.pointer (some ⟨ab, 0, none⟩)) ∧ w'.cell? ⟨w1.heap.size, 1, none⟩ = some (.int .i64 pl) ∧ w'.cell? ⟨w1.heap.size, 2, none⟩ = some (.int .i64 op) ∧ w'.cell? ⟨w1.heap.size, 3, none⟩ = some (.int .i64 s)) ((first | with_reducible exact hCC _ h34 | with_reducible exact hCC _ h3d | go_keep)) ((first | (go_at_call 181; with_reducible refine (hla _).mono ?_; rintro y w' ⟨rfl, rfl⟩) | (go_at_call 180; with_reducible refine (hgt _ hf3).mono ?_; rintro y w4 ⟨rfl, hf4⟩; (have h34 := gb_trans h3d hf4))))
  have hf24 := gb_trans hf3 hf4
  obtain ⟨z0, z1, z2, z3⟩ := hCC _ h34
  go_wp2_with (first | (go_at_call 182; go_must (refine (hhi _ hf24).mono ?_); rintro y w5 ⟨rfl, hf5⟩; (have hf25 := gb_trans hf24 hf5)) | (go_at_call 183; go_must (refine (hof _ hf25).mono ?_); rintro y w6 ⟨rfl, hf6⟩) | fail)
  go_ret2
  exact ⟨rfl, gb_trans hf25 hf6⟩
end
end Go.Proofs.YtjkdflnnpdionaaGreat
/-
  A queue in memory.
-/
namespace Go.Proofs.YtjkdflnnpdionaaGreat
open Go.RowKit
set_option linter.unusedVariables false

/-- Head, tail, length of the list of a class and a kind (0 to 2). -/
structure Ls where
  hd : Nat → Nat → Nat
  tl : Nat → Nat → Nat
  ln : Nat → Nat → Nat
def lC (L : Ls) (c k : Nat) : List Value := [.int .u64 (L.hd c k), .int .u64 (L.tl c k), .int .i64 (L.ln c k)]
theorem lC_len (L : Ls) (c k : Nat) : (lC L c k).length = 3 := rfl
def lsC (L : Ls) (c : Nat) : List Value := rng 3 (lC L c)
theorem lsC_len (L : Ls) (c : Nat) : (lsC L c).length = 9 := by unfold lsC; rw [rng_len (lC_len L c)]

/-- An item, with its links and its state as handles and a number. -/
def itm (bs : Nat → It) (p n s : Nat → Nat) (H : Nat) : It := { bs H with l1 := ((nm (p H) : Nat) : Int), l2 := ((nm (n H) : Nat) : Int), st := ((s H : Nat) : Int) }
theorem itm_key (bs : Nat → It) (p n s : Nat → Nat) (H : Nat) : (itm bs p n s H).key = (bs H).key ∧ (itm bs p n s H).val = (bs H).val := ⟨rfl, rfl⟩
theorem itm_congr {bs : Nat → It} {p n s p' n' s' : Nat → Nat} {H : Nat} (h1 : p' H = p H) (h2 : n' H = n H) (h3 : s' H = s H) : itm bs p' n' s' H = itm bs p n s H := by unfold itm; rw [h1, h2, h3]

structure QM (w : World) (sb qb gl gc : Nat) (F : Nat → Prop) (B : Bl) (b c d e f g : Int) (A : Ab) (zs : List Int) (T : List Nat) (bs : Nat → It) (p n s : Nat → Nat) (L : Ls) : Prop where
  iss : IsS w sb F B b c d e f g A zs
  inv : Inv A
  box : Box w 118 qb #[.pointer (some ⟨sb, 0, none⟩), .slice (some ⟨gl, 0, none⟩) A.n gc]
  row : w.ownsRow 0 260 9 (.slice (some ⟨gl, 0, none⟩) A.n gc) A.n (rng A.n (lsC L))
  nq : ¬ F qb
  ng : ¬ F gl
  its : ∀ H, H ∈ T → ∃ x k, IsH A H x k ∧ IsI zs (A.place x k) (itm bs p n s H) ∧ 58 + (bs H).key.length + (bs H).val.length ≤ A.sz (A.own x)
  lk : ∀ H, H ∈ T → (p H = 0 ∨ p H ∈ T) ∧ (n H = 0 ∨ n H ∈ T)

section
variable {w : World} {sb qb gl gc : Nat} {F : Nat → Prop} {B : Bl} {b c d e f g : Int} {A : Ab} {zs : List Int} {T : List Nat} {bs : Nat → It} {p n s : Nat → Nat} {L : Ls}
theorem QM.qne (h : QM w sb qb gl gc F B b c d e f g A zs T bs p n s L) : qb ≠ gl := by
  intro e1
  obtain ⟨cur, hc⟩ := row_block h.row gl rfl
  exact ne_of_type h.box hc (by decide) e1
theorem QM.kept {w' : World} {G : Nat → Prop} (h : QM w sb qb gl gc F B b c d e f g A zs T bs p n s L) (hK : Kp G w w') (h1 : ∀ k, F k → ¬ G k) (h2 : ¬ G qb) (h3 : ¬ G gl) : QM w' sb qb gl gc F B b c d e f g A zs T bs p n s L := by
  refine ⟨h.iss.kept hK h1, h.inv, hK.box h.box h2, row_same h.row (fun k hk => ?_), h.nq, h.ng, h.its, h.lk⟩
  simp [Value.ownBlock] at hk
  subst hk
  obtain ⟨cur, hc⟩ := row_block h.row gl rfl
  exact hK.block _ (lt_of_block hc) h3
theorem QM.kept0 {w' : World} (h : QM w sb qb gl gc F B b c d e f g A zs T bs p n s L) (hf : w.grownBy w' none) : QM w' sb qb gl gc F B b c d e f g A zs T bs p n s L :=
  ⟨h.iss.kept0 hf, h.inv, h.box.kept hf (by simp), row_kept h.row hf (by simp), h.nq, h.ng, h.its, h.lk⟩
theorem QM.nz (h : QM w sb qb gl gc F B b c d e f g A zs T bs p n s L) {H : Nat} (hH : H ∈ T) : ¬ H = 0 := by
  obtain ⟨x, k, h1, _⟩ := h.its H hH
  have h2 := (h1.parts h.inv.fit).1
  have h3 := (num_lt h.inv.fit.toFit1 h1.hp h1.hk).2.1
  omega
theorem QM.h64 (h : QM w sb qb gl gc F B b c d e f g A zs T bs p n s L) {H : Nat} (hH : H ∈ T) : H < 18446744073709551616 := by
  obtain ⟨x, k, h1, _⟩ := h.its H hH
  exact (h1.parts h.inv.fit).2.2

/-- An item's bytes are turned. -/
theorem QM.turn (h : QM w sb qb gl gc F B b c d e f g A zs T bs p n s L) {H x k off : Nat} {ys : List Int} {w' : World} (hH : H ∈ T) (hX : IsH A H x k) (hoff : off + ys.length ≤ 58)
    (hS : IsS w' sb F B b c d e f g A (lay zs (A.place x k + off) ys)) (hK : Kp F w w') (p' n' s' : Nat → Nat) (he : ∀ G, G ≠ H → p' G = p G ∧ n' G = n G ∧ s' G = s G)
    (hI : IsI zs (A.place x k) (itm bs p n s H) → IsI (lay zs (A.place x k + off) ys) (A.place x k) (itm bs p' n' s' H)) (hlk : (p' H = 0 ∨ p' H ∈ T) ∧ (n' H = 0 ∨ n' H ∈ T)) :
    QM w' sb qb gl gc F B b c d e f g A (lay zs (A.place x k + off) ys) T bs p' n' s' L := by
  have hA := h.inv.fit
  have hP := pl_of h.iss hA.toFit1 hX.hp hX.hk
  obtain ⟨x1, k1, hX1, hI1, hs1⟩ := h.its H hH
  have hxk : x1 = x ∧ k1 = k := by
    have e1 := (hX1.parts hA).1
    have e2 := (hX.parts hA).1
    exact num_inj hA.toFit1 hX1.hp hX1.hk hX.hp hX.hk (by omega)
  obtain ⟨rfl, rfl⟩ := hxk
  have hle := hI1.lies.le
  rw [It.len] at hle
  have hkk := itm_key bs p n s H
  rw [hkk.1, hkk.2] at hle
  refine ⟨hS, h.inv, hK.box h.box h.nq, row_same h.row (fun k hk => ?_), h.nq, h.ng, fun G hG => ?_, fun G hG => ?_⟩
  · simp [Value.ownBlock] at hk
    subst hk
    obtain ⟨cur, hc⟩ := row_block h.row gl rfl
    exact hK.block _ (lt_of_block hc) h.ng
  · by_cases e1 : G = H
    · subst e1
      exact ⟨x1, k1, hX1, hI hI1, hs1⟩
    · obtain ⟨x2, k2, hX2, hI2, hs2⟩ := h.its G hG
      obtain ⟨a1, a2, a3⟩ := he G e1
      refine ⟨x2, k2, hX2, ?_, hs2⟩
      rw [itm_congr a1 a2 a3]
      have hne : ¬ (x2 = x1 ∧ k2 = k1) := by
        rintro ⟨rfl, rfl⟩
        exact e1 (by rw [hX2.hH, hX1.hH])
      have hap := place_apart hA.toFit1 hX2.hp hX2.hk hX1.hp hX1.hk hne
      have hk2 := itm_key bs p n s G
      refine hI2.far ?_ ?_
      · omega
      · rw [hk2.1, hk2.2]; omega
  · by_cases e1 : G = H
    · subst e1; exact hlk
    · obtain ⟨a1, a2, a3⟩ := he G e1
      rw [a1, a2]; exact h.lk G hG

/-- A cell of a list is turned. -/
theorem QM.setL (h : QM w sb qb gl gc F B b c d e f g A zs T bs p n s L) {ci k j : Nat} (hc : ci < A.n) (hk : k < 3) (hj : j < 3) (v : Value) (L' : Ls) (h1 : lC L' ci k = (lC L ci k).set j v) (h2 : ∀ c2 k2, ¬ (c2 = ci ∧ k2 = k) → lC L' c2 k2 = lC L c2 k2) :
    QM (w.setCell ⟨gl, ci * 9 + (k * 3 + j), none⟩ v) sb qb gl gc F B b c d e f g A zs T bs p n s L' ∧ Kp (fun x => x = gl) w (w.setCell ⟨gl, ci * 9 + (k * 3 + j), none⟩ v) := by
  have hg : w.grownBy (w.setCell ⟨gl, ci * 9 + (k * 3 + j), none⟩ v) (some gl) := gb_setCell (gb_refl _ _) _
  have hK : Kp (fun x => x = gl) w (w.setCell ⟨gl, ci * 9 + (k * 3 + j), none⟩ v) := (Kp.refl _ _).step hg (fun i hi => .inl (by simpa using hi.symm))
  refine ⟨⟨h.iss.kept hK (fun k hk e1 => h.ng (e1 ▸ hk)), h.inv, hK.box h.box h.qne, ?_, h.nq, h.ng, h.its, h.lk⟩, hK⟩
  have hr := row_set h.row (ci * 9 + (k * 3 + j)) v
  have e1 : (rng A.n (lsC L)).set (ci * 9 + (k * 3 + j)) v = rng A.n (lsC L') := rng_set (lsC_len L) (by omega) v (fun c2 hc2 => rng_congr fun k2 _ => h2 c2 k2 (fun e1 => hc2 e1.1)) (rng_set (lC_len L ci) hj v (fun k2 hk2 => h2 ci k2 (fun e1 => hk2 e1.2)) h1 hk).symm hc
  rw [e1] at hr
  exact hr
theorem QM.lcell (h : QM w sb qb gl gc F B b c d e f g A zs T bs p n s L) {ci k j : Nat} (hc : ci < A.n) (hk : k < 3) (hj : j < 3) : w.cell? ⟨gl, ci * 9 + (k * 3 + j), none⟩ = (lC L ci k)[j]? := by
  have e := rng_get (lsC_len L) (n := A.n) (i := ci) (j := k * 3 + j) hc (by omega)
  have e2 : (lsC L ci)[k * 3 + j]? = (lC L ci k)[j]? := rng_get (lC_len L ci) hk hj
  rw [e2] at e
  have hl : j < (lC L ci k).length := hj
  rw [List.getElem?_eq_getElem hl] at e ⊢
  exact row_cell h.row _ _ e
theorem QM.fz (h : QM w sb qb gl gc F B b c d e f g A zs T bs p n s L) (i : Nat) : w.frozen? ⟨gl, i, none⟩ = false := by
  obtain ⟨cur, hc⟩ := row_block h.row gl rfl
  simp [World.frozen?, hc]
end
end Go.Proofs.YtjkdflnnpdionaaGreat
/-
  A queue: what it tells.
-/
namespace Go.Proofs.YtjkdflnnpdionaaGreat
open Go.RowKit
set_option linter.unusedVariables false

theorem isKind_yes (k : Nat) (h : k < 3) (w : World) : Calls Tryz.prog 76 #[.int .i64 ((k : Int) + 1)] w fun y w' => y = .returned (.bool true) ∧ w = w' := by
  have h2 : (k : Int) + 1 ≤ 3 := by omega
  have h3 : decide ((k : Int) + 1 ≤ 3) = true := decide_eq_true h2
  go_enter Tryz.func76, Tryz.ntmps76
  go_wp2
  go_ret
  exact ⟨rfl, rfl⟩
theorem isKind_no (x : Int) (h : ¬ (1 ≤ x ∧ x ≤ 3)) (w : World) : Calls Tryz.prog 76 #[.int .i64 x] w fun y w' => y = .returned (.bool false) ∧ w = w' := by
  by_cases h1 : 1 ≤ x
  · have h2 : ¬ x ≤ 3 := fun h2 => h ⟨h1, h2⟩
    clear h
    go_enter Tryz.func76, Tryz.ntmps76
    go_wp2
    go_ret
    exact ⟨rfl, rfl⟩
  · clear h
    go_enter Tryz.func76, Tryz.ntmps76
    go_wp2
    go_ret
    exact ⟨rfl, rfl⟩

section
variable {w : World} {sb qb gl gc : Nat} {F : Nat → Prop} {B : Bl} {b c d e f g : Int} {A : Ab} {zs : List Int} {T : List Nat} {bs : Nat → It} {p n s : Nat → Nat} {L : Ls}

set_option maxRecDepth 100000 in
theorem q_list (h : QM w sb qb gl gc F B b c d e f g A zs T bs p n s L) {ci k : Nat} (hc : ci < A.n) (hk : k < 3) :
    Calls Tryz.prog 128 #[.pointer (some ⟨qb, 0, none⟩), .int .i64 ci, .int .i64 ((k : Int) + 1)] w fun y w' => y = .returned (.pointer (some ⟨gl, ci * 9 + k * 3, none⟩)) ∧ w.grownBy w' none := by
  have c1 := h.box.cell 1
  simp at c1
  have hik := fun W => isKind_yes k hk W
  have hn : A.n ≤ 62 := h.inv.fit.n2
  have hc2 : (ci : Int) < (A.n : Int) := by omega
  generalize A.n = nn at *
  clear h
  go_enter Tryz.func128, Tryz.ntmps128
  go_wp2_with (first | (go_at_call 76; go_must (refine (hik _).mono ?_); rintro y w' ⟨rfl, rfl⟩) | fail)
  go_ret
  exact ⟨rfl, gb_refl _ _⟩

set_option maxRecDepth 100000 in
theorem q_of (h : QM w sb qb gl gc F B b c d e f g A zs T bs p n s L) {H x y k : Nat} (hX : IsH A H x y) (hk : k < 3) :
    Calls Tryz.prog 75 #[.pointer (some ⟨qb, 0, none⟩), .int .u64 H, .int .i64 ((k : Int) + 1)] w fun y w' => y = .returned (.pointer (some ⟨gl, A.own x * 9 + k * 3, none⟩)) ∧ w.grownBy w' none := by
  have c0 := h.box.cell 0
  simp at c0
  have hat := at_yes h.iss h.inv.fit hX
  have hl := fun W (hf : w.grownBy W none) => q_list (h.kept0 hf) (h.inv.fit.on x hX.hp) hk
  clear h hX
  generalize A.own x = op at *
  go_enter Tryz.func75, Tryz.ntmps75
  go_wp2_with (first | (go_at_call 82; go_must (refine hat.mono ?_); rintro y w1 ⟨rfl, hf1⟩) | (go_at_call 128; go_must (refine (hl _ hf1).mono ?_); rintro y w2 ⟨rfl, hf2⟩) | fail)
  go_ret
  exact ⟨rfl, gb_trans hf1 hf2⟩

set_option maxRecDepth 100000 in
theorem q_state (h : QM w sb qb gl gc F B b c d e f g A zs T bs p n s L) {H : Nat} (hH : H ∈ T) :
    Calls Tryz.prog 77 #[.pointer (some ⟨qb, 0, none⟩), .int .u64 H] w fun y w' => y = .returned (.int .i64 (s H)) ∧ w.grownBy w' none := by
  have c0 := h.box.cell 0
  simp at c0
  obtain ⟨x, k, hX, hI, hs⟩ := h.its H hH
  have hst := state_yes h.iss h.inv.fit hX _ hI
  rw [show (itm bs p n s H).st = ((s H : Nat) : Int) from rfl] at hst
  generalize s H = sH at *
  clear h hX hI
  go_enter Tryz.func77, Tryz.ntmps77
  go_wp2_with (first | (go_at_call 124; go_must (refine hst.mono ?_); rintro y w1 ⟨rfl, hf1⟩) | fail)
  go_ret
  exact ⟨rfl, hf1⟩

theorem nm_zero {K : Nat} (h : K = 0) : nm K = 0 := by subst h; rfl

/-- Link of an item. -/
theorem q_link (h : QM w sb qb gl gc F B b c d e f g A zs T bs p n s L) {H : Nat} (hH : H ∈ T) (j : Nat) (hj : j = 1 ∨ j = 2) :
    Calls Tryz.prog 125 #[.pointer (some ⟨sb, 0, none⟩), .int .u64 H, .int .i64 j] w fun y w' => y = .returned (.tuple #[.int .u64 ((if j = 1 then p H else n H : Nat) : Int), .int .i64 0]) ∧ w.grownBy w' none := by
  obtain ⟨x, k, hX, hI, hs⟩ := h.its H hH
  have hA := h.inv.fit
  have hk1 := hI.k1
  have hlk := h.lk H hH
  rcases hj with rfl | rfl
  · rw [if_pos rfl]
    have hg : getL zs (A.place x k + 1 * 4) 4 0 0 = ((nm (p H) : Nat) : Int) := hI.link1
    rcases hlk.1 with h1 | h1
    · rw [h1]
      rw [nm_zero h1] at hg
      exact link_none h.iss hA hX 1 (by omega) hg
    · obtain ⟨x2, k2, hX2, _⟩ := h.its _ h1
      exact link_to h.iss hA hX _ hI.kl (by omega) 1 (by omega) hX2 hg
  · rw [if_neg (by decide)]
    have hg : getL zs (A.place x k + 2 * 4) 4 0 0 = ((nm (n H) : Nat) : Int) := hI.link2
    rcases hlk.2 with h1 | h1
    · rw [h1]
      rw [nm_zero h1] at hg
      exact link_none h.iss hA hX 2 (by omega) hg
    · obtain ⟨x2, k2, hX2, _⟩ := h.its _ h1
      exact link_to h.iss hA hX _ hI.kl (by omega) 2 (by omega) hX2 hg
set_option maxRecDepth 100000 in
theorem q_next (h : QM w sb qb gl gc F B b c d e f g A zs T bs p n s L) {H : Nat} (hH : H ∈ T) (j : Nat) (hj : j = 1 ∨ j = 2) (v : Nat) (hv : (if j = 1 then p H else n H) = v) :
    Calls Tryz.prog 130 #[.pointer (some ⟨qb, 0, none⟩), .int .u64 H, .int .i64 j] w fun y w' => y = .returned (.int .u64 v) ∧ w.grownBy w' none := by
  have c0 := h.box.cell 0
  simp at c0
  have hl := q_link h hH j hj
  rw [hv] at hl
  clear h hv
  go_enter Tryz.func130, Tryz.ntmps130
  go_wp2_with (first | (go_at_call 125; go_must (refine hl.mono ?_); rintro y w1 ⟨rfl, hf1⟩) | fail)
  go_ret
  exact ⟨rfl, hf1⟩

theorem told_yes (H : Nat) (h : ¬ H = 0) (w : World) : Calls Tryz.prog 127 #[.int .u64 H] w fun y w' => y = .returned (.tuple #[.int .u64 H, .bool true]) ∧ w = w' := by
  have hz : ¬ (H : Int) = 0 := by omega
  have hz2 : ((H : Int) != 0) = true := by simp [h]
  go_enter Tryz.func127, Tryz.ntmps127
  go_wp2
  go_ret2
  exact ⟨rfl, rfl⟩
theorem told_no (w : World) : Calls Tryz.prog 127 #[.int .u64 0] w fun y w' => y = .returned (.tuple #[.int .u64 0, .bool false]) ∧ w = w' := by
  go_enter Tryz.func127, Tryz.ntmps127
  go_wp2
  go_ret2
  exact ⟨rfl, rfl⟩
theorem told_any (H : Nat) (w : World) : Calls Tryz.prog 127 #[.int .u64 H] w fun y w' => y = .returned (.tuple #[.int .u64 H, .bool (decide (¬ H = 0))]) ∧ w = w' := by
  by_cases h : H = 0
  · subst h; exact told_no w
  · rw [decide_eq_true h]; exact told_yes H h w

set_option maxRecDepth 100000 in
theorem q_head (h : QM w sb qb gl gc F B b c d e f g A zs T bs p n s L) {ci k : Nat} (hc : ci < A.n) (hk : k < 3) (v : Nat) (hv : L.hd ci k = v) :
    Calls Tryz.prog 63 #[.pointer (some ⟨qb, 0, none⟩), .int .i64 ci, .int .i64 ((k : Int) + 1)] w fun y w' => y = .returned (.tuple #[.int .u64 v, .bool (decide (¬ v = 0))]) ∧ w.grownBy w' none := by
  have hl := (q_list h hc hk).mono (R' := fun y w' => y = .returned (.pointer (some ⟨gl, ci * 9 + k * 3, none⟩)) ∧ w.grownBy w' none ∧ w'.cell? ⟨gl, ci * 9 + k * 3, none⟩ = some (.int .u64 v)) (by
    rintro y w' ⟨rfl, hf⟩
    have := (h.kept0 hf).lcell hc hk (j := 0) (by omega)
    exact ⟨rfl, hf, by rw [← hv]; exact this⟩)
  have ht := fun W => told_any v W
  clear h hv
  generalize decide (¬ v = 0) = bb at *
  go_enter Tryz.func63, Tryz.ntmps63
  go_wp2_with (first | (go_at_call 128; go_must (refine hl.mono ?_); rintro y w1 ⟨rfl, hf1, d1⟩) | (go_at_call 127; go_must (refine (ht _).mono ?_); rintro y w' ⟨rfl, rfl⟩) | fail)
  go_ret2
  exact ⟨rfl, hf1⟩
set_option maxRecDepth 100000 in
theorem q_tail (h : QM w sb qb gl gc F B b c d e f g A zs T bs p n s L) {ci k : Nat} (hc : ci < A.n) (hk : k < 3) (v : Nat) (hv : L.tl ci k = v) :
    Calls Tryz.prog 64 #[.pointer (some ⟨qb, 0, none⟩), .int .i64 ci, .int .i64 ((k : Int) + 1)] w fun y w' => y = .returned (.tuple #[.int .u64 v, .bool (decide (¬ v = 0))]) ∧ w.grownBy w' none := by
  have hl := (q_list h hc hk).mono (R' := fun y w' => y = .returned (.pointer (some ⟨gl, ci * 9 + k * 3, none⟩)) ∧ w.grownBy w' none ∧ w'.cell? ⟨gl, ci * 9 + k * 3 + 1, none⟩ = some (.int .u64 v)) (by
    rintro y w' ⟨rfl, hf⟩
    have := (h.kept0 hf).lcell hc hk (j := 1) (by omega)
    exact ⟨rfl, hf, by rw [← hv]; exact this⟩)
  have ht := fun W => told_any v W
  clear h hv
  generalize decide (¬ v = 0) = bb at *
  go_enter Tryz.func64, Tryz.ntmps64
  go_wp2_with (first | (go_at_call 128; go_must (refine hl.mono ?_); rintro y w1 ⟨rfl, hf1, d1⟩) | (go_at_call 127; go_must (refine (ht _).mono ?_); rintro y w' ⟨rfl, rfl⟩) | fail)
  go_ret2
  exact ⟨rfl, hf1⟩
set_option maxRecDepth 100000 in
theorem q_len (h : QM w sb qb gl gc F B b c d e f g A zs T bs p n s L) {ci k : Nat} (hc : ci < A.n) (hk : k < 3) (v : Nat) (hv : L.ln ci k = v) :
    Calls Tryz.prog 65 #[.pointer (some ⟨qb, 0, none⟩), .int .i64 ci, .int .i64 ((k : Int) + 1)] w fun y w' => y = .returned (.int .i64 v) ∧ w.grownBy w' none := by
  have hl := (q_list h hc hk).mono (R' := fun y w' => y = .returned (.pointer (some ⟨gl, ci * 9 + k * 3, none⟩)) ∧ w.grownBy w' none ∧ w'.cell? ⟨gl, ci * 9 + k * 3 + 2, none⟩ = some (.int .i64 v)) (by
    rintro y w' ⟨rfl, hf⟩
    have := (h.kept0 hf).lcell hc hk (j := 2) (by omega)
    exact ⟨rfl, hf, by rw [← hv]; exact this⟩)
  clear h hv
  go_enter Tryz.func65, Tryz.ntmps65
  go_wp2_with (first | (go_at_call 128; go_must (refine hl.mono ?_); rintro y w1 ⟨rfl, hf1, d1⟩) | fail)
  go_ret
  exact ⟨rfl, hf1⟩
end
end Go.Proofs.YtjkdflnnpdionaaGreat
