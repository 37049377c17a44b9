import Derived.Test.YtoomnhclaofgaaaGreatZc
/-
  Items: numbers of the header are set.
-/
namespace Go.Proofs.YtoomnhclaofgaaaGreat
open Go.RowKit
set_option linter.unusedVariables false

section
variable {zs : List Int} {pl : Nat} {t : It}
theorem IsI.setL0 (h : IsI zs pl t) (v : Int) (hv : 0 ≤ v ∧ v < 4294967296) : IsI (lay zs (pl + 0) (be 4 v)) pl { t with l0 := v } :=
  ⟨h.piece 0 0 4 v (by rw [It.lens]; rfl) _ rfl (be_len _ _) (by omega), hv, h.l1, h.l2, h.gn, h.ex, h.to, h.tk, h.fl, h.st, h.ms, h.cl, h.k1, h.vn, h.kb, h.vb⟩
theorem IsI.setEx (h : IsI zs pl t) (v : Int) (hv : 0 ≤ v ∧ v < 9223372036854775808) : IsI (lay zs (pl + 16) (be 8 v)) pl { t with ex := v } :=
  ⟨h.piece 4 16 8 v (by rw [It.lens]; rfl) _ rfl (be_len _ _) (by omega), h.l0, h.l1, h.l2, h.gn, hv, h.to, h.tk, h.fl, h.st, h.ms, h.cl, h.k1, h.vn, h.kb, h.vb⟩
theorem IsI.setTo (h : IsI zs pl t) (v : Int) (hv : 0 ≤ v ∧ v < 9223372036854775808) : IsI (lay zs (pl + 24) (be 8 v)) pl { t with to := v } :=
  ⟨h.piece 5 24 8 v (by rw [It.lens]; rfl) _ rfl (be_len _ _) (by omega), h.l0, h.l1, h.l2, h.gn, h.ex, hv, h.tk, h.fl, h.st, h.ms, h.cl, h.k1, h.vn, h.kb, h.vb⟩
theorem IsI.setTk (h : IsI zs pl t) (v : Int) (hv : 0 ≤ v ∧ v < 18446744073709551616) : IsI (lay zs (pl + 32) (be 8 v)) pl { t with tk := v } :=
  ⟨h.piece 6 32 8 v (by rw [It.lens]; rfl) _ rfl (be_len _ _) (by omega), h.l0, h.l1, h.l2, h.gn, h.ex, h.to, hv, h.fl, h.st, h.ms, h.cl, h.k1, h.vn, h.kb, h.vb⟩
theorem IsI.setFl (h : IsI zs pl t) (v : Int) (hv : 0 ≤ v ∧ v < 4294967296) : IsI (lay zs (pl + 40) (be 4 v)) pl { t with fl := v } :=
  ⟨h.piece 7 40 4 v (by rw [It.lens]; rfl) _ rfl (be_len _ _) (by omega), h.l0, h.l1, h.l2, h.gn, h.ex, h.to, h.tk, hv, h.st, h.ms, h.cl, h.k1, h.vn, h.kb, h.vb⟩
theorem IsI.setMs (h : IsI zs pl t) (v : Int) (hv : 0 ≤ v ∧ v < 256) : IsI (lay zs (pl + 46) (be 1 v)) pl { t with ms := v } :=
  ⟨h.piece 10 46 1 v (by rw [It.lens]; rfl) _ rfl (be_len _ _) (by omega), h.l0, h.l1, h.l2, h.gn, h.ex, h.to, h.tk, h.fl, h.st, hv, h.cl, h.k1, h.vn, h.kb, h.vb⟩
theorem IsI.link0 (h : IsI zs pl t) : getL zs (pl + 0) 4 0 0 = t.l0 := lies_get h.lies 0 0 4 _ rfl (by rw [It.lens]; rfl) h.l0.1 (by rw [pw4]; exact h.l0.2)
end

section
variable {w : World} {sb : Nat} {F : Nat → Prop} {B : Bl} {b c d e f g : Int} {A : Ab} {zs : List Int}

set_option maxRecDepth 100000 in
set_option maxHeartbeats 1000000 in
theorem set_u8 (h : IsS w sb F B b c d e f g A zs) (hA : Fit2 A) {H p k : Nat} (hH : IsH A H p k) (kl : Nat) (hkl : Hid (getL zs (A.place p k + 44) 1 0 0 = kl)) (hk2 : 0 < kl ∧ kl < 256) (at_ : Nat) (hat : at_ + 1 ≤ 64) (n : Int) (hn : 0 ≤ n ∧ n < 256) :
    Calls Tryz.prog 51 #[.pointer (some ⟨sb, 0, none⟩), .int .u64 H, .int .i64 at_, .int .u8 n, .bool true] w fun y w' => y = .returned (.int .i64 0) ∧ Kp F w w' ∧ IsS w' sb F B b c d e f g A (lay zs (A.place p k + at_) (be 1 n)) := by
  have hP := pl_of h hA.toFit1 hH.hp hH.hk
  have h64 := hA.lo _ (hA.on p hH.hp)
  have hop := openItem_yes h hA hH kl hkl hk2
  have hpt := fun w1 (hf : w.grownBy w1 none) => (iput_u8 ((h.kept0 hf).ar) (A.place p k) (A.own p) (A.sz (A.own p)) at_ n hn (by have := hP.hb; omega) (hP.th at_ 1 (by omega))).mono (R' := fun y w' => y = .returned (.tuple #[]) ∧ Hid (Kp F w w' ∧ IsS w' sb F B b c d e f g A (lay zs (A.place p k + at_) (be 1 n)))) (by
    rintro y w' ⟨rfl, hg, hA'⟩
    obtain ⟨h1, h2⟩ := (h.kept0 hf).bytes hg hA'
    exact ⟨rfl, ((Kp.of (F := F) hf).trans h2 (fun _ h => h) (fun i hi => .inl hi)), h1⟩)
  clear h hH hkl hP
  generalize lay zs (A.place p k + at_) (be 1 n) = us at *
  unfold chV at *
  generalize A.place p k = pl at *
  generalize A.sz (A.own p) = s at *
  generalize A.own p = op at *
  have hab : ∃ ab, ab = B.ab := ⟨_, rfl⟩
  obtain ⟨ab, hab⟩ := hab
  rw [← hab] at hop hpt
  clear hab
  go_enter Tryz.func51, Tryz.ntmps51
  go_wp2_with (first | (go_at_call 61; go_must (refine hop.mono ?_); rintro y w1 ⟨rfl, hf1⟩; (have hf2 : w.grownBy (w1.alloc (.cells #[.pointer (some ⟨ab, 0, none⟩), .int .i64 pl, .int .i64 op, .int .i64 s] 84)) none := gb_alloc hf1 _)) | (go_at_call 40; go_must (refine (hpt _ hf2).mono ?_); rintro y w4 ⟨rfl, hE⟩) | fail)
  go_ret
  exact ⟨rfl, hE.out⟩

set_option maxRecDepth 100000 in
set_option maxHeartbeats 1000000 in
theorem set_u32 (h : IsS w sb F B b c d e f g A zs) (hA : Fit2 A) {H p k : Nat} (hH : IsH A H p k) (kl : Nat) (hkl : Hid (getL zs (A.place p k + 44) 1 0 0 = kl)) (hk2 : 0 < kl ∧ kl < 256) (at_ : Nat) (hat : at_ + 4 ≤ 64) (n : Int) (hn : 0 ≤ n ∧ n < 4294967296) :
    Calls Tryz.prog 47 #[.pointer (some ⟨sb, 0, none⟩), .int .u64 H, .int .i64 at_, .int .u32 n, .bool true] w fun y w' => y = .returned (.int .i64 0) ∧ Kp F w w' ∧ IsS w' sb F B b c d e f g A (lay zs (A.place p k + at_) (be 4 n)) := by
  have hP := pl_of h hA.toFit1 hH.hp hH.hk
  have h64 := hA.lo _ (hA.on p hH.hp)
  have hop := openItem_yes h hA hH kl hkl hk2
  have hpt := fun w1 (hf : w.grownBy w1 none) => (iput_u32 ((h.kept0 hf).ar) (A.place p k) (A.own p) (A.sz (A.own p)) at_ n hn (by have := hP.hb; omega) (hP.th at_ 4 (by omega))).mono (R' := fun y w' => y = .returned (.tuple #[]) ∧ Hid (Kp F w w' ∧ IsS w' sb F B b c d e f g A (lay zs (A.place p k + at_) (be 4 n)))) (by
    rintro y w' ⟨rfl, hg, hA'⟩
    obtain ⟨h1, h2⟩ := (h.kept0 hf).bytes hg hA'
    exact ⟨rfl, ((Kp.of (F := F) hf).trans h2 (fun _ h => h) (fun i hi => .inl hi)), h1⟩)
  clear h hH hkl hP
  generalize lay zs (A.place p k + at_) (be 4 n) = us at *
  unfold chV at *
  generalize A.place p k = pl at *
  generalize A.sz (A.own p) = s at *
  generalize A.own p = op at *
  have hab : ∃ ab, ab = B.ab := ⟨_, rfl⟩
  obtain ⟨ab, hab⟩ := hab
  rw [← hab] at hop hpt
  clear hab
  go_enter Tryz.func47, Tryz.ntmps47
  go_wp2_with (first | (go_at_call 61; go_must (refine hop.mono ?_); rintro y w1 ⟨rfl, hf1⟩; (have hf2 : w.grownBy (w1.alloc (.cells #[.pointer (some ⟨ab, 0, none⟩), .int .i64 pl, .int .i64 op, .int .i64 s] 84)) none := gb_alloc hf1 _)) | (go_at_call 39; go_must (refine (hpt _ hf2).mono ?_); rintro y w4 ⟨rfl, hE⟩) | fail)
  go_ret
  exact ⟨rfl, hE.out⟩

set_option maxRecDepth 100000 in
set_option maxHeartbeats 1000000 in
theorem set_u64 (h : IsS w sb F B b c d e f g A zs) (hA : Fit2 A) {H p k : Nat} (hH : IsH A H p k) (kl : Nat) (hkl : Hid (getL zs (A.place p k + 44) 1 0 0 = kl)) (hk2 : 0 < kl ∧ kl < 256) (at_ : Nat) (hat : at_ + 8 ≤ 64) (n : Int) (hn : 0 ≤ n ∧ n < 18446744073709551616) :
    Calls Tryz.prog 49 #[.pointer (some ⟨sb, 0, none⟩), .int .u64 H, .int .i64 at_, .int .u64 n, .bool true] w fun y w' => y = .returned (.int .i64 0) ∧ Kp F w w' ∧ IsS w' sb F B b c d e f g A (lay zs (A.place p k + at_) (be 8 n)) := by
  have hP := pl_of h hA.toFit1 hH.hp hH.hk
  have h64 := hA.lo _ (hA.on p hH.hp)
  have hop := openItem_yes h hA hH kl hkl hk2
  have hpt := fun w1 (hf : w.grownBy w1 none) => (iput_u64 ((h.kept0 hf).ar) (A.place p k) (A.own p) (A.sz (A.own p)) at_ n hn (by have := hP.hb; omega) (hP.th at_ 8 (by omega))).mono (R' := fun y w' => y = .returned (.tuple #[]) ∧ Hid (Kp F w w' ∧ IsS w' sb F B b c d e f g A (lay zs (A.place p k + at_) (be 8 n)))) (by
    rintro y w' ⟨rfl, hg, hA'⟩
    obtain ⟨h1, h2⟩ := (h.kept0 hf).bytes hg hA'
    exact ⟨rfl, ((Kp.of (F := F) hf).trans h2 (fun _ h => h) (fun i hi => .inl hi)), h1⟩)
  clear h hH hkl hP
  generalize lay zs (A.place p k + at_) (be 8 n) = us at *
  unfold chV at *
  generalize A.place p k = pl at *
  generalize A.sz (A.own p) = s at *
  generalize A.own p = op at *
  have hab : ∃ ab, ab = B.ab := ⟨_, rfl⟩
  obtain ⟨ab, hab⟩ := hab
  rw [← hab] at hop hpt
  clear hab
  go_enter Tryz.func49, Tryz.ntmps49
  go_wp2_with (first | (go_at_call 61; go_must (refine hop.mono ?_); rintro y w1 ⟨rfl, hf1⟩; (have hf2 : w.grownBy (w1.alloc (.cells #[.pointer (some ⟨ab, 0, none⟩), .int .i64 pl, .int .i64 op, .int .i64 s] 84)) none := gb_alloc hf1 _)) | (go_at_call 38; go_must (refine (hpt _ hf2).mono ?_); rintro y w4 ⟨rfl, hE⟩) | fail)
  go_ret
  exact ⟨rfl, hE.out⟩

set_option maxRecDepth 100000 in
set_option maxHeartbeats 1000000 in
theorem setFlags_yes (h : IsS w sb F B b c d e f g A zs) (hA : Fit2 A) {H p k : Nat} (hH : IsH A H p k) (kl : Nat) (hkl : Hid (getL zs (A.place p k + 44) 1 0 0 = kl)) (hk2 : 0 < kl ∧ kl < 256) (n : Int) (hn : 0 ≤ n ∧ n ≤ 4294967295) :
    Calls Tryz.prog 13 #[.pointer (some ⟨sb, 0, none⟩), .int .u64 H, .int .u64 n] w fun y w' => y = .returned (.int .i64 0) ∧ Kp F w w' ∧ IsS w' sb F B b c d e f g A (lay zs (A.place p k + 40) (be 4 n)) := by
  have hst := (set_u32 h hA hH kl hkl hk2 40 (by omega) n (by omega)).mono (R' := fun y w' => y = .returned (.int .i64 0) ∧ Hid (Kp F w w' ∧ IsS w' sb F B b c d e f g A (lay zs (A.place p k + 40) (be 4 n)))) (fun y w' hh => ⟨hh.1, hh.2⟩)
  simp only [show ((40 : Nat) : Int) = 40 from rfl] at hst
  have his := fun W => isFlags_yes n (by omega) W
  have hwr : IntKind.u32.wrap n = n := by simp [IntKind.wrap, IntKind.signed, IntKind.bits]; omega
  clear h hH hkl
  generalize lay zs (A.place p k + 40) (be 4 n) = us at *
  go_enter Tryz.func13, Tryz.ntmps13
  go_wp2_with (first | (go_at_call 48; go_must (refine (his _).mono ?_); rintro y w' ⟨rfl, rfl⟩) | (go_at_call 47; go_must (with_reducible refine hst.mono ?_); rintro y w1 ⟨rfl, hE⟩) | fail)
  go_ret
  exact ⟨rfl, hE.out⟩

set_option maxRecDepth 100000 in
set_option maxHeartbeats 1000000 in
theorem setToken_yes (h : IsS w sb F B b c d e f g A zs) (hA : Fit2 A) {H p k : Nat} (hH : IsH A H p k) (kl : Nat) (hkl : Hid (getL zs (A.place p k + 44) 1 0 0 = kl)) (hk2 : 0 < kl ∧ kl < 256) (n : Int) (hn : 0 ≤ n ∧ n ≤ 18446744073709551615) :
    Calls Tryz.prog 14 #[.pointer (some ⟨sb, 0, none⟩), .int .u64 H, .int .u64 n] w fun y w' => y = .returned (.int .i64 0) ∧ Kp F w w' ∧ IsS w' sb F B b c d e f g A (lay zs (A.place p k + 32) (be 8 n)) := by
  have hst := (set_u64 h hA hH kl hkl hk2 32 (by omega) n (by omega)).mono (R' := fun y w' => y = .returned (.int .i64 0) ∧ Hid (Kp F w w' ∧ IsS w' sb F B b c d e f g A (lay zs (A.place p k + 32) (be 8 n)))) (fun y w' hh => ⟨hh.1, hh.2⟩)
  simp only [show ((32 : Nat) : Int) = 32 from rfl] at hst
  clear h hH hkl
  generalize lay zs (A.place p k + 32) (be 8 n) = us at *
  go_enter Tryz.func14, Tryz.ntmps14
  go_wp2_with (first | (go_at_call 49; go_must (with_reducible refine hst.mono ?_); rintro y w1 ⟨rfl, hE⟩) | fail)
  go_ret
  exact ⟨rfl, hE.out⟩

set_option maxRecDepth 100000 in
set_option maxHeartbeats 1000000 in
theorem setExpiry_yes (h : IsS w sb F B b c d e f g A zs) (hA : Fit2 A) {H p k : Nat} (hH : IsH A H p k) (kl : Nat) (hkl : Hid (getL zs (A.place p k + 44) 1 0 0 = kl)) (hk2 : 0 < kl ∧ kl < 256) (n : Int) (hn : 0 ≤ n ∧ n ≤ 9223372036854775807) :
    Calls Tryz.prog 15 #[.pointer (some ⟨sb, 0, none⟩), .int .u64 H, .int .i64 n] w fun y w' => y = .returned (.int .i64 0) ∧ Kp F w w' ∧ IsS w' sb F B b c d e f g A (lay zs (A.place p k + 16) (be 8 n)) := by
  have hst := (set_u64 h hA hH kl hkl hk2 16 (by omega) n (by omega)).mono (R' := fun y w' => y = .returned (.int .i64 0) ∧ Hid (Kp F w w' ∧ IsS w' sb F B b c d e f g A (lay zs (A.place p k + 16) (be 8 n)))) (fun y w' hh => ⟨hh.1, hh.2⟩)
  simp only [show ((16 : Nat) : Int) = 16 from rfl] at hst
  have his := fun W => isTick_yes n (by omega) W
  have hwr : IntKind.u64.wrap n = n := by simp [IntKind.wrap, IntKind.signed, IntKind.bits]; omega
  clear h hH hkl
  generalize lay zs (A.place p k + 16) (be 8 n) = us at *
  go_enter Tryz.func15, Tryz.ntmps15
  go_wp2_with (first | (go_at_call 50; go_must (refine (his _).mono ?_); rintro y w' ⟨rfl, rfl⟩) | (go_at_call 49; go_must (with_reducible refine hst.mono ?_); rintro y w1 ⟨rfl, hE⟩) | fail)
  go_ret
  exact ⟨rfl, hE.out⟩

set_option maxRecDepth 100000 in
set_option maxHeartbeats 1000000 in
theorem setTouched_yes (h : IsS w sb F B b c d e f g A zs) (hA : Fit2 A) {H p k : Nat} (hH : IsH A H p k) (kl : Nat) (hkl : Hid (getL zs (A.place p k + 44) 1 0 0 = kl)) (hk2 : 0 < kl ∧ kl < 256) (n : Int) (hn : 0 ≤ n ∧ n ≤ 9223372036854775807) :
    Calls Tryz.prog 16 #[.pointer (some ⟨sb, 0, none⟩), .int .u64 H, .int .i64 n] w fun y w' => y = .returned (.int .i64 0) ∧ Kp F w w' ∧ IsS w' sb F B b c d e f g A (lay zs (A.place p k + 24) (be 8 n)) := by
  have hst := (set_u64 h hA hH kl hkl hk2 24 (by omega) n (by omega)).mono (R' := fun y w' => y = .returned (.int .i64 0) ∧ Hid (Kp F w w' ∧ IsS w' sb F B b c d e f g A (lay zs (A.place p k + 24) (be 8 n)))) (fun y w' hh => ⟨hh.1, hh.2⟩)
  simp only [show ((24 : Nat) : Int) = 24 from rfl] at hst
  have his := fun W => isTick_yes n (by omega) W
  have hwr : IntKind.u64.wrap n = n := by simp [IntKind.wrap, IntKind.signed, IntKind.bits]; omega
  clear h hH hkl
  generalize lay zs (A.place p k + 24) (be 8 n) = us at *
  go_enter Tryz.func16, Tryz.ntmps16
  go_wp2_with (first | (go_at_call 50; go_must (refine (his _).mono ?_); rintro y w' ⟨rfl, rfl⟩) | (go_at_call 49; go_must (with_reducible refine hst.mono ?_); rintro y w1 ⟨rfl, hE⟩) | fail)
  go_ret
  exact ⟨rfl, hE.out⟩

set_option maxRecDepth 100000 in
set_option maxHeartbeats 1000000 in
theorem setMarks_yes (h : IsS w sb F B b c d e f g A zs) (hA : Fit2 A) {H p k : Nat} (hH : IsH A H p k) (kl : Nat) (hkl : Hid (getL zs (A.place p k + 44) 1 0 0 = kl)) (hk2 : 0 < kl ∧ kl < 256) (n : Int) (hn : 0 ≤ n ∧ n ≤ 15) :
    Calls Tryz.prog 18 #[.pointer (some ⟨sb, 0, none⟩), .int .u64 H, .int .i64 n] w fun y w' => y = .returned (.int .i64 0) ∧ Kp F w w' ∧ IsS w' sb F B b c d e f g A (lay zs (A.place p k + 46) (be 1 n)) := by
  have hst := (set_u8 h hA hH kl hkl hk2 46 (by omega) n (by omega)).mono (R' := fun y w' => y = .returned (.int .i64 0) ∧ Hid (Kp F w w' ∧ IsS w' sb F B b c d e f g A (lay zs (A.place p k + 46) (be 1 n)))) (fun y w' hh => ⟨hh.1, hh.2⟩)
  simp only [show ((46 : Nat) : Int) = 46 from rfl] at hst
  have his := fun W => isMarks_yes n (by omega) W
  have hwr : IntKind.u8.wrap n = n := by simp [IntKind.wrap, IntKind.signed, IntKind.bits]; omega
  clear h hH hkl
  generalize lay zs (A.place p k + 46) (be 1 n) = us at *
  go_enter Tryz.func18, Tryz.ntmps18
  go_wp2_with (first | (go_at_call 53; go_must (refine (his _).mono ?_); rintro y w' ⟨rfl, rfl⟩) | (go_at_call 51; go_must (with_reducible refine hst.mono ?_); rintro y w1 ⟨rfl, hE⟩) | fail)
  go_ret
  exact ⟨rfl, hE.out⟩

end
end Go.Proofs.YtoomnhclaofgaaaGreat
