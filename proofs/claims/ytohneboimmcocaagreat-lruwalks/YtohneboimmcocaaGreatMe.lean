import Derived.Test.YtohneboimmcocaaGreatMd
import Derived.Laws.EntriesVeiled
/-
  Items: marks, told and set.
-/
namespace Go.Proofs.YtohneboimmcocaaGreat
open Go.RowKit
set_option linter.unusedVariables false

section
variable {w : World} {sb : Nat} {F : Nat → Prop} {B : Bl} {b c d e f g : Int} {A : Ab} {zs : List Int}

set_option maxRecDepth 100000 in
set_option maxHeartbeats 1000000 in
theorem marks_yes (h : IsS w sb F B b c d e f g A zs) (hA : Fit2 A) {H p k : Nat} (hH : IsH A H p k) (t : It) (hI : IsI zs (A.place p k) t) :
    Calls Tryz.prog 47 #[.pointer (some ⟨sb, 0, none⟩), .int .u64 H] w fun y w' => y = .returned (.tuple #[.int .i64 t.ms, .int .i64 0]) ∧ w.grownBy w' none := by
  have hP := pl_of h hA.toFit1 hH.hp hH.hk
  have h64 := hA.lo _ (hA.on p hH.hp)
  have hop := open_yes h hA hH
  have hhi := fun w1 (hf : w.grownBy w1 none) => hasItem_it h hA hH.hp hH.hk t.key.length hI.kl (by have := hI.k1; omega) hf
  rw [decide_eq_true (show 0 < t.key.length by have := hI.k1; omega)] at hhi
  have hgt := fun w1 (hf : w.grownBy w1 none) => iget_u8 ((h.kept0 hf).ar) (A.place p k) (A.own p) (A.sz (A.own p)) 46 (by have := hP.hb; omega) (hP.th 46 1 (by omega))
  rw [hI.marks] at hgt
  simp only [show ((46 : Nat) : Int) = 46 from rfl] at hgt
  have hs := hI.ms
  clear h hH hP hI
  generalize t.ms = st at *
  have htl : Calls Tryz.prog 87 #[.pointer (some ⟨sb, 0, none⟩), .int .u64 H, .int .i64 46] w fun y w' => y = .returned (.tuple #[.int .u8 st, .int .i64 0]) ∧ w.grownBy w' none := by
    unfold chV at *
    generalize A.place p k = pl at *
    generalize A.sz (A.own p) = s at *
    generalize A.own p = op at *
    generalize B.ab = ab at *
    go_enter Tryz.func87, Tryz.ntmps87
    go_wp2_with (first | (go_at_call 122; go_must (refine hop.mono ?_); rintro y w1 ⟨rfl, hf1⟩; (have hf2 : w.grownBy (w1.alloc (.cells #[.pointer (some ⟨ab, 0, none⟩), .int .i64 pl, .int .i64 op, .int .i64 s] 190)) none := gb_alloc hf1 _); (have hc2 := Box.new w1 190 #[.pointer (some ⟨ab, 0, none⟩), .int .i64 pl, .int .i64 op, .int .i64 s])) | (go_at_call 123; go_must (refine (hhi _ hf2).mono ?_); rintro y w3 ⟨rfl, hf3⟩; (have hc3 := hc2.kept hf3 (by simp)); (have z0 := hc3.cell 0); (have z1 := hc3.cell 1); (have z2 := hc3.cell 2); (have z3 := hc3.cell 3); simp at z0 z1 z2 z3) | (go_at_call 124; go_must (refine (hgt _ (gb_trans hf2 hf3)).mono ?_); rintro y w4 ⟨rfl, hf4⟩) | fail)
    go_ret2
    exact ⟨rfl, gb_trans (gb_trans hf2 hf3) hf4⟩
  go_enter Tryz.func47, Tryz.ntmps47
  go_wp2_with (first | (go_at_call 87; go_must (refine htl.mono ?_); rintro y w1 ⟨rfl, hf1⟩) | fail)
  go_ret2
  exact ⟨rfl, hf1⟩

set_option maxRecDepth 100000 in
set_option maxHeartbeats 1000000 in
theorem setMarks_yes (h : IsS w sb F B b c d e f g A zs) (hA : Fit2 A) {H p k : Nat} (hH : IsH A H p k) (kl : Nat) (hkl : Hid (getL zs (A.place p k + 44) 1 0 0 = kl)) (hk2 : 0 < kl ∧ kl < 256) (n : Nat) (h2 : n ≤ 15) :
    Calls Tryz.prog 78 #[.pointer (some ⟨sb, 0, none⟩), .int .u64 H, .int .i64 n] w fun y w' => y = .returned (.int .i64 0) ∧ Kp F w w' ∧ IsS w' sb F B b c d e f g A (lay zs (A.place p k + 46) (be 1 n)) := by
  have hP := pl_of h hA.toFit1 hH.hp hH.hk
  have h64 := hA.lo _ (hA.on p hH.hp)
  have hop := openItem_yes h hA hH kl hkl hk2
  have hpt := fun w1 (hf : w.grownBy w1 none) => (iput_u8 ((h.kept0 hf).ar) (A.place p k) (A.own p) (A.sz (A.own p)) 46 n (by omega) (by have := hP.hb; omega) (hP.th 46 1 (by omega))).mono (R' := fun y w' => y = .returned (.tuple #[]) ∧ Hid (Kp F w w' ∧ IsS w' sb F B b c d e f g A (lay zs (A.place p k + 46) (be 1 n)))) (by
    rintro y w' ⟨rfl, hg, hA'⟩
    obtain ⟨h1, h2⟩ := (h.kept0 hf).bytes hg hA'
    exact ⟨rfl, ((Kp.of (F := F) hf).trans h2 (fun _ h => h) (fun i hi => .inl hi)), h1⟩)
  simp only [show ((46 : Nat) : Int) = 46 from rfl] at hpt
  have his := fun W => isMarks_yes (n : Int) (by omega) W
  clear h hH hkl hP
  have hst : Calls Tryz.prog 119 #[.pointer (some ⟨sb, 0, none⟩), .int .u64 H, .int .i64 46, .int .u8 n, .bool true] w fun y w' => y = .returned (.int .i64 0) ∧ Hid (Kp F w w' ∧ IsS w' sb F B b c d e f g A (lay zs (A.place p k + 46) (be 1 n))) := by
    generalize lay zs (A.place p k + 46) (be 1 n) = us at *
    unfold chV at *
    generalize A.place p k = pl at *
    generalize A.sz (A.own p) = s at *
    generalize A.own p = op at *
    have hab : ∃ ab, ab = B.ab := ⟨_, rfl⟩
    obtain ⟨ab, hab⟩ := hab
    rw [← hab] at hop hpt
    clear hab
    go_enter Tryz.func119, Tryz.ntmps119
    go_wp2_with (first | (go_at_call 157; go_must (refine hop.mono ?_); rintro y w1 ⟨rfl, hf1⟩; (have hf2 : w.grownBy (w1.alloc (.cells #[.pointer (some ⟨ab, 0, none⟩), .int .i64 pl, .int .i64 op, .int .i64 s] 190)) none := gb_alloc hf1 _)) | (go_at_call 140; go_must (refine (hpt _ hf2).mono ?_); rintro y w4 ⟨rfl, hE⟩) | fail)
    go_ret
    exact ⟨rfl, hE⟩
  generalize lay zs (A.place p k + 46) (be 1 n) = us at *
  clear hop hpt
  go_enter Tryz.func78, Tryz.ntmps78
  go_wp2_with (first | (go_at_call 120; go_must (refine (his _).mono ?_); rintro y w' ⟨rfl, rfl⟩) | (go_at_call 119; go_must (with_reducible refine hst.mono ?_); rintro y w1 ⟨rfl, hE⟩) | fail)
  go_ret
  exact ⟨rfl, hE.out⟩
theorem IsI.setMs {pl : Nat} {t : It} (h : IsI zs pl t) (v : Int) (hv : 0 ≤ v ∧ v < 256) : IsI (lay zs (pl + 46) (be 1 v)) pl { t with ms := v } :=
  ⟨h.piece 10 46 1 v (by rw [It.lens]; rfl) _ rfl (be_len _ _) (by omega), h.l0, h.l1, h.l2, h.gn, h.ex, h.to, h.tk, h.fl, h.st, hv, h.cl, h.k1, h.vn, h.kb, h.vb⟩
end
end Go.Proofs.YtohneboimmcocaaGreat
/-
  A queue: marks.
-/
namespace Go.Proofs.YtohneboimmcocaaGreat
open Go.RowKit
set_option linter.unusedVariables false

def upB (bs : Nat → It) (H v : Nat) : Nat → It := fun G => if G = H then { bs H with ms := (v : Int) } else bs G
theorem upB_same (bs : Nat → It) (H v : Nat) : upB bs H v H = { bs H with ms := (v : Int) } := if_pos rfl
theorem upB_ne (bs : Nat → It) {H v G : Nat} (h : G ≠ H) : upB bs H v G = bs G := if_neg h
theorem upB_key (bs : Nat → It) (H v G : Nat) : (upB bs H v G).key = (bs G).key ∧ (upB bs H v G).val = (bs G).val := by
  by_cases e : G = H
  · subst e; rw [upB_same]; exact ⟨rfl, rfl⟩
  · rw [upB_ne _ e]; exact ⟨rfl, rfl⟩

section
variable {w : World} {sb qb gl gc : Nat} {F : Nat → Prop} {B : Bl} {b c d e f g : Int} {A : Ab} {zs : List Int} {T : List Nat} {bs : Nat → It} {p n s : Nat → Nat} {L : Ls}
theorem QM.mark (h : QM w sb qb gl gc F B b c d e f g A zs T bs p n s L) {H x k v : Nat} {w' : World} (hH : H ∈ T) (hX : IsH A H x k) (hv : v < 256)
    (hS : IsS w' sb F B b c d e f g A (lay zs (A.place x k + 46) (be 1 v))) (hK : Kp F w w') :
    QM w' sb qb gl gc F B b c d e f g A (lay zs (A.place x k + 46) (be 1 v)) T (upB bs H v) p n s L := by
  have hA := h.inv.fit
  have hP := pl_of h.iss hA.toFit1 hX.hp hX.hk
  obtain ⟨x1, k1, hX1, hI1, hs1⟩ := h.its H hH
  have hxk : x1 = x ∧ k1 = k := by
    have e1 := (hX1.parts hA).1
    have e2 := (hX.parts hA).1
    exact num_inj hA.toFit1 hX1.hp hX1.hk hX.hp hX.hk (by omega)
  obtain ⟨rfl, rfl⟩ := hxk
  have hle := hI1.lies.le
  rw [It.len] at hle
  have hkk := itm_key bs p n s H
  rw [hkk.1, hkk.2] at hle
  have hbl : (be 1 (v : Int)).length = 1 := be_len _ _
  refine ⟨hS, h.inv, hK.box h.box h.nq, row_same h.row (fun k hk => ?_), h.nq, h.ng, fun G hG => ?_, h.lk⟩
  · simp [Value.ownBlock] at hk
    subst hk
    obtain ⟨cur, hc⟩ := row_block h.row gl rfl
    exact hK.block _ (lt_of_block hc) h.ng
  · by_cases e1 : G = H
    · subst e1
      refine ⟨x1, k1, hX1, ?_, ?_⟩
      · have e2 : itm (upB bs G v) p n s G = { itm bs p n s G with ms := (v : Int) } := by unfold itm; rw [upB_same]
        rw [e2]
        exact hI1.setMs _ (by omega)
      · rw [(upB_key bs G v G).1, (upB_key bs G v G).2]; exact hs1
    · obtain ⟨x2, k2, hX2, hI2, hs2⟩ := h.its G hG
      have e2 : itm (upB bs H v) p n s G = itm bs p n s G := by unfold itm; rw [upB_ne _ e1]
      refine ⟨x2, k2, hX2, ?_, by rw [upB_ne _ e1]; exact hs2⟩
      rw [e2]
      have hne : ¬ (x2 = x1 ∧ k2 = k1) := by
        rintro ⟨rfl, rfl⟩
        exact e1 (by rw [hX2.hH, hX1.hH])
      have hap := place_apart hA.toFit1 hX2.hp hX2.hk hX1.hp hX1.hk hne
      have hk2 := itm_key bs p n s G
      refine hI2.far ?_ ?_
      · rw [hbl]; omega
      · rw [hk2.1, hk2.2, hbl]; omega
end
section
variable {w : World} {sb qb gl gc : Nat} {F : Nat → Prop} {B : Bl} {b c d e f g : Int} {A : Ab} {m : List Int} {T : List Nat} {bs : Nat → It} {cls : Nat → Nat} {X : Nat → Nat → List Nat}
theorem q_marks (h : QL w sb qb gl gc F B b c d e f g A m T bs cls X) {H : Nat} (hH : H ∈ T) :
    Calls Tryz.prog 47 #[.pointer (some ⟨sb, 0, none⟩), .int .u64 H] w fun y w' => y = .returned (.tuple #[.int .i64 (bs H).ms, .int .i64 0]) ∧ w.grownBy w' none := by
  obtain ⟨p, n, s, L, ⟨zs, hz, hq⟩, hI⟩ := h.ex
  obtain ⟨x, k, hX, hIt, _⟩ := hq.its H hH
  exact marks_yes hq.iss hq.inv.fit hX (itm bs p n s H) hIt
theorem q_setMarks (h : QL w sb qb gl gc F B b c d e f g A m T bs cls X) {H v : Nat} (hH : H ∈ T) (hv : v ≤ 15) :
    Calls Tryz.prog 78 #[.pointer (some ⟨sb, 0, none⟩), .int .u64 H, .int .i64 v] w fun y w' => y = .returned (.int .i64 0) ∧ Kp F w w' ∧ QL w' sb qb gl gc F B b c d e f g A m T (upB bs H v) cls X := by
  obtain ⟨p, n, s, L, ⟨zs, hz, hq⟩, hI⟩ := h.ex
  obtain ⟨x, k, hX, hIt, hsz⟩ := hq.its H hH
  have hk1 := hIt.k1
  refine (setMarks_yes hq.iss hq.inv.fit hX (itm bs p n s H).key.length hIt.kl (by omega) v hv).mono ?_
  rintro y w' ⟨rfl, hK, hS⟩
  have hle := hIt.lies.le
  rw [It.len] at hle
  refine ⟨rfl, hK, h.cl, h.tn, p, n, s, L, ⟨_, ?_, hq.mark hH hX (by omega) hS hK⟩, hI⟩
  exact hz.lay hH hX (by rw [be_len]; omega) (by omega)
end
end Go.Proofs.YtohneboimmcocaaGreat
/-
  Lru: the little functions.
-/
namespace Go.Proofs.YtohneboimmcocaaGreat
open Go.RowKit
set_option linter.unusedVariables false

section
variable {w : World} {sb qb gl gc : Nat} {F : Nat → Prop} {B : Bl} {b c d e f g : Int} {A : Ab} {m : List Int} {T : List Nat} {bs : Nat → It} {cls : Nat → Nat} {X : Nat → Nat → List Nat}
theorem q_tailL (h : QL w sb qb gl gc F B b c d e f g A m T bs cls X) {ci k : Nat} (hc : ci < A.n) (hk : k < 3) (v : Nat) (hv : (X ci k).getLastD 0 = v) :
    Calls Tryz.prog 20 #[.pointer (some ⟨qb, 0, none⟩), .int .i64 ci, .int .i64 ((k : Int) + 1)] w fun y w' => y = .returned (.tuple #[.int .u64 v, .bool (decide (¬ v = 0))]) ∧ w.grownBy w' none := by
  obtain ⟨p, n, s, L, ⟨zs, hz, hq⟩, hI⟩ := h.ex
  exact q_tail hq hc hk v (by rw [hI.tl, hv])
theorem q_lenL (h : QL w sb qb gl gc F B b c d e f g A m T bs cls X) {ci k : Nat} (hc : ci < A.n) (hk : k < 3) :
    Calls Tryz.prog 80 #[.pointer (some ⟨qb, 0, none⟩), .int .i64 ci, .int .i64 ((k : Int) + 1)] w fun y w' => y = .returned (.int .i64 (X ci k).length) ∧ w.grownBy w' none := by
  obtain ⟨p, n, s, L, ⟨zs, hz, hq⟩, hI⟩ := h.ex
  exact q_len hq hc hk _ (by rw [hI.ln])
set_option maxRecDepth 100000 in
theorem q_ahead (h : QL w sb qb gl gc F B b c d e f g A m T bs cls X) {H k : Nat} {U V : List Nat} (hX : X (cls H) k = U ++ H :: V) (v : Nat) (hv : U.getLastD 0 = v) :
    Calls Tryz.prog 74 #[.pointer (some ⟨qb, 0, none⟩), .int .u64 H] w fun y w' => y = .returned (.tuple #[.int .u64 v, .bool (decide (¬ v = 0))]) ∧ w.grownBy w' none := by
  have hm : H ∈ X (cls H) k := by rw [hX]; simp
  have hst := q_stateL h hm
  obtain ⟨p, n, s, L, ⟨zs, hz, hq⟩, hI⟩ := h.ex
  obtain ⟨hT, hs, _⟩ := hI.sub _ _ H hm
  have hk := hI.k3 _ _ H hm
  have hnx := fun W (hf : w.grownBy W none) => q_next (hq.kept0 hf) hT 1 (.inl rfl) v (by rw [if_pos rfl, (hI.lk _ _ U H V hX).1, hv])
  simp only [show ((1 : Nat) : Int) = 1 from rfl] at hnx
  have hik := fun W => isKind_yes k hk W
  clear h hq hI hX hv hm
  have h117 : Calls Tryz.prog 117 #[.pointer (some ⟨qb, 0, none⟩), .int .u64 H, .int .i64 1] w fun y w' => y = .returned (.tuple #[.int .u64 v, .bool (decide (¬ v = 0))]) ∧ w.grownBy w' none := by
    go_enter Tryz.func117, Tryz.ntmps117
    go_wp2_with (first | (go_at_call 99; go_must (refine hst.mono ?_); rintro y w1 ⟨rfl, hf1⟩) | (go_at_call 98; go_must (refine (hik _).mono ?_); rintro y w' ⟨rfl, rfl⟩) | (go_at_call 144; go_must (refine (hnx _ hf1).mono ?_); rintro y w2 ⟨rfl, hf2⟩) | (go_at_call 61; go_must (refine (told_any v _).mono ?_); rintro y w' ⟨rfl, rfl⟩) | fail)
    go_ret2
    exact ⟨show Ending.returned (.tuple #[.int .u64 v, .bool (!decide (v = 0))]) = _ by simp, gb_trans hf1 hf2⟩
  clear hst hnx hik
  go_enter Tryz.func74, Tryz.ntmps74
  go_wp2_with (first | (go_at_call 117; go_must (refine h117.mono ?_); rintro y w1 ⟨rfl, hf1⟩) | fail)
  go_ret2
  exact ⟨show Ending.returned (.tuple #[.int .u64 v, .bool (!decide (v = 0))]) = _ by simp, hf1⟩
end

/-- An Lru over a queue; the items' marks. -/
structure LQ (w : World) (xb sb qb gl gc : Nat) (F : Nat → Prop) (B : Bl) (b c d e f g : Int) (A : Ab) (m : List Int) (T : List Nat) (bs : Nat → It) (cls : Nat → Nat) (X : Nat → Nat → List Nat) (mk : Nat → Nat) (hot warm : Nat) : Prop where
  ql : QL w sb qb gl gc F B b c d e f g A m T bs cls X
  bx : Box w 120 xb #[.pointer (some ⟨sb, 0, none⟩), .pointer (some ⟨qb, 0, none⟩), .int .i64 hot, .int .i64 warm]
  nx : ¬ F xb
  ng : xb ≠ gl
  mks : ∀ H, H ∈ T → (bs H).ms = (mk H : Int) ∧ mk H ≤ 15

section
variable {w : World} {xb sb qb gl gc : Nat} {F : Nat → Prop} {B : Bl} {b c d e f g : Int} {A : Ab} {m : List Int} {T : List Nat} {bs : Nat → It} {cls : Nat → Nat} {X : Nat → Nat → List Nat} {mk : Nat → Nat} {hot warm : Nat}
theorem LQ.kept0 {w' : World} (h : LQ w xb sb qb gl gc F B b c d e f g A m T bs cls X mk hot warm) (hf : w.grownBy w' none) : LQ w' xb sb qb gl gc F B b c d e f g A m T bs cls X mk hot warm :=
  ⟨h.ql.kept0 hf, h.bx.kept hf (by simp), h.nx, h.ng, h.mks⟩
theorem LQ.step {w' : World} {X' : Nat → Nat → List Nat} (h : LQ w xb sb qb gl gc F B b c d e f g A m T bs cls X mk hot warm) (hK : Kp (fun k => F k ∨ k = gl) w w') (hQ : QL w' sb qb gl gc F B b c d e f g A m T bs cls X') : LQ w' xb sb qb gl gc F B b c d e f g A m T bs cls X' mk hot warm :=
  ⟨hQ, hK.box h.bx (by rintro (h1 | h1); exact h.nx h1; exact h.ng h1), h.nx, h.ng, h.mks⟩

set_option maxRecDepth 100000 in
theorem marks_79 (h : LQ w xb sb qb gl gc F B b c d e f g A m T bs cls X mk hot warm) {H : Nat} (hH : H ∈ T) :
    Calls Tryz.prog 79 #[.pointer (some ⟨xb, 0, none⟩), .int .u64 H] w fun y w' => y = .returned (.int .i64 (mk H)) ∧ w.grownBy w' none := by
  have hm := q_marks h.ql hH
  rw [(h.mks H hH).1] at hm
  have c0 := h.bx.cell 0
  simp at c0
  clear h
  generalize mk H = v at *
  go_enter Tryz.func79, Tryz.ntmps79
  go_wp2_with (first | (go_at_call 47; go_must (refine hm.mono ?_); rintro y w1 ⟨rfl, hf1⟩) | fail)
  go_ret
  exact ⟨rfl, hf1⟩
theorem and_f : ∀ v : Fin 16, (bits BinOp.and IntKind.i64 (v.val : Int) 1 != 0) = decide (v.val % 2 = 1) := by decide +kernel
theorem and_one (v : Nat) (h : v ≤ 15) : (bits BinOp.and IntKind.i64 (v : Int) 1 != 0) = decide (v % 2 = 1) := and_f ⟨v, by omega⟩
theorem not_f : ∀ v : Fin 16, bits BinOp.andNot IntKind.i64 (v.val : Int) 1 = ((v.val - v.val % 2 : Nat) : Int) := by decide +kernel
theorem not_one (v : Nat) (h : v ≤ 15) : bits BinOp.andNot IntKind.i64 (v : Int) 1 = ((v - v % 2 : Nat) : Int) := not_f ⟨v, by omega⟩
set_option maxRecDepth 100000 in
theorem active_81 (h : LQ w xb sb qb gl gc F B b c d e f g A m T bs cls X mk hot warm) {H : Nat} (hH : H ∈ T) :
    Calls Tryz.prog 81 #[.pointer (some ⟨xb, 0, none⟩), .int .u64 H] w fun y w' => y = .returned (.bool (decide (mk H % 2 = 1))) ∧ w.grownBy w' none := by
  have hm := marks_79 h hH
  have hv := (h.mks H hH).2
  clear h
  generalize mk H = v at *
  go_enter Tryz.func81, Tryz.ntmps81
  go_wp2_with (first | (go_at_call 79; go_must (refine hm.mono ?_); rintro y w1 ⟨rfl, hf1⟩) | fail)
  go_ret
  exact ⟨show Ending.returned (.bool (bits BinOp.and IntKind.i64 (v : Int) 1 != 0)) = _ by rw [and_one v hv], hf1⟩
set_option maxRecDepth 100000 in
theorem calm_77 (h : LQ w xb sb qb gl gc F B b c d e f g A m T bs cls X mk hot warm) {H : Nat} (hH : H ∈ T) :
    Calls Tryz.prog 77 #[.pointer (some ⟨xb, 0, none⟩), .int .u64 H] w fun y w' => y = .returned (.tuple #[]) ∧ Kp (fun k => F k ∨ k = gl) w w' ∧ LQ w' xb sb qb gl gc F B b c d e f g A m T (upB bs H (mk H - mk H % 2)) cls X (upf mk H (mk H - mk H % 2)) hot warm := by
  have hm79 := fun W (hf : w.grownBy W none) => marks_79 (h.kept0 hf) hH
  have hv := (h.mks H hH).2
  have hset := fun W (hf : w.grownBy W none) => (q_setMarks (h.kept0 hf).ql hH (v := mk H - mk H % 2) (by omega)).mono (R' := fun y w' => y = .returned (.int .i64 0) ∧ w'.cell? ⟨xb, 0, none⟩ = some (.pointer (some ⟨sb, 0, none⟩)) ∧ Hid (Kp (fun k => F k ∨ k = gl) w w' ∧ LQ w' xb sb qb gl gc F B b c d e f g A m T (upB bs H (mk H - mk H % 2)) cls X (upf mk H (mk H - mk H % 2)) hot warm)) (by
    rintro y w' ⟨rfl, hK, hQ⟩
    have hK2 : Kp (fun k => F k ∨ k = gl) W w' := hK.mono (fun i hi => .inl (.inl hi))
    have hb2 := hK2.box (h.kept0 hf).bx (by rintro (h1 | h1); exact h.nx h1; exact h.ng h1)
    refine ⟨rfl, hb2.cell 0, (Kp.of hf).trans hK2 (fun _ h => h) (fun i hi => .inl hi), hQ, hb2, h.nx, h.ng, fun G hG => ?_⟩
    by_cases e : G = H
    · subst e
      rw [upB_same, upf_same]
      exact ⟨rfl, by omega⟩
    · rw [upB_ne _ e, upf_ne _ _ e]
      exact h.mks G hG)
  have c0 := h.bx.cell 0
  simp at c0
  clear h
  generalize upB bs H (mk H - mk H % 2) = bs' at *
  generalize upf mk H (mk H - mk H % 2) = mk' at *
  generalize mk H = v at *
  have hbn := not_one v hv
  have hm2 := fun W (hf : w.grownBy W none) => hm79 W hf
  have hdr : w.grownBy w.drew none := gb_drew (gb_refl _ _)
  have c1 := gb_cellN hdr c0
  go_enter Tryz.func77, Tryz.ntmps77
  go_wp2
  go_region_held3 (fun w' => w'.cell? ⟨xb, 0, none⟩ = some (.pointer (some ⟨sb, 0, none⟩))) ((first | with_reducible exact c1 | with_reducible exact c2 | with_reducible exact c3 | go_keep)) ((first | (go_at_call 79; with_reducible refine (hm2 _ hdr).mono ?_; rintro y w1 ⟨rfl, hf1⟩; (have hf2 := gb_trans hdr hf1); (have c2 := gb_cellN hf1 c1)) | (go_at_call 78; with_reducible refine (hset _ hf2).mono ?_; rintro y w2 ⟨rfl, c3, hE⟩)))
  go_wp2
  go_end0
  exact ⟨rfl, hE.out⟩
end
end Go.Proofs.YtohneboimmcocaaGreat
/-
  Lru: lengths, where a tail goes, a move.
-/
namespace Go.Proofs.YtohneboimmcocaaGreat
open Go.RowKit
set_option linter.unusedVariables false

/-- All items of a class. -/
def tot (X : Nat → Nat → List Nat) (ci : Nat) : Nat := (X ci 0).length + (X ci 1).length + (X ci 2).length
/-- Where a tail goes, if its list has more than its share. -/
def spl (X : Nat → Nat → List Nat) (ci k share : Nat) (act : Bool) : Nat := if 100 * (X ci k).length ≤ share * tot X ci then 0 else if act then 2 else 3
def bhd (X : Nat → Nat → List Nat) (ci : Nat) (hot warm : Nat) (k : Nat) (act : Bool) : Nat := if k = 0 then spl X ci 0 hot act else if k = 1 then spl X ci 1 warm act else if act then 2 else 0

section
variable {w : World} {xb sb qb gl gc : Nat} {F : Nat → Prop} {B : Bl} {b c d e f g : Int} {A : Ab} {m : List Int} {T : List Nat} {bs : Nat → It} {cls : Nat → Nat} {X : Nat → Nat → List Nat} {mk : Nat → Nat} {hot warm : Nat}
set_option maxRecDepth 100000 in
theorem len_35 (h : LQ w xb sb qb gl gc F B b c d e f g A m T bs cls X mk hot warm) {ci : Nat} (hc : ci < A.n) :
    Calls Tryz.prog 35 #[.pointer (some ⟨xb, 0, none⟩), .int .i64 ci] w fun y w' => y = .returned (.tuple #[.int .i64 (X ci 0).length, .int .i64 (X ci 1).length, .int .i64 (X ci 2).length]) ∧ w.grownBy w' none := by
  have h0 := fun W (hf : w.grownBy W none) => q_lenL (h.kept0 hf).ql hc (k := 0) (by omega)
  have h1 := fun W (hf : w.grownBy W none) => q_lenL (h.kept0 hf).ql hc (k := 1) (by omega)
  have h2 := fun W (hf : w.grownBy W none) => q_lenL (h.kept0 hf).ql hc (k := 2) (by omega)
  simp only [show ((0 : Nat) : Int) + 1 = 1 from rfl, show ((1 : Nat) : Int) + 1 = 2 from rfl, show ((2 : Nat) : Int) + 1 = 3 from rfl] at h0 h1 h2
  have hC : ∀ W, w.grownBy W none → W.cell? ⟨xb, 1, none⟩ = some (.pointer (some ⟨qb, 0, none⟩)) := fun W hf => (h.kept0 hf).bx.cell 1
  clear h
  generalize (X ci 0).length = n0 at *
  generalize (X ci 1).length = n1 at *
  generalize (X ci 2).length = n2 at *
  have hdr : w.grownBy w.drew none := gb_drew (gb_refl _ _)
  go_enter Tryz.func35, Tryz.ntmps35
  go_wp2
  go_region_held3 (fun w' => w'.cell? ⟨xb, 1, none⟩ = some (.pointer (some ⟨qb, 0, none⟩))) ((first | with_reducible exact hC _ hf3 | with_reducible exact hC _ hf2 | with_reducible exact hC _ hf1 | with_reducible exact hC _ hdr | go_keep)) ((first | (go_at_call 80; with_reducible refine (h0 _ hdr).mono ?_; rintro y w1 ⟨rfl, hg1⟩; (have hf1 := gb_trans hdr hg1)) | (go_at_call 80; with_reducible refine (h1 _ hf1).mono ?_; rintro y w2 ⟨rfl, hg2⟩; (have hf2 := gb_trans hf1 hg2)) | (go_at_call 80; with_reducible refine (h2 _ hf2).mono ?_; rintro y w3 ⟨rfl, hg3⟩; (have hf3 := gb_trans hf2 hg3))))
  go_wp2
  go_ret3
  exact ⟨rfl, hf3⟩
set_option maxRecDepth 100000 in
theorem all_59 (h : LQ w xb sb qb gl gc F B b c d e f g A m T bs cls X mk hot warm) {ci : Nat} (hc : ci < A.n) :
    Calls Tryz.prog 59 #[.pointer (some ⟨xb, 0, none⟩), .int .i64 ci] w fun y w' => y = .returned (.int .i64 (tot X ci)) ∧ w.grownBy w' none := by
  have hl := len_35 h hc
  have t0 := h.ql.tn ci 0
  have t1 := h.ql.tn ci 1
  have t2 := h.ql.tn ci 2
  clear h
  unfold tot
  generalize (X ci 0).length = n0 at *
  generalize (X ci 1).length = n1 at *
  generalize (X ci 2).length = n2 at *
  have e1 : IntKind.i64.wrap ((n0 : Int) + n1) = (n0 : Int) + n1 := by rw [IntKind.wrap_i64]; omega
  have e2 : IntKind.i64.wrap ((n0 : Int) + n1 + n2) = (n0 : Int) + n1 + n2 := by rw [IntKind.wrap_i64]; omega
  go_enter Tryz.func59, Tryz.ntmps59
  go_wp2_with (first | (go_at_call 35; go_must (refine hl.mono ?_); rintro y w1 ⟨rfl, hf1⟩) | fail)
  go_ret
  exact ⟨by simp, hf1⟩
set_option maxRecDepth 100000 in
theorem spill_174 (h : LQ w xb sb qb gl gc F B b c d e f g A m T bs cls X mk hot warm) {ci k share : Nat} (hc : ci < A.n) (hk : k < 3) (hs : share ≤ 100) (act : Bool) :
    Calls Tryz.prog 174 #[.pointer (some ⟨xb, 0, none⟩), .int .i64 ci, .int .i64 ((k : Int) + 1), .int .i64 share, .bool act] w fun y w' => y = .returned (.int .i64 (spl X ci k share act)) ∧ w.grownBy w' none := by
  have hl := fun W (hf : w.grownBy W none) => q_lenL (h.kept0 hf).ql hc hk
  have ha := fun W (hf : w.grownBy W none) => all_59 (h.kept0 hf) hc
  have hC : ∀ W, w.grownBy W none → W.cell? ⟨xb, 1, none⟩ = some (.pointer (some ⟨qb, 0, none⟩)) := fun W hf => (h.kept0 hf).bx.cell 1
  have t0 := h.ql.tn ci 0
  have t1 := h.ql.tn ci 1
  have t2 := h.ql.tn ci 2
  have t3 := h.ql.tn ci k
  have ht : tot X ci ≤ 3298534883328 := by unfold tot; omega
  unfold spl
  clear h
  generalize (X ci k).length = n0 at *
  generalize tot X ci = nt at *
  have hst : share * nt ≤ 100 * 3298534883328 := Nat.mul_le_mul hs ht
  obtain ⟨pr, hpr⟩ : ∃ pr, share * nt = pr := ⟨_, rfl⟩
  have e0 : (share : Int) * (nt : Int) = (pr : Int) := by rw [← hpr]; simp
  rw [hpr] at hst ⊢
  have e1 : IntKind.i64.wrap (100 * (n0 : Int)) = 100 * (n0 : Int) := by rw [IntKind.wrap_i64]; omega
  have e2 : IntKind.i64.wrap ((share : Int) * (nt : Int)) = (pr : Int) := by rw [e0, IntKind.wrap_i64]; omega
  have hdr : w.grownBy w.drew none := gb_drew (gb_refl _ _)
  have c1 := hC w (gb_refl _ _)
  clear hpr hs hC
  go_enter Tryz.func174, Tryz.ntmps174
  by_cases hle : 100 * n0 ≤ pr
  · have hd : decide (100 * (n0 : Int) ≤ (pr : Int)) = true := decide_eq_true (by omega)
    rw [if_pos hle]
    go_wp2_with (first | (go_at_call 80; go_must (refine (hl _ (gb_refl _ _)).mono ?_); rintro y w1 ⟨rfl, hf1⟩) | (go_at_call 59; go_must (refine (ha _ hf1).mono ?_); rintro y w2 ⟨rfl, hf2⟩) | fail)
    go_ret
    exact ⟨rfl, gb_trans hf1 hf2⟩
  · have hd : decide (100 * (n0 : Int) ≤ (pr : Int)) = false := decide_eq_false (by omega)
    rw [if_neg hle]
    cases act
    all_goals
      go_wp2_with (first | (go_at_call 80; go_must (refine (hl _ (gb_refl _ _)).mono ?_); rintro y w1 ⟨rfl, hf1⟩) | (go_at_call 59; go_must (refine (ha _ hf1).mono ?_); rintro y w2 ⟨rfl, hf2⟩) | fail)
      go_ret
      exact ⟨rfl, gb_trans hf1 hf2⟩
end
end Go.Proofs.YtohneboimmcocaaGreat
/-
  Lru: what follows what, a move, Enter.
-/
namespace Go.Proofs.YtohneboimmcocaaGreat
open Go.RowKit
set_option linter.unusedVariables false

section
variable {w : World} {xb sb qb gl gc : Nat} {F : Nat → Prop} {B : Bl} {b c d e f g : Int} {A : Ab} {m : List Int} {T : List Nat} {bs : Nat → It} {cls : Nat → Nat} {X : Nat → Nat → List Nat} {mk : Nat → Nat} {hot warm : Nat}
set_option maxRecDepth 100000 in
theorem behind_150 (h : LQ w xb sb qb gl gc F B b c d e f g A m T bs cls X mk hot warm) {ci : Nat} (hc : ci < A.n) (hs : hot ≤ 100) (act : Bool) :
    Calls Tryz.prog 150 #[.pointer (some ⟨xb, 0, none⟩), .int .i64 ci, .bool act] w fun y w' => y = .returned (.int .i64 (spl X ci 0 hot act)) ∧ w.grownBy w' none := by
  have hl := spill_174 h hc (k := 0) (by omega) hs act
  simp only [show ((0 : Nat) : Int) + 1 = 1 from rfl] at hl
  have c2 := h.bx.cell 2
  simp at c2
  clear h
  generalize spl X ci 0 hot act = v at *
  go_enter Tryz.func150, Tryz.ntmps150
  go_wp2_with (first | (go_at_call 174; go_must (refine hl.mono ?_); rintro y w1 ⟨rfl, hf1⟩) | fail)
  go_ret
  exact ⟨rfl, hf1⟩
set_option maxRecDepth 100000 in
theorem behind_151 (h : LQ w xb sb qb gl gc F B b c d e f g A m T bs cls X mk hot warm) {ci : Nat} (hc : ci < A.n) (hs : warm ≤ 100) (act : Bool) :
    Calls Tryz.prog 151 #[.pointer (some ⟨xb, 0, none⟩), .int .i64 ci, .bool act] w fun y w' => y = .returned (.int .i64 (spl X ci 1 warm act)) ∧ w.grownBy w' none := by
  have hl := spill_174 h hc (k := 1) (by omega) hs act
  simp only [show ((1 : Nat) : Int) + 1 = 2 from rfl] at hl
  have c2 := h.bx.cell 3
  simp at c2
  clear h
  generalize spl X ci 1 warm act = v at *
  go_enter Tryz.func151, Tryz.ntmps151
  go_wp2_with (first | (go_at_call 174; go_must (refine hl.mono ?_); rintro y w1 ⟨rfl, hf1⟩) | fail)
  go_ret
  exact ⟨rfl, hf1⟩
set_option maxRecDepth 100000 in
theorem behind_152 (x : Nat) (ci : Int) (act : Bool) (w : World) :
    Calls Tryz.prog 152 #[.pointer (some ⟨x, 0, none⟩), .int .i64 ci, .bool act] w fun y w' => y = .returned (.int .i64 (if act then 2 else 0)) ∧ w = w' := by
  cases act
  all_goals
    go_enter Tryz.func152, Tryz.ntmps152
    go_wp2
    go_ret
    exact ⟨rfl, rfl⟩
theorem equalIn_nilF (d : Nat) (t : TypeId) {ps rs : Array TypeId} {v : Bool} (h : Tryz.prog.underlying t = some (.func ps rs v)) (w : World) : (Op.equalIn (d + 1) t .nilFunc .nilFunc).run Tryz.prog w = .ok true w := by
  simp [Op.equalIn, run_underlying h]
theorem equal_nilF (t : TypeId) {ps rs : Array TypeId} {v : Bool} (h : Tryz.prog.underlying t = some (.func ps rs v)) (w : World) : (Op.equal t .nilFunc .nilFunc).run Tryz.prog w = .ok true w := equalIn_nilF 9999 t h w
theorem neq_nilF (t : TypeId) {ps rs : Array TypeId} {v : Bool} (h : Tryz.prog.underlying t = some (.func ps rs v)) (w : World) : (binOp .neq t .nilFunc .nilFunc).run Tryz.prog w = .ok (.bool false) w := by
  simp only [binOp]
  simp [equal_nilF t h w]
def flw : Value := .agg #[.int .i64 1, .func (.func 150) #[] #[], .int .i64 2, .func (.func 151) #[] #[], .int .i64 3, .func (.func 152) #[] #[]]
set_option maxRecDepth 100000 in
theorem follows_107 (w : World) : Calls Tryz.prog 107 #[] w fun y w' => y = .returned flw ∧ w.grownBy w' none := by
  go_enter Tryz.func107, Tryz.ntmps107
  go_wp2
  exact bodyPost_ret (v := flw) (by simp [results, Tryz.results107, go_sem, flw]) rfl ⟨rfl, World.grownBy_alloc _ _ _⟩
set_option maxRecDepth 100000 in
/-- A move. -/
theorem move_108 (h : LQ w xb sb qb gl gc F B b c d e f g A m T bs cls X mk hot warm) {H k k2 : Nat} {U V : List Nat} (hX : X (cls H) k = U ++ H :: V) (hk2 : k2 < 3) (hl : (X (cls H) k2).length < 1099511627776) :
    Calls Tryz.prog 108 #[.pointer (some ⟨xb, 0, none⟩), .int .u64 H, .int .i64 ((k2 : Int) + 1), Value.nilFunc] w fun y w' => y = .returned (.tuple #[]) ∧ Kp (fun k => F k ∨ k = gl) w w' ∧ LQ w' xb sb qb gl gc F B b c d e f g A m T (upB bs H (mk H - mk H % 2)) cls (upX (upX X (cls H) k (U ++ V)) (cls H) k2 (H :: (upX X (cls H) k (U ++ V)) (cls H) k2)) (upf mk H (mk H - mk H % 2)) hot warm := by
  have hm : H ∈ X (cls H) k := by rw [hX]; simp
  have hT : H ∈ T := by obtain ⟨p, n, s, L, _, hI⟩ := h.ql.ex; exact (hI.sub _ _ H hm).1
  have hsh := (q_shift h.ql (H := H) (k := k) hX hk2 hl).mono (R' := fun y w' => y = .returned (.int .i64 0) ∧ Hid (Kp (fun k => F k ∨ k = gl) w w' ∧ LQ w' xb sb qb gl gc F B b c d e f g A m T bs cls (upX (upX X (cls H) k (U ++ V)) (cls H) k2 (H :: (upX X (cls H) k (U ++ V)) (cls H) k2)) mk hot warm)) (by
    rintro y w' ⟨rfl, hK, hQ⟩
    exact ⟨rfl, hK, h.step hK hQ⟩)
  have c1 := h.bx.cell 1
  simp at c1
  clear h hX hm hl
  generalize upX (upX X (cls H) k (U ++ V)) (cls H) k2 (H :: (upX X (cls H) k (U ++ V)) (cls H) k2) = X' at *
  have hcm := fun w1 (hE : Hid (Kp (fun k => F k ∨ k = gl) w w1 ∧ LQ w1 xb sb qb gl gc F B b c d e f g A m T bs cls X' mk hot warm)) => (calm_77 hE.out.2 hT).mono (R' := fun y w' => y = .returned (.tuple #[]) ∧ Hid (Kp (fun k => F k ∨ k = gl) w w' ∧ LQ w' xb sb qb gl gc F B b c d e f g A m T (upB bs H (mk H - mk H % 2)) cls X' (upf mk H (mk H - mk H % 2)) hot warm)) (by
    rintro y w' ⟨rfl, hK, hL⟩
    exact ⟨rfl, hE.out.1.trans hK (fun _ h => h) (fun k hk => .inl hk), hL⟩)
  have hnf := neq_nilF 51 Tryz.underlying51
  go_enter Tryz.func108, Tryz.ntmps108
  go_wp2_with (first | (go_at_call 56; go_must (with_reducible refine hsh.mono ?_); rintro y w1 ⟨rfl, hE1⟩) | (go_at_call 77; go_must (with_reducible refine (hcm _ hE1).mono ?_); rintro y w2 ⟨rfl, hE2⟩) | fail)
  go_end0
  exact ⟨rfl, hE2.out⟩
set_option maxRecDepth 100000 in
/-- Enter. -/
theorem enter_32 (h : LQ w xb sb qb gl gc F B b c d e f g A m T bs cls X mk hot warm) {H : Nat} (hH : H ∈ T) (hno : ∀ k2, H ∉ X (cls H) k2) (hl : (X (cls H) 0).length < 1099511627776) :
    Calls Tryz.prog 32 #[.pointer (some ⟨xb, 0, none⟩), .int .u64 H] w fun y w' => y = .returned (.int .i64 0) ∧ Kp (fun k => F k ∨ k = gl) w w' ∧ LQ w' xb sb qb gl gc F B b c d e f g A m T (upB bs H (mk H - mk H % 2)) cls (upX X (cls H) 0 (H :: X (cls H) 0)) (upf mk H (mk H - mk H % 2)) hot warm := by
  have hsh := (q_push h.ql (H := H) (k := 0) hH (by omega) hno hl).mono (R' := fun y w' => y = .returned (.int .i64 0) ∧ Hid (Kp (fun k => F k ∨ k = gl) w w' ∧ LQ w' xb sb qb gl gc F B b c d e f g A m T bs cls (upX X (cls H) 0 (H :: X (cls H) 0)) mk hot warm)) (by
    rintro y w' ⟨rfl, hK, hQ⟩
    exact ⟨rfl, hK, h.step hK hQ⟩)
  simp only [show ((0 : Nat) : Int) + 1 = 1 from rfl] at hsh
  have c1 := h.bx.cell 1
  simp at c1
  clear h hl hno
  generalize upX X (cls H) 0 (H :: X (cls H) 0) = X' at *
  have hcm := fun w1 (hE : Hid (Kp (fun k => F k ∨ k = gl) w w1 ∧ LQ w1 xb sb qb gl gc F B b c d e f g A m T bs cls X' mk hot warm)) => (calm_77 hE.out.2 hH).mono (R' := fun y w' => y = .returned (.tuple #[]) ∧ Hid (Kp (fun k => F k ∨ k = gl) w w' ∧ LQ w' xb sb qb gl gc F B b c d e f g A m T (upB bs H (mk H - mk H % 2)) cls X' (upf mk H (mk H - mk H % 2)) hot warm)) (by
    rintro y w' ⟨rfl, hK, hL⟩
    exact ⟨rfl, hE.out.1.trans hK (fun _ h => h) (fun k hk => .inl hk), hL⟩)
  go_enter Tryz.func32, Tryz.ntmps32
  go_wp2_with (first | (go_at_call 76; go_must (with_reducible refine hsh.mono ?_); rintro y w1 ⟨rfl, hE1⟩) | (go_at_call 77; go_must (with_reducible refine (hcm _ hE1).mono ?_); rintro y w2 ⟨rfl, hE2⟩) | fail)
  go_ret
  exact ⟨rfl, hE2.out⟩
end
end Go.Proofs.YtohneboimmcocaaGreat
