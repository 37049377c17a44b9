import Derived.Test.YtijpploeofdhbaaGreatZh
/-
  A queue: Push, Last, Drop, Shift.
-/
namespace Go.Proofs.YtijpploeofdhbaaGreat
open Go.RowKit
set_option linter.unusedVariables false

/-- A queue with its lists. -/
structure QL (w : World) (sb qb gl gc : Nat) (F : Nat → Prop) (B : Bl) (b c d e f g : Int) (A : Ab) (m : Nat) (T : List Nat) (bs : Nat → It) (cls : Nat → Nat) (X : Nat → Nat → List Nat) : Prop where
  cl : ∀ H, H ∈ T → ∀ x y, IsH A H x y → A.own x = cls H
  tn : ∀ c k, (X c k).length ≤ 1099511627776
  ex : ∃ p n s L, QW w sb qb gl gc F B b c d e f g A m T bs p n s L ∧ LI cls T p n s L X

section
variable {w : World} {sb qb gl gc : Nat} {F : Nat → Prop} {B : Bl} {b c d e f g : Int} {A : Ab} {m : Nat} {T : List Nat} {bs : Nat → It} {cls : Nat → Nat} {X : Nat → Nat → List Nat}
theorem QL.kept0 {w' : World} (h : QL w sb qb gl gc F B b c d e f g A m T bs cls X) (hf : w.grownBy w' none) : QL w' sb qb gl gc F B b c d e f g A m T bs cls X := by
  obtain ⟨p, n, s, L, h1, h2⟩ := h.ex
  exact ⟨h.cl, h.tn, p, n, s, L, h1.kept0 hf, h2⟩
theorem QL.kept {w' : World} {G : Nat → Prop} (h : QL w sb qb gl gc F B b c d e f g A m T bs cls X) (hK : Kp G w w') (h1 : ∀ k, F k → ¬ G k) (h2 : ¬ G qb) (h3 : ¬ G gl) : QL w' sb qb gl gc F B b c d e f g A m T bs cls X := by
  obtain ⟨p, n, s, L, ⟨zs, hz, hq⟩, hl⟩ := h.ex
  exact ⟨h.cl, h.tn, p, n, s, L, ⟨zs, hz, hq.kept hK h1 h2 h3⟩, hl⟩

set_option maxRecDepth 100000 in
theorem q_push (h : QL w sb qb gl gc F B b c d e f g A m T bs cls X) {H k : Nat} (hH : H ∈ T) (hk : k < 3) (hno : ∀ k2, H ∉ X (cls H) k2) (hl : (X (cls H) k).length < 1099511627776) :
    Calls Tryz.prog 21 #[.pointer (some ⟨qb, 0, none⟩), .int .u64 H, .int .i64 ((k : Int) + 1)] w fun y w' => y = .returned (.int .i64 0) ∧ Kp (fun k => F k ∨ k = gl) w w' ∧ QL w' sb qb gl gc F B b c d e f g A m T bs cls (upX X (cls H) k (H :: X (cls H) k)) := by
  obtain ⟨p, n, s, L, hW, hI⟩ := h.ex
  have hs4 : s H = 4 := by
    have h1 := hI.st H hH
    rcases Nat.lt_or_ge (s H) 4 with h2 | h2
    · exact absurd (hI.out H hH (by omega)) (hno _)
    · omega
  have hme := q_mayEnter hW hH hk hs4
  obtain ⟨zs, hzl, hq⟩ := hW
  obtain ⟨x, y, hX, _⟩ := hq.its H hH
  have ho := h.cl H hH x y hX
  have hc : cls H < A.n := ho ▸ hq.inv.fit.on x hX.hp
  have hhd := hI.hd (cls H) k
  have hof := fun W (hf : w.grownBy W none) => (q_of (hq.kept0 hf) hX hk).mono (R' := fun z w' => z = .returned (.pointer (some ⟨gl, cls H * 9 + k * 3, none⟩)) ∧ W.grownBy w' none ∧ w'.cell? ⟨gl, cls H * 9 + k * 3, none⟩ = some (.int .u64 (L.hd (cls H) k))) (by
    rintro z w' ⟨rfl, hf2⟩
    rw [ho]
    exact ⟨rfl, hf2, ((hq.kept0 hf).kept0 hf2).lcell hc hk (j := 0) (by omega)⟩)
  have hmem : L.hd (cls H) k = 0 ∨ L.hd (cls H) k ∈ T := by
    rw [hhd]
    exact headD_in (P := fun G => G ∈ T) (fun G hG => (hI.sub _ _ G hG).1)
  have hen := fun W (hf : w.grownBy W none) => (q_enter (QW.kept0 ⟨zs, hzl, hq⟩ hf) hH hk (x := 0) (.inl rfl) (y := L.hd (cls H) k) hmem (h.cl H hH) (by rw [hI.ln]; exact h.tn _ _)).mono (R' := fun z w' => z = .returned (.tuple #[]) ∧ Hid (Kp (fun k => F k ∨ k = gl) w w' ∧ QL w' sb qb gl gc F B b c d e f g A m T bs cls (upX X (cls H) k (H :: X (cls H) k)))) (by
    rintro z w' ⟨rfl, hK, hW2⟩
    refine ⟨rfl, (Kp.of hf).trans hK (fun _ h => h) (fun k hk => .inl hk), h.cl, fun c2 k2 => ?_, _, _, _, _, hW2, ?_⟩
    · by_cases e : c2 = cls H ∧ k2 = k
      · rw [e.1, e.2, upX_same]; simp; omega
      · rw [upX_ne _ _ e]; exact h.tn _ _
    · have := hI.enter hH hk hs4 [] (X (cls H) k) rfl
      rw [← hhd] at this
      exact this)
  simp only [show ((0 : Nat) : Int) = 0 from rfl] at hen
  clear h hI hq hX hhd hmem
  generalize L.hd (cls H) k = hv at *
  go_enter Tryz.func21, Tryz.ntmps21
  go_wp2_with (first | (go_at_call 55; go_must (refine hme.mono ?_); rintro z w1 ⟨rfl, hf1⟩) | (go_at_call 57; go_must (refine (hof _ hf1).mono ?_); rintro z w2 ⟨rfl, hf2, d2⟩; (have hf12 := gb_trans hf1 hf2)) | (go_at_call 56; go_must (with_reducible refine (hen _ hf12).mono ?_); rintro z w3 ⟨rfl, hE⟩) | fail)
  go_ret
  exact ⟨rfl, hE.out⟩

set_option maxRecDepth 100000 in
theorem q_last (h : QL w sb qb gl gc F B b c d e f g A m T bs cls X) {H k : Nat} (hH : H ∈ T) (hk : k < 3) (hno : ∀ k2, H ∉ X (cls H) k2) (hl : (X (cls H) k).length < 1099511627776) :
    Calls Tryz.prog 22 #[.pointer (some ⟨qb, 0, none⟩), .int .u64 H, .int .i64 ((k : Int) + 1)] w fun y w' => y = .returned (.int .i64 0) ∧ Kp (fun k => F k ∨ k = gl) w w' ∧ QL w' sb qb gl gc F B b c d e f g A m T bs cls (upX X (cls H) k (X (cls H) k ++ [H])) := by
  obtain ⟨p, n, s, L, hW, hI⟩ := h.ex
  have hs4 : s H = 4 := by
    have h1 := hI.st H hH
    rcases Nat.lt_or_ge (s H) 4 with h2 | h2
    · exact absurd (hI.out H hH (by omega)) (hno _)
    · omega
  have hme := q_mayEnter hW hH hk hs4
  obtain ⟨zs, hzl, hq⟩ := hW
  obtain ⟨x, y, hX, _⟩ := hq.its H hH
  have ho := h.cl H hH x y hX
  have hc : cls H < A.n := ho ▸ hq.inv.fit.on x hX.hp
  have htl := hI.tl (cls H) k
  have hof := fun W (hf : w.grownBy W none) => (q_of (hq.kept0 hf) hX hk).mono (R' := fun z w' => z = .returned (.pointer (some ⟨gl, cls H * 9 + k * 3, none⟩)) ∧ W.grownBy w' none ∧ w'.cell? ⟨gl, cls H * 9 + k * 3 + 1, none⟩ = some (.int .u64 (L.tl (cls H) k))) (by
    rintro z w' ⟨rfl, hf2⟩
    rw [ho]
    exact ⟨rfl, hf2, ((hq.kept0 hf).kept0 hf2).lcell hc hk (j := 1) (by omega)⟩)
  have hmem : L.tl (cls H) k = 0 ∨ L.tl (cls H) k ∈ T := by
    rw [htl]
    exact lastD_in (P := fun G => G ∈ T) (fun G hG => (hI.sub _ _ G hG).1)
  have hen := fun W (hf : w.grownBy W none) => (q_enter (QW.kept0 ⟨zs, hzl, hq⟩ hf) hH hk (x := L.tl (cls H) k) hmem (y := 0) (.inl rfl) (h.cl H hH) (by rw [hI.ln]; exact h.tn _ _)).mono (R' := fun z w' => z = .returned (.tuple #[]) ∧ Hid (Kp (fun k => F k ∨ k = gl) w w' ∧ QL w' sb qb gl gc F B b c d e f g A m T bs cls (upX X (cls H) k (X (cls H) k ++ [H])))) (by
    rintro z w' ⟨rfl, hK, hW2⟩
    refine ⟨rfl, (Kp.of hf).trans hK (fun _ h => h) (fun k hk => .inl hk), h.cl, fun c2 k2 => ?_, _, _, _, _, hW2, ?_⟩
    · by_cases e : c2 = cls H ∧ k2 = k
      · rw [e.1, e.2, upX_same]; simp; omega
      · rw [upX_ne _ _ e]; exact h.tn _ _
    · have := hI.enter hH hk hs4 (X (cls H) k) [] (by simp)
      rw [← htl] at this
      exact this)
  simp only [show ((0 : Nat) : Int) = 0 from rfl] at hen
  clear h hI hq hX htl hmem
  generalize L.tl (cls H) k = hv at *
  go_enter Tryz.func22, Tryz.ntmps22
  go_wp2_with (first | (go_at_call 55; go_must (refine hme.mono ?_); rintro z w1 ⟨rfl, hf1⟩) | (go_at_call 57; go_must (refine (hof _ hf1).mono ?_); rintro z w2 ⟨rfl, hf2, d2⟩; (have hf12 := gb_trans hf1 hf2)) | (go_at_call 56; go_must (with_reducible refine (hen _ hf12).mono ?_); rintro z w3 ⟨rfl, hE⟩) | fail)
  go_ret
  exact ⟨rfl, hE.out⟩

/-- leave, of an item of a list. -/
theorem q_leaveL (h : QL w sb qb gl gc F B b c d e f g A m T bs cls X) {H k : Nat} {U V : List Nat} (hX : X (cls H) k = U ++ H :: V) :
    Calls Tryz.prog 60 #[.pointer (some ⟨qb, 0, none⟩), .int .u64 H] w fun z w' => z = .returned (.tuple #[]) ∧ Kp (fun k => F k ∨ k = gl) w w' ∧ QL w' sb qb gl gc F B b c d e f g A m T bs cls (upX X (cls H) k (U ++ V)) := by
  obtain ⟨p, n, s, L, hW, hI⟩ := h.ex
  have hm : H ∈ X (cls H) k := by rw [hX]; simp
  obtain ⟨hT, hs, _⟩ := hI.sub _ _ H hm
  have hk := hI.k3 _ _ H hm
  have hpn := hI.lk _ _ U H V hX
  have hln := hI.ln (cls H) k
  have htn := h.tn (cls H) k
  refine (q_leave hW hT hk hs hpn.1 hpn.2 (h.cl H hT) ?_).mono ?_
  · rw [hln, hX] at *
    simp at *
    omega
  · rintro z w' ⟨rfl, hK, hW2⟩
    refine ⟨rfl, hK, h.cl, fun c2 k2 => ?_, _, _, _, _, hW2, hI.leave hk U V hX⟩
    by_cases e : c2 = cls H ∧ k2 = k
    · rw [e.1, e.2, upX_same]
      rw [hX] at htn
      simp at htn ⊢
      omega
    · rw [upX_ne _ _ e]; exact h.tn _ _

/-- The state of an item of a list is its kind. -/
theorem q_stateL (h : QL w sb qb gl gc F B b c d e f g A m T bs cls X) {H k : Nat} (hm : H ∈ X (cls H) k) :
    Calls Tryz.prog 59 #[.pointer (some ⟨qb, 0, none⟩), .int .u64 H] w fun z w' => z = .returned (.int .i64 ((k : Int) + 1)) ∧ w.grownBy w' none := by
  obtain ⟨p, n, s, L, ⟨zs, hzl, hq⟩, hI⟩ := h.ex
  obtain ⟨hT, hs, _⟩ := hI.sub _ _ H hm
  have := q_state hq hT
  rw [hs] at this
  exact this

set_option maxRecDepth 100000 in
theorem q_drop (h : QL w sb qb gl gc F B b c d e f g A m T bs cls X) {H k : Nat} {U V : List Nat} (hX : X (cls H) k = U ++ H :: V) :
    Calls Tryz.prog 23 #[.pointer (some ⟨qb, 0, none⟩), .int .u64 H] w fun z w' => z = .returned (.int .i64 0) ∧ Kp (fun k => F k ∨ k = gl) w w' ∧ QL w' sb qb gl gc F B b c d e f g A m T bs cls (upX X (cls H) k (U ++ V)) := by
  have hm : H ∈ X (cls H) k := by rw [hX]; simp
  have hst := q_stateL h hm
  have hk : k < 3 := by obtain ⟨p, n, s, L, _, hI⟩ := h.ex; exact hI.k3 _ _ H hm
  have hik := fun W => isKind_yes k hk W
  have hlv := fun W (hf : w.grownBy W none) => (q_leaveL (h.kept0 hf) hX).mono (R' := fun z w' => z = .returned (.tuple #[]) ∧ Hid (Kp (fun k => F k ∨ k = gl) w w' ∧ QL w' sb qb gl gc F B b c d e f g A m T bs cls (upX X (cls H) k (U ++ V)))) (by
    rintro z w' ⟨rfl, hK, h2⟩
    exact ⟨rfl, (Kp.of hf).trans hK (fun _ h => h) (fun k hk => .inl hk), h2⟩)
  clear h hX hm
  go_enter Tryz.func23, Tryz.ntmps23
  go_wp2_with (first | (go_at_call 59; go_must (refine hst.mono ?_); rintro z w1 ⟨rfl, hf1⟩) | (go_at_call 58; go_must (refine (hik _).mono ?_); rintro z w' ⟨rfl, rfl⟩) | (go_at_call 60; go_must (with_reducible refine (hlv _ hf1).mono ?_); rintro z w3 ⟨rfl, hE⟩) | fail)
  go_ret
  exact ⟨rfl, hE.out⟩

set_option maxRecDepth 100000 in
theorem q_shift (h : QL w sb qb gl gc F B b c d e f g A m T bs cls X) {H k k2 : Nat} {U V : List Nat} (hX : X (cls H) k = U ++ H :: V) (hk2 : k2 < 3) (hl : (X (cls H) k2).length < 1099511627776) :
    Calls Tryz.prog 24 #[.pointer (some ⟨qb, 0, none⟩), .int .u64 H, .int .i64 ((k2 : Int) + 1)] w fun z w' => z = .returned (.int .i64 0) ∧ Kp (fun k => F k ∨ k = gl) w w' ∧ QL w' sb qb gl gc F B b c d e f g A m T bs cls (upX (upX X (cls H) k (U ++ V)) (cls H) k2 (H :: (upX X (cls H) k (U ++ V)) (cls H) k2)) := by
  have hm : H ∈ X (cls H) k := by rw [hX]; simp
  have hst := q_stateL h hm
  have hk : k < 3 := by obtain ⟨p, n, s, L, _, hI⟩ := h.ex; exact hI.k3 _ _ H hm
  have hik := fun W => isKind_yes k hk W
  have hik2 := fun W => isKind_yes k2 hk2 W
  have hT : H ∈ T := by obtain ⟨p, n, s, L, _, hI⟩ := h.ex; exact (hI.sub _ _ H hm).1
  have hlv := fun W (hf : w.grownBy W none) => (q_leaveL (h.kept0 hf) hX).mono (R' := fun z w' => z = .returned (.tuple #[]) ∧ Hid (Kp (fun k => F k ∨ k = gl) w w' ∧ QL w' sb qb gl gc F B b c d e f g A m T bs cls (upX X (cls H) k (U ++ V)))) (by
    rintro z w' ⟨rfl, hK, h2⟩
    exact ⟨rfl, (Kp.of hf).trans hK (fun _ h => h) (fun k hk => .inl hk), h2⟩)
  have hno : ∀ k3, H ∉ upX X (cls H) k (U ++ V) (cls H) k3 := fun k3 hm3 => by
    obtain ⟨p, n, s, L, _, hI⟩ := h.ex
    have hs := (hI.sub _ _ H hm).2.1
    by_cases e : k3 = k
    · subst e
      rw [upX_same] at hm3
      have hnd := hI.nd (cls H) k3
      rw [hX, List.nodup_append] at hnd
      rcases List.mem_append.1 hm3 with h1 | h1
      · exact hnd.2.2 H h1 H (by simp) rfl
      · exact (List.nodup_cons.1 hnd.2.1).1 h1
    · rw [upX_ne _ _ (fun e2 => e e2.2)] at hm3
      have := (hI.sub _ _ H hm3).2.1
      omega
  have hl2 : ((upX X (cls H) k (U ++ V)) (cls H) k2).length < 1099511627776 := by
    by_cases e : k2 = k
    · subst e
      rw [upX_same]
      rw [hX] at hl
      simp at hl ⊢
      omega
    · rw [upX_ne _ _ (fun e2 => e e2.2)]; exact hl
  generalize upX X (cls H) k (U ++ V) = X2 at *
  have hof := fun W (hE : Hid (Kp (fun k => F k ∨ k = gl) w W ∧ QL W sb qb gl gc F B b c d e f g A m T bs cls X2)) => (show Calls Tryz.prog 57 #[.pointer (some ⟨qb, 0, none⟩), .int .u64 H, .int .i64 ((k2 : Int) + 1)] W (fun z w' => ∃ v : Nat, z = .returned (.pointer (some ⟨gl, cls H * 9 + k2 * 3, none⟩)) ∧ w'.cell? ⟨gl, cls H * 9 + k2 * 3, none⟩ = some (.int .u64 v) ∧ Hid (v = (X2 (cls H) k2).headD 0) ∧ Hid (Kp (fun k => F k ∨ k = gl) w w' ∧ QL w' sb qb gl gc F B b c d e f g A m T bs cls X2)) by
    obtain ⟨hK, hQ⟩ := hE.out
    obtain ⟨p, n, s, L, ⟨zs, hzl, hq⟩, hI⟩ := hQ.ex
    obtain ⟨x, y, hXX, _⟩ := hq.its H hT
    have ho := hQ.cl H hT x y hXX
    have hc : cls H < A.n := ho ▸ hq.inv.fit.on x hXX.hp
    refine (q_of hq hXX hk2).mono ?_
    rintro z w' ⟨rfl, hf2⟩
    rw [ho]
    exact ⟨L.hd (cls H) k2, rfl, (hq.kept0 hf2).lcell hc hk2 (j := 0) (by omega), hI.hd _ _, hK.step hf2 (by simp), hQ.kept0 hf2⟩)
  have hen := fun W (v : Nat) (hv : Hid (v = (X2 (cls H) k2).headD 0)) (hE : Hid (Kp (fun k => F k ∨ k = gl) w W ∧ QL W sb qb gl gc F B b c d e f g A m T bs cls X2)) => (show Calls Tryz.prog 56 #[.pointer (some ⟨qb, 0, none⟩), .int .u64 H, .int .i64 ((k2 : Int) + 1), .int .u64 0, .int .u64 v] W (fun z w' => z = .returned (.tuple #[]) ∧ Hid (Kp (fun k => F k ∨ k = gl) w w' ∧ QL w' sb qb gl gc F B b c d e f g A m T bs cls (upX X2 (cls H) k2 (H :: X2 (cls H) k2)))) by
    obtain ⟨hK, hQ⟩ := hE.out
    obtain ⟨p, n, s, L, hW, hI⟩ := hQ.ex
    have hs4 : s H = 4 := by
      have h1 := hI.st H hT
      rcases Nat.lt_or_ge (s H) 4 with h2 | h2
      · exact absurd (hI.out H hT (by omega)) (hno _)
      · omega
    have hvv := hv.out
    have hmem : v = 0 ∨ v ∈ T := by
      rw [hvv]
      exact headD_in (P := fun G => G ∈ T) (fun G hG => (hI.sub _ _ G hG).1)
    refine (q_enter hW hT hk2 (x := 0) (.inl rfl) (y := v) hmem (hQ.cl H hT) (by rw [hI.ln]; exact hQ.tn _ _)).mono ?_
    rintro z w' ⟨rfl, hK2, hW2⟩
    refine ⟨rfl, hK.trans hK2 (fun _ h => h) (fun k hk => .inl hk), hQ.cl, fun c3 k3 => ?_, _, _, _, _, hW2, ?_⟩
    · by_cases e : c3 = cls H ∧ k3 = k2
      · rw [e.1, e.2, upX_same]; simp; omega
      · rw [upX_ne _ _ e]; exact hQ.tn _ _
    · have := hI.enter hT hk2 hs4 [] (X2 (cls H) k2) rfl
      rw [← hvv] at this
      exact this)
  clear h hX hm hno hl hl2
  go_enter Tryz.func24, Tryz.ntmps24
  go_wp2_with (first | (go_at_call 58; with_reducible refine (hik2 _).mono ?_; rintro z w' ⟨rfl, rfl⟩) | (go_at_call 58; with_reducible refine (hik _).mono ?_; rintro z w' ⟨rfl, rfl⟩) | (go_at_call 59; go_must (refine hst.mono ?_); rintro z w1 ⟨rfl, hf1⟩) | (go_at_call 60; go_must (with_reducible refine (hlv _ hf1).mono ?_); rintro z w3 ⟨rfl, hE3⟩) | (go_at_call 57; go_must (with_reducible refine (hof _ hE3).mono ?_); rintro z w4 ⟨v, rfl, d4, hv, hE4⟩) | (go_at_call 56; go_must (with_reducible refine (hen _ _ hv hE4).mono ?_); rintro z w5 ⟨rfl, hE⟩) | fail)
  go_ret
  exact ⟨rfl, hE.out⟩
end
end Go.Proofs.YtijpploeofdhbaaGreat
