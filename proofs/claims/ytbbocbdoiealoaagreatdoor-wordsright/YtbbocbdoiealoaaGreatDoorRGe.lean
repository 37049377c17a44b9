import Derived.Test.YtbbocbdoiealoaaGreatDoorRPax
set_option linter.unusedVariables false
set_option linter.unusedSimpArgs false
namespace Go.Proofs.YtbbocbdoiealoaaGreatDoor
theorem MayP.nF {i : Nat} {c : Cmd} {n : Nat} (hm : MayP i c n) (h : (70 : UInt8) ∉ (dr i).shape) : c.flags = 0 := Classical.byContradiction fun e => h (hm.hF e)
theorem MayP.nT {i : Nat} {c : Cmd} {n : Nat} (hm : MayP i c n) (h : (84 : UInt8) ∉ (dr i).shape ∧ (83 : UInt8) ∉ (dr i).shape) : c.exp = 0 := Classical.byContradiction fun e => (hm.hT e).elim h.1 h.2
theorem MayP.nC {i : Nat} {c : Cmd} {n : Nat} (hm : MayP i c n) (h : (67 : UInt8) ∉ (dr i).shape) : c.tok = 0 := Classical.byContradiction fun e => h (hm.hC e)
theorem MayP.nD {i : Nat} {c : Cmd} {n : Nat} (hm : MayP i c n) (h : (68 : UInt8) ∉ (dr i).shape) : c.del = 0 := Classical.byContradiction fun e => h (hm.hD e)
theorem MayP.nG {i : Nat} {c : Cmd} {n : Nat} (hm : MayP i c n) (h : (71 : UInt8) ∉ (dr i).shape) : c.mt = [] := Classical.byContradiction fun e => h (hm.hG e)
theorem MayP.nW {i : Nat} {c : Cmd} {n : Nat} (hm : MayP i c n) (h : i ≠ 18) : c.what = [] := Classical.byContradiction fun e => h (hm.what e).1
theorem MayP.nR {i : Nat} {c : Cmd} {n : Nat} (hm : MayP i c n) (h : (dr i).reply = false) : c.nr = false := by
  cases e : c.nr with
  | false => rfl
  | true => rw [hm.nr e] at h; cases h
theorem MayP.nK {i : Nat} {c : Cmd} {n : Nat} (hm : MayP i c n) (h : (75 : UInt8) ∉ (dr i).shape) : c.keys = [] := Classical.byContradiction fun e => h (hm.keyed.mp e)
theorem MayP.k1 {i : Nat} {c : Cmd} {n : Nat} (hm : MayP i c n) (h : (75 : UInt8) ∈ (dr i).shape) (hi : 4 ≤ i) : ∃ k, c.keys = [k] ∧ keyP k := by
  obtain ⟨k, hk⟩ := key1 (hm.keyed.mpr h) (hm.one hi)
  exact ⟨k, hk, hm.keys k (by rw [hk]; simp)⟩
theorem MayP.lw {i : Nat} {c : Cmd} {n : Nat} (hm : MayP i c n) (a : UInt8) : ∀ w ∈ lw c n a, wdP w := by
  intro w hw
  unfold Go.Proofs.YtbbocbdoiealoaaGreatDoor.lw at hw
  split at hw
  · exact (hm.keys w hw).wd
  split at hw
  · rw [List.mem_singleton.mp hw]; exact wdP_dg _
  split at hw
  · rw [List.mem_singleton.mp hw]; exact wdP_sg _
  split at hw
  · rw [List.mem_singleton.mp hw]; exact wdP_dg _
  split at hw
  · rw [List.mem_singleton.mp hw]; exact wdP_dg _
  split at hw
  · rw [List.mem_singleton.mp hw]; exact wdP_dg _
  split at hw
  · rw [List.mem_singleton.mp hw]; exact ⟨by decide, by decide⟩
  split at hw
  · split at hw
    · cases hw
    · rename_i h
      rw [List.mem_singleton.mp hw, (hm.what h).2]; exact ⟨by decide, by decide⟩
  split at hw
  · obtain ⟨f, hf, rfl⟩ := List.mem_map.mp hw
    exact (flS_good _ _ hm.mt f hf).1
  split at hw
  · split at hw
    · cases hw
    · rw [List.mem_singleton.mp hw]; exact wdP_sg _
  · cases hw
theorem MayP.lws {i : Nat} {c : Cmd} {n : Nat} (hm : MayP i c n) : ∀ w ∈ lws i c n, wdP w := by
  intro w hw
  rcases List.mem_append.mp hw with hw | hw
  · obtain ⟨a, ha, hw⟩ := List.mem_flatMap.mp hw
    exact hm.lw a w hw
  · cases e : c.nr with
    | false => rw [e] at hw; cases hw
    | true => rw [e] at hw; rw [List.mem_singleton.mp hw]; exact ⟨by decide, by decide⟩
def rwN (i : Nat) : Rw := (rowL.map Prod.snd).getD i ⟨0, [], [], false, false⟩
theorem spn_wd : ∀ i, i < 24 → wdP (spn i) := by decide
theorem rowS_n (i : Nat) (hi : i < 24) : rowS (spn i) = some (rwN i) := by
  match i, hi with
  | 0, _ => rfl
  | 1, _ => rfl
  | 2, _ => rfl
  | 3, _ => rfl
  | 4, _ => rfl
  | 5, _ => rfl
  | 6, _ => rfl
  | 7, _ => rfl
  | 8, _ => rfl
  | 9, _ => rfl
  | 10, _ => rfl
  | 11, _ => rfl
  | 12, _ => rfl
  | 13, _ => rfl
  | 14, _ => rfl
  | 15, _ => rfl
  | 16, _ => rfl
  | 17, _ => rfl
  | 18, _ => rfl
  | 19, _ => rfl
  | 20, _ => rfl
  | 21, _ => rfl
  | 22, _ => rfl
  | 23, _ => rfl
  | i + 24, h => omega
theorem nb_pass (n : Nat) (h : n ≤ 2147483647) : (match nb 2147483647 (dg n) with | some n => (n : Int) | none => -1) = (n : Int) := by
  rw [nb_dg _ n h (by omega)]
abbrev blkI (i n : Nat) : Int := if (dr i).block then (n : Int) else -1
theorem back_0 {c : Cmd} {n : Nat} (hm : MayP 0 c n) (hr : RngP c) : readS (rwN 0) (lws 0 c n) = .inl c ∧ passS (rwN 0) (lws 0 c n) = blkI 0 n := by
  have e0 := hm.verb
  have e1 := hm.nF (by decide)
  have e2 := hm.nT (by decide)
  have e3 := hm.nC (by decide)
  have e4 := hm.nD (by decide)
  have e5 := hm.nG (by decide)
  have e6 := hm.nW (by decide)
  have e7 := hm.nR rfl
  obtain ⟨v, ks, f, t, tk, d, q, mt, wh⟩ := c
  simp only at e0 e1 e2 e3 e4 e5 e6 e7
  subst e0 e1 e2 e3 e4 e5 e6 e7
  have el : lws 0 (⟨1, ks, 0, 0, 0, 0, false, [], []⟩ : Cmd) n = ks := by simp [lws, dr, drL, lw, nrW]
  show readS _ (lws 0 (⟨1, ks, 0, 0, 0, 0, false, [], []⟩ : Cmd) n) = .inl (⟨1, ks, 0, 0, 0, 0, false, [], []⟩ : Cmd) ∧ passS _ (lws 0 (⟨1, ks, 0, 0, 0, 0, false, [], []⟩ : Cmd) n) = _
  rw [el]
  exact ⟨rdA 1 ks (hm.keyed.mpr (by decide)) hm.keys, rfl⟩
theorem back_1 {c : Cmd} {n : Nat} (hm : MayP 1 c n) (hr : RngP c) : readS (rwN 1) (lws 1 c n) = .inl c ∧ passS (rwN 1) (lws 1 c n) = blkI 1 n := by
  have e0 := hm.verb
  have e1 := hm.nF (by decide)
  have e2 := hm.nT (by decide)
  have e3 := hm.nC (by decide)
  have e4 := hm.nD (by decide)
  have e5 := hm.nG (by decide)
  have e6 := hm.nW (by decide)
  have e7 := hm.nR rfl
  obtain ⟨v, ks, f, t, tk, d, q, mt, wh⟩ := c
  simp only at e0 e1 e2 e3 e4 e5 e6 e7
  subst e0 e1 e2 e3 e4 e5 e6 e7
  have el : lws 1 (⟨2, ks, 0, 0, 0, 0, false, [], []⟩ : Cmd) n = ks := by simp [lws, dr, drL, lw, nrW]
  show readS _ (lws 1 (⟨2, ks, 0, 0, 0, 0, false, [], []⟩ : Cmd) n) = .inl (⟨2, ks, 0, 0, 0, 0, false, [], []⟩ : Cmd) ∧ passS _ (lws 1 (⟨2, ks, 0, 0, 0, 0, false, [], []⟩ : Cmd) n) = _
  rw [el]
  exact ⟨rdA 2 ks (hm.keyed.mpr (by decide)) hm.keys, rfl⟩
theorem back_2 {c : Cmd} {n : Nat} (hm : MayP 2 c n) (hr : RngP c) : readS (rwN 2) (lws 2 c n) = .inl c ∧ passS (rwN 2) (lws 2 c n) = blkI 2 n := by
  have e0 := hm.verb
  have e1 := hm.nF (by decide)
  have e2 := hm.nC (by decide)
  have e3 := hm.nD (by decide)
  have e4 := hm.nG (by decide)
  have e5 := hm.nW (by decide)
  have e6 := hm.nR rfl
  obtain ⟨v, ks, f, t, tk, d, q, mt, wh⟩ := c
  simp only at e0 e1 e2 e3 e4 e5 e6
  subst e0 e1 e2 e3 e4 e5 e6
  have el : lws 2 (⟨3, ks, 0, t, 0, 0, false, [], []⟩ : Cmd) n = sg t :: ks := by simp [lws, dr, drL, lw, nrW]
  show readS _ (lws 2 (⟨3, ks, 0, t, 0, 0, false, [], []⟩ : Cmd) n) = .inl (⟨3, ks, 0, t, 0, 0, false, [], []⟩ : Cmd) ∧ passS _ (lws 2 (⟨3, ks, 0, t, 0, 0, false, [], []⟩ : Cmd) n) = _
  rw [el]
  exact ⟨rdB 3 t hr.e1 hr.e2 ks (hm.keyed.mpr (by decide)) hm.keys, rfl⟩
theorem back_3 {c : Cmd} {n : Nat} (hm : MayP 3 c n) (hr : RngP c) : readS (rwN 3) (lws 3 c n) = .inl c ∧ passS (rwN 3) (lws 3 c n) = blkI 3 n := by
  have e0 := hm.verb
  have e1 := hm.nF (by decide)
  have e2 := hm.nC (by decide)
  have e3 := hm.nD (by decide)
  have e4 := hm.nG (by decide)
  have e5 := hm.nW (by decide)
  have e6 := hm.nR rfl
  obtain ⟨v, ks, f, t, tk, d, q, mt, wh⟩ := c
  simp only at e0 e1 e2 e3 e4 e5 e6
  subst e0 e1 e2 e3 e4 e5 e6
  have el : lws 3 (⟨4, ks, 0, t, 0, 0, false, [], []⟩ : Cmd) n = sg t :: ks := by simp [lws, dr, drL, lw, nrW]
  show readS _ (lws 3 (⟨4, ks, 0, t, 0, 0, false, [], []⟩ : Cmd) n) = .inl (⟨4, ks, 0, t, 0, 0, false, [], []⟩ : Cmd) ∧ passS _ (lws 3 (⟨4, ks, 0, t, 0, 0, false, [], []⟩ : Cmd) n) = _
  rw [el]
  exact ⟨rdB 4 t hr.e1 hr.e2 ks (hm.keyed.mpr (by decide)) hm.keys, rfl⟩
theorem back_4 {c : Cmd} {n : Nat} (hm : MayP 4 c n) (hr : RngP c) : readS (rwN 4) (lws 4 c n) = .inl c ∧ passS (rwN 4) (lws 4 c n) = blkI 4 n := by
  have e0 := hm.verb
  have e1 := hm.nC (by decide)
  have e2 := hm.nD (by decide)
  have e3 := hm.nG (by decide)
  have e4 := hm.nW (by decide)
  obtain ⟨k, ek, hk⟩ := hm.k1 (by decide) (by decide)
  obtain ⟨v, ks, f, t, tk, d, q, mt, wh⟩ := c
  simp only at e0 e1 e2 e3 e4 ek
  subst e0 e1 e2 e3 e4 ek
  have el : lws 4 (⟨5, [k], f, t, 0, 0, q, [], []⟩ : Cmd) n = [k, dg f, sg t, dg n] ++ nrW q := by simp [lws, dr, drL, lw, nrW]
  show readS _ (lws 4 (⟨5, [k], f, t, 0, 0, q, [], []⟩ : Cmd) n) = .inl (⟨5, [k], f, t, 0, 0, q, [], []⟩ : Cmd) ∧ passS _ (lws 4 (⟨5, [k], f, t, 0, 0, q, [], []⟩ : Cmd) n) = _
  rw [el]
  exact ⟨rdC 5 k hk f hm.flags t hr.e1 hr.e2 n hm.most q, nb_pass n hm.most⟩
theorem back_5 {c : Cmd} {n : Nat} (hm : MayP 5 c n) (hr : RngP c) : readS (rwN 5) (lws 5 c n) = .inl c ∧ passS (rwN 5) (lws 5 c n) = blkI 5 n := by
  have e0 := hm.verb
  have e1 := hm.nC (by decide)
  have e2 := hm.nD (by decide)
  have e3 := hm.nG (by decide)
  have e4 := hm.nW (by decide)
  obtain ⟨k, ek, hk⟩ := hm.k1 (by decide) (by decide)
  obtain ⟨v, ks, f, t, tk, d, q, mt, wh⟩ := c
  simp only at e0 e1 e2 e3 e4 ek
  subst e0 e1 e2 e3 e4 ek
  have el : lws 5 (⟨6, [k], f, t, 0, 0, q, [], []⟩ : Cmd) n = [k, dg f, sg t, dg n] ++ nrW q := by simp [lws, dr, drL, lw, nrW]
  show readS _ (lws 5 (⟨6, [k], f, t, 0, 0, q, [], []⟩ : Cmd) n) = .inl (⟨6, [k], f, t, 0, 0, q, [], []⟩ : Cmd) ∧ passS _ (lws 5 (⟨6, [k], f, t, 0, 0, q, [], []⟩ : Cmd) n) = _
  rw [el]
  exact ⟨rdC 6 k hk f hm.flags t hr.e1 hr.e2 n hm.most q, nb_pass n hm.most⟩
theorem back_6 {c : Cmd} {n : Nat} (hm : MayP 6 c n) (hr : RngP c) : readS (rwN 6) (lws 6 c n) = .inl c ∧ passS (rwN 6) (lws 6 c n) = blkI 6 n := by
  have e0 := hm.verb
  have e1 := hm.nC (by decide)
  have e2 := hm.nD (by decide)
  have e3 := hm.nG (by decide)
  have e4 := hm.nW (by decide)
  obtain ⟨k, ek, hk⟩ := hm.k1 (by decide) (by decide)
  obtain ⟨v, ks, f, t, tk, d, q, mt, wh⟩ := c
  simp only at e0 e1 e2 e3 e4 ek
  subst e0 e1 e2 e3 e4 ek
  have el : lws 6 (⟨7, [k], f, t, 0, 0, q, [], []⟩ : Cmd) n = [k, dg f, sg t, dg n] ++ nrW q := by simp [lws, dr, drL, lw, nrW]
  show readS _ (lws 6 (⟨7, [k], f, t, 0, 0, q, [], []⟩ : Cmd) n) = .inl (⟨7, [k], f, t, 0, 0, q, [], []⟩ : Cmd) ∧ passS _ (lws 6 (⟨7, [k], f, t, 0, 0, q, [], []⟩ : Cmd) n) = _
  rw [el]
  exact ⟨rdC 7 k hk f hm.flags t hr.e1 hr.e2 n hm.most q, nb_pass n hm.most⟩
theorem back_7 {c : Cmd} {n : Nat} (hm : MayP 7 c n) (hr : RngP c) : readS (rwN 7) (lws 7 c n) = .inl c ∧ passS (rwN 7) (lws 7 c n) = blkI 7 n := by
  have e0 := hm.verb
  have e1 := hm.nC (by decide)
  have e2 := hm.nD (by decide)
  have e3 := hm.nG (by decide)
  have e4 := hm.nW (by decide)
  obtain ⟨k, ek, hk⟩ := hm.k1 (by decide) (by decide)
  obtain ⟨v, ks, f, t, tk, d, q, mt, wh⟩ := c
  simp only at e0 e1 e2 e3 e4 ek
  subst e0 e1 e2 e3 e4 ek
  have el : lws 7 (⟨8, [k], f, t, 0, 0, q, [], []⟩ : Cmd) n = [k, dg f, sg t, dg n] ++ nrW q := by simp [lws, dr, drL, lw, nrW]
  show readS _ (lws 7 (⟨8, [k], f, t, 0, 0, q, [], []⟩ : Cmd) n) = .inl (⟨8, [k], f, t, 0, 0, q, [], []⟩ : Cmd) ∧ passS _ (lws 7 (⟨8, [k], f, t, 0, 0, q, [], []⟩ : Cmd) n) = _
  rw [el]
  exact ⟨rdC 8 k hk f hm.flags t hr.e1 hr.e2 n hm.most q, nb_pass n hm.most⟩
theorem back_8 {c : Cmd} {n : Nat} (hm : MayP 8 c n) (hr : RngP c) : readS (rwN 8) (lws 8 c n) = .inl c ∧ passS (rwN 8) (lws 8 c n) = blkI 8 n := by
  have e0 := hm.verb
  have e1 := hm.nC (by decide)
  have e2 := hm.nD (by decide)
  have e3 := hm.nG (by decide)
  have e4 := hm.nW (by decide)
  obtain ⟨k, ek, hk⟩ := hm.k1 (by decide) (by decide)
  obtain ⟨v, ks, f, t, tk, d, q, mt, wh⟩ := c
  simp only at e0 e1 e2 e3 e4 ek
  subst e0 e1 e2 e3 e4 ek
  have el : lws 8 (⟨9, [k], f, t, 0, 0, q, [], []⟩ : Cmd) n = [k, dg f, sg t, dg n] ++ nrW q := by simp [lws, dr, drL, lw, nrW]
  show readS _ (lws 8 (⟨9, [k], f, t, 0, 0, q, [], []⟩ : Cmd) n) = .inl (⟨9, [k], f, t, 0, 0, q, [], []⟩ : Cmd) ∧ passS _ (lws 8 (⟨9, [k], f, t, 0, 0, q, [], []⟩ : Cmd) n) = _
  rw [el]
  exact ⟨rdC 9 k hk f hm.flags t hr.e1 hr.e2 n hm.most q, nb_pass n hm.most⟩
theorem back_9 {c : Cmd} {n : Nat} (hm : MayP 9 c n) (hr : RngP c) : readS (rwN 9) (lws 9 c n) = .inl c ∧ passS (rwN 9) (lws 9 c n) = blkI 9 n := by
  have e0 := hm.verb
  have e1 := hm.nD (by decide)
  have e2 := hm.nG (by decide)
  have e3 := hm.nW (by decide)
  obtain ⟨k, ek, hk⟩ := hm.k1 (by decide) (by decide)
  obtain ⟨v, ks, f, t, tk, d, q, mt, wh⟩ := c
  simp only at e0 e1 e2 e3 ek
  subst e0 e1 e2 e3 ek
  have el : lws 9 (⟨10, [k], f, t, tk, 0, q, [], []⟩ : Cmd) n = [k, dg f, sg t, dg n, dg tk] ++ nrW q := by simp [lws, dr, drL, lw, nrW]
  show readS _ (lws 9 (⟨10, [k], f, t, tk, 0, q, [], []⟩ : Cmd) n) = .inl (⟨10, [k], f, t, tk, 0, q, [], []⟩ : Cmd) ∧ passS _ (lws 9 (⟨10, [k], f, t, tk, 0, q, [], []⟩ : Cmd) n) = _
  rw [el]
  exact ⟨rdD 10 k hk f hm.flags t hr.e1 hr.e2 n hm.most tk hr.tok q, nb_pass n hm.most⟩
theorem back_10 {c : Cmd} {n : Nat} (hm : MayP 10 c n) (hr : RngP c) : readS (rwN 10) (lws 10 c n) = .inl c ∧ passS (rwN 10) (lws 10 c n) = blkI 10 n := by
  have e0 := hm.verb
  have e1 := hm.nF (by decide)
  have e2 := hm.nT (by decide)
  have e3 := hm.nC (by decide)
  have e4 := hm.nD (by decide)
  have e5 := hm.nG (by decide)
  have e6 := hm.nW (by decide)
  obtain ⟨k, ek, hk⟩ := hm.k1 (by decide) (by decide)
  obtain ⟨v, ks, f, t, tk, d, q, mt, wh⟩ := c
  simp only at e0 e1 e2 e3 e4 e5 e6 ek
  subst e0 e1 e2 e3 e4 e5 e6 ek
  have el : lws 10 (⟨11, [k], 0, 0, 0, 0, q, [], []⟩ : Cmd) n = [k] ++ nrW q := by simp [lws, dr, drL, lw, nrW]
  show readS _ (lws 10 (⟨11, [k], 0, 0, 0, 0, q, [], []⟩ : Cmd) n) = .inl (⟨11, [k], 0, 0, 0, 0, q, [], []⟩ : Cmd) ∧ passS _ (lws 10 (⟨11, [k], 0, 0, 0, 0, q, [], []⟩ : Cmd) n) = _
  rw [el]
  exact ⟨rdE 11 k hk q, rfl⟩
theorem back_11 {c : Cmd} {n : Nat} (hm : MayP 11 c n) (hr : RngP c) : readS (rwN 11) (lws 11 c n) = .inl c ∧ passS (rwN 11) (lws 11 c n) = blkI 11 n := by
  have e0 := hm.verb
  have e1 := hm.nF (by decide)
  have e2 := hm.nT (by decide)
  have e3 := hm.nC (by decide)
  have e4 := hm.nG (by decide)
  have e5 := hm.nW (by decide)
  obtain ⟨k, ek, hk⟩ := hm.k1 (by decide) (by decide)
  obtain ⟨v, ks, f, t, tk, d, q, mt, wh⟩ := c
  simp only at e0 e1 e2 e3 e4 e5 ek
  subst e0 e1 e2 e3 e4 e5 ek
  have el : lws 11 (⟨12, [k], 0, 0, 0, d, q, [], []⟩ : Cmd) n = [k, dg d] ++ nrW q := by simp [lws, dr, drL, lw, nrW]
  show readS _ (lws 11 (⟨12, [k], 0, 0, 0, d, q, [], []⟩ : Cmd) n) = .inl (⟨12, [k], 0, 0, 0, d, q, [], []⟩ : Cmd) ∧ passS _ (lws 11 (⟨12, [k], 0, 0, 0, d, q, [], []⟩ : Cmd) n) = _
  rw [el]
  exact ⟨rdF 12 k hk d hr.del q, rfl⟩
theorem back_12 {c : Cmd} {n : Nat} (hm : MayP 12 c n) (hr : RngP c) : readS (rwN 12) (lws 12 c n) = .inl c ∧ passS (rwN 12) (lws 12 c n) = blkI 12 n := by
  have e0 := hm.verb
  have e1 := hm.nF (by decide)
  have e2 := hm.nT (by decide)
  have e3 := hm.nC (by decide)
  have e4 := hm.nG (by decide)
  have e5 := hm.nW (by decide)
  obtain ⟨k, ek, hk⟩ := hm.k1 (by decide) (by decide)
  obtain ⟨v, ks, f, t, tk, d, q, mt, wh⟩ := c
  simp only at e0 e1 e2 e3 e4 e5 ek
  subst e0 e1 e2 e3 e4 e5 ek
  have el : lws 12 (⟨13, [k], 0, 0, 0, d, q, [], []⟩ : Cmd) n = [k, dg d] ++ nrW q := by simp [lws, dr, drL, lw, nrW]
  show readS _ (lws 12 (⟨13, [k], 0, 0, 0, d, q, [], []⟩ : Cmd) n) = .inl (⟨13, [k], 0, 0, 0, d, q, [], []⟩ : Cmd) ∧ passS _ (lws 12 (⟨13, [k], 0, 0, 0, d, q, [], []⟩ : Cmd) n) = _
  rw [el]
  exact ⟨rdF 13 k hk d hr.del q, rfl⟩
theorem back_13 {c : Cmd} {n : Nat} (hm : MayP 13 c n) (hr : RngP c) : readS (rwN 13) (lws 13 c n) = .inl c ∧ passS (rwN 13) (lws 13 c n) = blkI 13 n := by
  have e0 := hm.verb
  have e1 := hm.nF (by decide)
  have e2 := hm.nC (by decide)
  have e3 := hm.nD (by decide)
  have e4 := hm.nG (by decide)
  have e5 := hm.nW (by decide)
  obtain ⟨k, ek, hk⟩ := hm.k1 (by decide) (by decide)
  obtain ⟨v, ks, f, t, tk, d, q, mt, wh⟩ := c
  simp only at e0 e1 e2 e3 e4 e5 ek
  subst e0 e1 e2 e3 e4 e5 ek
  have el : lws 13 (⟨14, [k], 0, t, 0, 0, q, [], []⟩ : Cmd) n = [k, sg t] ++ nrW q := by simp [lws, dr, drL, lw, nrW]
  show readS _ (lws 13 (⟨14, [k], 0, t, 0, 0, q, [], []⟩ : Cmd) n) = .inl (⟨14, [k], 0, t, 0, 0, q, [], []⟩ : Cmd) ∧ passS _ (lws 13 (⟨14, [k], 0, t, 0, 0, q, [], []⟩ : Cmd) n) = _
  rw [el]
  exact ⟨rdG 14 k hk t hr.e1 hr.e2 q, rfl⟩
theorem back_14 {c : Cmd} {n : Nat} (hm : MayP 14 c n) (hr : RngP c) : readS (rwN 14) (lws 14 c n) = .inl c ∧ passS (rwN 14) (lws 14 c n) = blkI 14 n := by
  have e0 := hm.verb
  have e1 := hm.nF (by decide)
  have e2 := hm.nC (by decide)
  have e3 := hm.nD (by decide)
  have e4 := hm.nG (by decide)
  have e5 := hm.nW (by decide)
  have e6 := hm.nK (by decide)
  obtain ⟨v, ks, f, t, tk, d, q, mt, wh⟩ := c
  simp only at e0 e1 e2 e3 e4 e5 e6
  subst e0 e1 e2 e3 e4 e5 e6
  have el : lws 14 (⟨15, [], 0, t, 0, 0, q, [], []⟩ : Cmd) n = (if t = 0 then [] else [sg t]) ++ nrW q := by simp [lws, dr, drL, lw, nrW]
  show readS _ (lws 14 (⟨15, [], 0, t, 0, 0, q, [], []⟩ : Cmd) n) = .inl (⟨15, [], 0, t, 0, 0, q, [], []⟩ : Cmd) ∧ passS _ (lws 14 (⟨15, [], 0, t, 0, 0, q, [], []⟩ : Cmd) n) = _
  rw [el]
  exact ⟨rdH 15 t (hm.flush rfl) hr.e2 q, rfl⟩
theorem back_15 {c : Cmd} {n : Nat} (hm : MayP 15 c n) (hr : RngP c) : readS (rwN 15) (lws 15 c n) = .inl c ∧ passS (rwN 15) (lws 15 c n) = blkI 15 n := by
  have e0 := hm.verb
  have e1 := hm.nF (by decide)
  have e2 := hm.nT (by decide)
  have e3 := hm.nC (by decide)
  have e4 := hm.nD (by decide)
  have e5 := hm.nG (by decide)
  have e6 := hm.nW (by decide)
  have e7 := hm.nR rfl
  have e8 := hm.nK (by decide)
  obtain ⟨v, ks, f, t, tk, d, q, mt, wh⟩ := c
  simp only at e0 e1 e2 e3 e4 e5 e6 e7 e8
  subst e0 e1 e2 e3 e4 e5 e6 e7 e8
  have el : lws 15 (⟨16, [], 0, 0, 0, 0, false, [], []⟩ : Cmd) n = [] := by simp [lws, dr, drL, lw, nrW]
  show readS _ (lws 15 (⟨16, [], 0, 0, 0, 0, false, [], []⟩ : Cmd) n) = .inl (⟨16, [], 0, 0, 0, 0, false, [], []⟩ : Cmd) ∧ passS _ (lws 15 (⟨16, [], 0, 0, 0, 0, false, [], []⟩ : Cmd) n) = _
  rw [el]
  exact ⟨rdI 16, rfl⟩
theorem back_16 {c : Cmd} {n : Nat} (hm : MayP 16 c n) (hr : RngP c) : readS (rwN 16) (lws 16 c n) = .inl c ∧ passS (rwN 16) (lws 16 c n) = blkI 16 n := by
  have e0 := hm.verb
  have e1 := hm.nF (by decide)
  have e2 := hm.nT (by decide)
  have e3 := hm.nC (by decide)
  have e4 := hm.nD (by decide)
  have e5 := hm.nG (by decide)
  have e6 := hm.nW (by decide)
  have e7 := hm.nK (by decide)
  obtain ⟨v, ks, f, t, tk, d, q, mt, wh⟩ := c
  simp only at e0 e1 e2 e3 e4 e5 e6 e7
  subst e0 e1 e2 e3 e4 e5 e6 e7
  have el : lws 16 (⟨17, [], 0, 0, 0, 0, q, [], []⟩ : Cmd) n = [[49]] ++ nrW q := by simp [lws, dr, drL, lw, nrW]
  show readS _ (lws 16 (⟨17, [], 0, 0, 0, 0, q, [], []⟩ : Cmd) n) = .inl (⟨17, [], 0, 0, 0, 0, q, [], []⟩ : Cmd) ∧ passS _ (lws 16 (⟨17, [], 0, 0, 0, 0, q, [], []⟩ : Cmd) n) = _
  rw [el]
  exact ⟨rdJ 17 q, rfl⟩
theorem back_17 {c : Cmd} {n : Nat} (hm : MayP 17 c n) (hr : RngP c) : readS (rwN 17) (lws 17 c n) = .inl c ∧ passS (rwN 17) (lws 17 c n) = blkI 17 n := by
  have e0 := hm.verb
  have e1 := hm.nF (by decide)
  have e2 := hm.nT (by decide)
  have e3 := hm.nC (by decide)
  have e4 := hm.nD (by decide)
  have e5 := hm.nG (by decide)
  have e6 := hm.nW (by decide)
  have e7 := hm.nR rfl
  have e8 := hm.nK (by decide)
  obtain ⟨v, ks, f, t, tk, d, q, mt, wh⟩ := c
  simp only at e0 e1 e2 e3 e4 e5 e6 e7 e8
  subst e0 e1 e2 e3 e4 e5 e6 e7 e8
  have el : lws 17 (⟨18, [], 0, 0, 0, 0, false, [], []⟩ : Cmd) n = [] := by simp [lws, dr, drL, lw, nrW]
  show readS _ (lws 17 (⟨18, [], 0, 0, 0, 0, false, [], []⟩ : Cmd) n) = .inl (⟨18, [], 0, 0, 0, 0, false, [], []⟩ : Cmd) ∧ passS _ (lws 17 (⟨18, [], 0, 0, 0, 0, false, [], []⟩ : Cmd) n) = _
  rw [el]
  exact ⟨rdI 18, rfl⟩
theorem back_18 {c : Cmd} {n : Nat} (hm : MayP 18 c n) (hr : RngP c) : readS (rwN 18) (lws 18 c n) = .inl c ∧ passS (rwN 18) (lws 18 c n) = blkI 18 n := by
  have e0 := hm.verb
  have e1 := hm.nF (by decide)
  have e2 := hm.nT (by decide)
  have e3 := hm.nC (by decide)
  have e4 := hm.nD (by decide)
  have e5 := hm.nG (by decide)
  have e6 := hm.nR rfl
  have e7 := hm.nK (by decide)
  obtain ⟨v, ks, f, t, tk, d, q, mt, wh⟩ := c
  simp only at e0 e1 e2 e3 e4 e5 e6 e7
  subst e0 e1 e2 e3 e4 e5 e6 e7
  have el : lws 18 (⟨19, [], 0, 0, 0, 0, false, [], wh⟩ : Cmd) n = (if wh = [] then [] else [wh]) := by simp [lws, dr, drL, lw, nrW]
  show readS _ (lws 18 (⟨19, [], 0, 0, 0, 0, false, [], wh⟩ : Cmd) n) = .inl (⟨19, [], 0, 0, 0, 0, false, [], wh⟩ : Cmd) ∧ passS _ (lws 18 (⟨19, [], 0, 0, 0, 0, false, [], wh⟩ : Cmd) n) = _
  rw [el]
  exact ⟨rdK 19 wh (fun h => (hm.what h).2), rfl⟩
theorem back_19 {c : Cmd} {n : Nat} (hm : MayP 19 c n) (hr : RngP c) : readS (rwN 19) (lws 19 c n) = .inl c ∧ passS (rwN 19) (lws 19 c n) = blkI 19 n := by
  have e0 := hm.verb
  have e1 := hm.nF (by decide)
  have e2 := hm.nT (by decide)
  have e3 := hm.nC (by decide)
  have e4 := hm.nD (by decide)
  have e5 := hm.nW (by decide)
  have e6 := hm.nR rfl
  obtain ⟨k, ek, hk⟩ := hm.k1 (by decide) (by decide)
  obtain ⟨v, ks, f, t, tk, d, q, mt, wh⟩ := c
  simp only at e0 e1 e2 e3 e4 e5 e6 ek
  subst e0 e1 e2 e3 e4 e5 e6 ek
  have el : lws 19 (⟨20, [k], 0, 0, 0, 0, false, mt, []⟩ : Cmd) n = [k] ++ mt.map fw := by simp [lws, dr, drL, lw, nrW]
  show readS _ (lws 19 (⟨20, [k], 0, 0, 0, 0, false, mt, []⟩ : Cmd) n) = .inl (⟨20, [k], 0, 0, 0, 0, false, mt, []⟩ : Cmd) ∧ passS _ (lws 19 (⟨20, [k], 0, 0, 0, 0, false, mt, []⟩ : Cmd) n) = _
  rw [el]
  exact ⟨rdL 20 k hk mt hm.mt, rfl⟩
theorem back_20 {c : Cmd} {n : Nat} (hm : MayP 20 c n) (hr : RngP c) : readS (rwN 20) (lws 20 c n) = .inl c ∧ passS (rwN 20) (lws 20 c n) = blkI 20 n := by
  have e0 := hm.verb
  have e1 := hm.nF (by decide)
  have e2 := hm.nT (by decide)
  have e3 := hm.nC (by decide)
  have e4 := hm.nD (by decide)
  have e5 := hm.nW (by decide)
  have e6 := hm.nR rfl
  obtain ⟨k, ek, hk⟩ := hm.k1 (by decide) (by decide)
  obtain ⟨v, ks, f, t, tk, d, q, mt, wh⟩ := c
  simp only at e0 e1 e2 e3 e4 e5 e6 ek
  subst e0 e1 e2 e3 e4 e5 e6 ek
  have el : lws 20 (⟨21, [k], 0, 0, 0, 0, false, mt, []⟩ : Cmd) n = [k, dg n] ++ mt.map fw := by simp [lws, dr, drL, lw, nrW]
  show readS _ (lws 20 (⟨21, [k], 0, 0, 0, 0, false, mt, []⟩ : Cmd) n) = .inl (⟨21, [k], 0, 0, 0, 0, false, mt, []⟩ : Cmd) ∧ passS _ (lws 20 (⟨21, [k], 0, 0, 0, 0, false, mt, []⟩ : Cmd) n) = _
  rw [el]
  exact ⟨rdM 21 k hk n hm.most mt hm.mt, nb_pass n hm.most⟩
theorem back_21 {c : Cmd} {n : Nat} (hm : MayP 21 c n) (hr : RngP c) : readS (rwN 21) (lws 21 c n) = .inl c ∧ passS (rwN 21) (lws 21 c n) = blkI 21 n := by
  have e0 := hm.verb
  have e1 := hm.nF (by decide)
  have e2 := hm.nT (by decide)
  have e3 := hm.nC (by decide)
  have e4 := hm.nD (by decide)
  have e5 := hm.nW (by decide)
  have e6 := hm.nR rfl
  obtain ⟨k, ek, hk⟩ := hm.k1 (by decide) (by decide)
  obtain ⟨v, ks, f, t, tk, d, q, mt, wh⟩ := c
  simp only at e0 e1 e2 e3 e4 e5 e6 ek
  subst e0 e1 e2 e3 e4 e5 e6 ek
  have el : lws 21 (⟨22, [k], 0, 0, 0, 0, false, mt, []⟩ : Cmd) n = [k] ++ mt.map fw := by simp [lws, dr, drL, lw, nrW]
  show readS _ (lws 21 (⟨22, [k], 0, 0, 0, 0, false, mt, []⟩ : Cmd) n) = .inl (⟨22, [k], 0, 0, 0, 0, false, mt, []⟩ : Cmd) ∧ passS _ (lws 21 (⟨22, [k], 0, 0, 0, 0, false, mt, []⟩ : Cmd) n) = _
  rw [el]
  exact ⟨rdL 22 k hk mt hm.mt, rfl⟩
theorem back_22 {c : Cmd} {n : Nat} (hm : MayP 22 c n) (hr : RngP c) : readS (rwN 22) (lws 22 c n) = .inl c ∧ passS (rwN 22) (lws 22 c n) = blkI 22 n := by
  have e0 := hm.verb
  have e1 := hm.nF (by decide)
  have e2 := hm.nT (by decide)
  have e3 := hm.nC (by decide)
  have e4 := hm.nD (by decide)
  have e5 := hm.nW (by decide)
  have e6 := hm.nR rfl
  obtain ⟨k, ek, hk⟩ := hm.k1 (by decide) (by decide)
  obtain ⟨v, ks, f, t, tk, d, q, mt, wh⟩ := c
  simp only at e0 e1 e2 e3 e4 e5 e6 ek
  subst e0 e1 e2 e3 e4 e5 e6 ek
  have el : lws 22 (⟨23, [k], 0, 0, 0, 0, false, mt, []⟩ : Cmd) n = [k] ++ mt.map fw := by simp [lws, dr, drL, lw, nrW]
  show readS _ (lws 22 (⟨23, [k], 0, 0, 0, 0, false, mt, []⟩ : Cmd) n) = .inl (⟨23, [k], 0, 0, 0, 0, false, mt, []⟩ : Cmd) ∧ passS _ (lws 22 (⟨23, [k], 0, 0, 0, 0, false, mt, []⟩ : Cmd) n) = _
  rw [el]
  exact ⟨rdL 23 k hk mt hm.mt, rfl⟩
theorem back_23 {c : Cmd} {n : Nat} (hm : MayP 23 c n) (hr : RngP c) : readS (rwN 23) (lws 23 c n) = .inl c ∧ passS (rwN 23) (lws 23 c n) = blkI 23 n := by
  have e0 := hm.verb
  have e1 := hm.nF (by decide)
  have e2 := hm.nT (by decide)
  have e3 := hm.nC (by decide)
  have e4 := hm.nD (by decide)
  have e5 := hm.nG (by decide)
  have e6 := hm.nW (by decide)
  have e7 := hm.nR rfl
  have e8 := hm.nK (by decide)
  obtain ⟨v, ks, f, t, tk, d, q, mt, wh⟩ := c
  simp only at e0 e1 e2 e3 e4 e5 e6 e7 e8
  subst e0 e1 e2 e3 e4 e5 e6 e7 e8
  have el : lws 23 (⟨24, [], 0, 0, 0, 0, false, [], []⟩ : Cmd) n = [] := by simp [lws, dr, drL, lw, nrW]
  show readS _ (lws 23 (⟨24, [], 0, 0, 0, 0, false, [], []⟩ : Cmd) n) = .inl (⟨24, [], 0, 0, 0, 0, false, [], []⟩ : Cmd) ∧ passS _ (lws 23 (⟨24, [], 0, 0, 0, 0, false, [], []⟩ : Cmd) n) = _
  rw [el]
  exact ⟨rdI 24, rfl⟩
theorem back {i : Nat} (hi : i < 24) {c : Cmd} {n : Nat} (hm : MayP i c n) (hr : RngP c) : readS (rwN i) (lws i c n) = .inl c ∧ passS (rwN i) (lws i c n) = blkI i n := by
  match i, hi with
  | 0, _ => exact back_0 hm hr
  | 1, _ => exact back_1 hm hr
  | 2, _ => exact back_2 hm hr
  | 3, _ => exact back_3 hm hr
  | 4, _ => exact back_4 hm hr
  | 5, _ => exact back_5 hm hr
  | 6, _ => exact back_6 hm hr
  | 7, _ => exact back_7 hm hr
  | 8, _ => exact back_8 hm hr
  | 9, _ => exact back_9 hm hr
  | 10, _ => exact back_10 hm hr
  | 11, _ => exact back_11 hm hr
  | 12, _ => exact back_12 hm hr
  | 13, _ => exact back_13 hm hr
  | 14, _ => exact back_14 hm hr
  | 15, _ => exact back_15 hm hr
  | 16, _ => exact back_16 hm hr
  | 17, _ => exact back_17 hm hr
  | 18, _ => exact back_18 hm hr
  | 19, _ => exact back_19 hm hr
  | 20, _ => exact back_20 hm hr
  | 21, _ => exact back_21 hm hr
  | 22, _ => exact back_22 hm hr
  | 23, _ => exact back_23 hm hr
  | i + 24, h => omega
theorem line_back {i : Nat} (hi : i < 24) {c : Cmd} {n : Nat} (hm : MayP i c n) (hr : RngP c) (hl : (lnB i c n).length ≤ 2048) : lineS (lnB i c n) = .inl (c, blkI i n) := by
  have hs : spl [] (lnB i c n) = spn i :: lws i c n := spl_line _ _ (spn_wd i hi) hm.lws
  have hb := back hi hm hr
  unfold lineS
  rw [if_neg (by omega), hs]
  simp only [rowS_n i hi, hb.1, hb.2]
end Go.Proofs.YtbbocbdoiealoaaGreatDoor
