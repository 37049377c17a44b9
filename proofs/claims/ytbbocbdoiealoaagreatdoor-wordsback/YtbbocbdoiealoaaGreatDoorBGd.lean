import Derived.Test.YtbbocbdoiealoaaGreatDoorBPax
set_option linter.unusedVariables false
set_option linter.unusedSimpArgs false
namespace Go.Proofs.YtbbocbdoiealoaaGreatDoor
theorem rdA (v : Int) (ks : List Bs) (h0 : ks ≠ []) (hk : ∀ k ∈ ks, keyP k) : readS ⟨v, [75], [75], true, false⟩ ks = .inl ⟨v, ks, 0, 0, 0, 0, false, [], []⟩ := by
  have hl : 1 ≤ ks.length := List.length_pos_iff.mpr h0
  refine readS_no (d := ⟨v, ks, 0, 0, 0, 0, false, [], []⟩) rfl (by simp [takes]; omega) ?_ rfl
  rw [takeL_keys _ ks 0 _ (lett_end (fun j h1 h2 => by
    have : j = 0 ∨ j = 1 := by simp at h2; omega
    rcases this with rfl | rfl <;> rfl) (by simp)) hk]
  rfl
theorem rdB (v : Int) (t : Int) (h1 : -9223372036854775808 ≤ t) (h2 : t ≤ 9223372036854775807) (ks : List Bs) (h0 : ks ≠ []) (hk : ∀ k ∈ ks, keyP k) : readS ⟨v, [84, 75], [75], true, false⟩ (sg t :: ks) = .inl ⟨v, ks, 0, t, 0, 0, false, [], []⟩ := by
  have hl : 1 ≤ ks.length := List.length_pos_iff.mpr h0
  refine readS_no (d := ⟨v, ks, 0, 0, 0, 0, false, [], []⟩) rfl (by simp [takes]; omega) ?_ rfl
  rw [takeL_1 (tk_T _ t h1 h2), takeL_keys _ ks 1 _ (lett_end (fun j h1 h2 => by
    have : j = 1 ∨ j = 2 := by simp at h2; omega
    rcases this with rfl | rfl <;> rfl) (by simp)) hk]
  rfl
theorem rdC (v : Int) (k : Bs) (hk : keyP k) (f : Nat) (hf : f ≤ 4294967295) (t : Int) (h1 : -9223372036854775808 ≤ t) (h2 : t ≤ 9223372036854775807) (n : Nat) (hn : n ≤ 2147483647) (q : Bool) : readS ⟨v, [75, 70, 84, 78], [], false, true⟩ ([k, dg f, sg t, dg n] ++ nrW q) = .inl ⟨v, [k], f, t, 0, 0, q, [], []⟩ := by
  refine readS_nr (fun _ => rfl) (qt_few (by simp)) (by simp) rfl ?_ rfl
  rw [takeL_1 (tk_K _ k hk), takeL_1 (tk_F _ f hf), takeL_1 (tk_T _ t h1 h2), takeL_1 (tk_N _ n hn)]
  rfl
theorem rdD (v : Int) (k : Bs) (hk : keyP k) (f : Nat) (hf : f ≤ 4294967295) (t : Int) (h1 : -9223372036854775808 ≤ t) (h2 : t ≤ 9223372036854775807) (n : Nat) (hn : n ≤ 2147483647) (c : Nat) (hc : c ≤ 18446744073709551615) (q : Bool) : readS ⟨v, [75, 70, 84, 78, 67], [], false, true⟩ ([k, dg f, sg t, dg n, dg c] ++ nrW q) = .inl ⟨v, [k], f, t, c, 0, q, [], []⟩ := by
  refine readS_nr (fun _ => rfl) (qt_few (by simp)) (by simp) rfl ?_ rfl
  rw [takeL_1 (tk_K _ k hk), takeL_1 (tk_F _ f hf), takeL_1 (tk_T _ t h1 h2), takeL_1 (tk_N _ n hn), takeL_1 (tk_C _ c hc)]
  rfl
theorem rdE (v : Int) (k : Bs) (hk : keyP k) (q : Bool) : readS ⟨v, [75], [48], false, true⟩ ([k] ++ nrW q) = .inl ⟨v, [k], 0, 0, 0, 0, q, [], []⟩ := by
  refine readS_nr (fun _ => rfl) (qt_few (by simp)) (by simp) rfl ?_ rfl
  rw [takeL_1 (tk_K _ k hk)]
  rfl
theorem rdF (v : Int) (k : Bs) (hk : keyP k) (d : Nat) (hd : d ≤ 18446744073709551615) (q : Bool) : readS ⟨v, [75, 68], [], false, true⟩ ([k, dg d] ++ nrW q) = .inl ⟨v, [k], 0, 0, 0, d, q, [], []⟩ := by
  refine readS_nr (fun _ => rfl) (qt_few (by simp)) (by simp) rfl ?_ rfl
  rw [takeL_1 (tk_K _ k hk), takeL_1 (tk_D _ d hd)]
  rfl
theorem rdG (v : Int) (k : Bs) (hk : keyP k) (t : Int) (h1 : -9223372036854775808 ≤ t) (h2 : t ≤ 9223372036854775807) (q : Bool) : readS ⟨v, [75, 84], [], false, true⟩ ([k, sg t] ++ nrW q) = .inl ⟨v, [k], 0, t, 0, 0, q, [], []⟩ := by
  refine readS_nr (fun _ => rfl) (qt_few (by simp)) (by simp) rfl ?_ rfl
  rw [takeL_1 (tk_K _ k hk), takeL_1 (tk_T _ t h1 h2)]
  rfl
theorem sg_nr (t : Int) : sg t ≠ noreply := by
  intro h
  by_cases ht : t < 0
  · rw [sg, if_pos ht] at h; cases h
  · rw [sg, if_neg ht] at h
    have := (dg_d t.natAbs).1 110 (by rw [h]; simp)
    simp [isD] at this
theorem rdH (v : Int) (t : Int) (h1 : 0 ≤ t) (h2 : t ≤ 9223372036854775807) (q : Bool) : readS ⟨v, [], [76], false, true⟩ ((if t = 0 then [] else [sg t]) ++ nrW q) = .inl ⟨v, [], 0, t, 0, 0, q, [], []⟩ := by
  by_cases h : t = 0
  · rw [if_pos h, h]
    exact readS_nr (fun _ => rfl) rfl (by simp) rfl rfl rfl
  · rw [if_neg h]
    refine readS_nr (fun _ => rfl) ?_ (by simp) rfl ?_ rfl
    · simp [qt, sg_nr t]
    · rw [takeL_1 (tk_L _ t h1 h2)]
      rfl
theorem rdI (v : Int) : readS ⟨v, [], [], false, false⟩ [] = .inl ⟨v, [], 0, 0, 0, 0, false, [], []⟩ := rfl
theorem rdJ (v : Int) (q : Bool) : readS ⟨v, [86], [], false, true⟩ ([[49]] ++ nrW q) = .inl ⟨v, [], 0, 0, 0, 0, q, [], []⟩ := by
  refine readS_nr (fun _ => rfl) (qt_few (by simp)) (by simp) rfl ?_ rfl
  rw [takeL_1 (tk_V _)]
  rfl
theorem rdK (v : Int) (x : Bs) (h : x ≠ [] → x = reset) : readS ⟨v, [], [87], false, false⟩ (if x = [] then [] else [x]) = .inl ⟨v, [], 0, 0, 0, 0, false, [], x⟩ := by
  by_cases e : x = []
  · rw [if_pos e, e]; rfl
  · rw [if_neg e, h e]; rfl
theorem rdL (v : Int) (k : Bs) (hk : keyP k) (fs : List Fl) (hf : flS v [] fs = []) : readS ⟨v, [75], [77], true, false⟩ ([k] ++ fs.map fw) = .inl ⟨v, [k], 0, 0, 0, 0, false, fs, []⟩ := by
  refine readS_no (d := ⟨v, [k], 0, 0, 0, 0, false, [], []⟩) rfl (by simp [takes]) ?_ hf
  rw [List.cons_append, List.nil_append, takeL_1 (tk_K _ k hk), takeL_flags _ fs 1 _ (lett_end (fun j h1 h2 => by
    have : j = 1 := by simp at h2; omega
    subst this; rfl) (by simp)) (fun f hm => (flS_good fs [] hf f hm).2)]
  rfl
theorem rdM (v : Int) (k : Bs) (hk : keyP k) (n : Nat) (hn : n ≤ 2147483647) (fs : List Fl) (hf : flS v [] fs = []) : readS ⟨v, [75, 78], [77], true, false⟩ ([k, dg n] ++ fs.map fw) = .inl ⟨v, [k], 0, 0, 0, 0, false, fs, []⟩ := by
  refine readS_no (d := ⟨v, [k], 0, 0, 0, 0, false, [], []⟩) rfl (by simp [takes]) ?_ hf
  rw [List.cons_append, List.cons_append, List.nil_append, takeL_1 (tk_K _ k hk), takeL_1 (tk_N _ n hn), takeL_flags _ fs 2 _ (lett_end (fun j h1 h2 => by
    have : j = 2 := by simp at h2; omega
    subst this; rfl) (by simp)) (fun f hm => (flS_good fs [] hf f hm).2)]
  rfl
end Go.Proofs.YtbbocbdoiealoaaGreatDoor
