/-
  The pair: an arena, the reference's, what is held; calls of both.
-/
import Derived.Test.YtknhoncnaigogaaBj
namespace Go.Proofs.Ytknhoncnaigogaa
open Go.RowKit
set_option linter.unusedVariables false

theorem pack_put (ps m : Nat) (zs : List Int) (x k v : Int) (own : Bool) (hk : isWidth k) (hk8 : 1 ≤ k ∧ k ≤ 8) (hv : 0 ≤ v ∧ v < pw k.toNat) (hv2 : v < 18446744073709551616) (hx : x ≤ 9223372036854775807) : ∃ err zs', zs'.length = zs.length ∧
    (∀ w b g, IsA w b g ps m zs → Calls Try.prog 23 #[.pointer (some ⟨b, 0, none⟩), .int .i64 x, .int .i64 k, .int .u64 v, .bool own] w fun e w' => e = .returned (.int .i64 err) ∧ w.grownBy w' (some g) ∧ IsA w' b g ps m zs') ∧
    (∀ w b g, IsR w b g ps zs → Calls Try.prog 37 #[.pointer (some ⟨b, 0, none⟩), .int .i64 x, .int .i64 k, .int .u64 v] w fun e w' => e = .returned (.int .i64 err) ∧ w.grownBy w' (some g) ∧ IsR w' b g ps zs') := by
  by_cases ht : There ps zs.length x k
  · refine ⟨0, putL zs x.toNat k.toNat v, length_putL _ _ _ _, fun w b g h => (put_yes h x v k own hk hv ht).mono ?_, fun w b g h => rput_yes h x k v hk8 ⟨hv.1, hv2⟩ ht⟩
    rintro e w' ⟨rfl, hf, hg⟩
    exact ⟨rfl, hf, h.turned hf hg (length_putL _ _ _ _) (putL_mem _ _ _ _ h.hz)⟩
  · refine ⟨20, zs, rfl, fun w b g h => (put_no h x v k own hk hx ht).mono ?_, fun w b g h => (rput_no h x k v hx ht).mono ?_⟩
    · rintro e w' ⟨rfl, hf⟩
      exact ⟨rfl, gb_none _ hf, h.kept hf (by simp) (by simp)⟩
    · rintro e w' ⟨rfl, hf⟩
      exact ⟨rfl, gb_none _ hf, h.kept hf (by simp) (by simp)⟩

theorem pack_write (ps m : Nat) (zs : List Int) (x : Int) (n : Nat) (ys : List Int) (hb : isBytes ys) (hn : (n : Int) ≤ 9223372036854775807) (hx : x ≤ 9223372036854775807) (hl : ys.length = n) : ∃ err zs', zs'.length = zs.length ∧
    (∀ w b g a c, IsA w b g ps m zs → Has w a n ys → Calls Try.prog 31 #[.pointer (some ⟨b, 0, none⟩), .int .i64 x, .slice a n c] w fun e w' => e = .returned (.int .i64 err) ∧ w.grownBy w' (some g) ∧ IsA w' b g ps m zs') ∧
    (∀ w b g a c, IsR w b g ps zs → Has w a n ys → (0 < n → ∀ k, a.map (·.block) = some k → k ≠ g) → Calls Try.prog 41 #[.pointer (some ⟨b, 0, none⟩), .int .i64 x, .slice a n c] w fun e w' => e = .returned (.int .i64 err) ∧ w.grownBy w' (some g) ∧ IsR w' b g ps zs') := by
  by_cases ht : There ps zs.length x n
  · exact ⟨0, lay zs x.toNat ys, length_lay (by obtain ⟨h1, h2, h3, h4⟩ := ht; omega), fun w b g a c h hy => write_yes h x a n c ys hy hb hn ht, fun w b g a c h hy hne => rwrite_yes h x a n c ys hy hb hne hn ht⟩
  · refine ⟨20, zs, rfl, fun w b g a c h hy => (write_no h x a n c hx hn ht).mono ?_, fun w b g a c h hy hne => (rwrite_no h x a n c hx hn ht).mono ?_⟩
    · rintro e w' ⟨rfl, hf⟩
      exact ⟨rfl, gb_none _ hf, h.kept hf (by simp) (by simp)⟩
    · rintro e w' ⟨rfl, hf⟩
      exact ⟨rfl, gb_none _ hf, h.kept hf (by simp) (by simp)⟩

theorem pack_fill (ps m : Nat) (zs : List Int) (x n v : Int) (hv : 0 ≤ v ∧ v < 256) (hx : x ≤ 9223372036854775807) : ∃ err zs', zs'.length = zs.length ∧
    (∀ w b g, IsA w b g ps m zs → Calls Try.prog 29 #[.pointer (some ⟨b, 0, none⟩), .int .i64 x, .int .i64 n, .int .u8 v] w fun e w' => e = .returned (.int .i64 err) ∧ w.grownBy w' (some g) ∧ IsA w' b g ps m zs') ∧
    (∀ w b g, IsR w b g ps zs → Calls Try.prog 42 #[.pointer (some ⟨b, 0, none⟩), .int .i64 x, .int .i64 n, .int .u8 v] w fun e w' => e = .returned (.int .i64 err) ∧ w.grownBy w' (some g) ∧ IsR w' b g ps zs') := by
  by_cases ht : There ps zs.length x n
  · exact ⟨0, lay zs x.toNat (List.replicate n.toNat v), length_lay (by obtain ⟨h1, h2, h3, h4⟩ := ht; simp; omega), fun w b g h => fill_yes h x n v hv ht, fun w b g h => rfill_yes h x n v hv ht⟩
  · refine ⟨20, zs, rfl, fun w b g h => (fill_no h x n v hx ht).mono ?_, fun w b g h => (rfill_no h x n v hx ht).mono ?_⟩
    · rintro e w' ⟨rfl, hf⟩
      exact ⟨rfl, gb_none _ hf, h.kept hf (by simp) (by simp)⟩
    · rintro e w' ⟨rfl, hf⟩
      exact ⟨rfl, gb_none _ hf, h.kept hf (by simp) (by simp)⟩

theorem pack_move (ps m : Nat) (zs : List Int) (y x n : Int) (hx : x ≤ 9223372036854775807) (hy : y ≤ 9223372036854775807) : ∃ err zs', zs'.length = zs.length ∧
    (∀ w b g, IsA w b g ps m zs → Calls Try.prog 30 #[.pointer (some ⟨b, 0, none⟩), .int .i64 y, .int .i64 x, .int .i64 n] w fun e w' => e = .returned (.int .i64 err) ∧ w.grownBy w' (some g) ∧ IsA w' b g ps m zs') ∧
    (∀ w b g, IsR w b g ps zs → Calls Try.prog 43 #[.pointer (some ⟨b, 0, none⟩), .int .i64 y, .int .i64 x, .int .i64 n] w fun e w' => e = .returned (.int .i64 err) ∧ w.grownBy w' (some g) ∧ IsR w' b g ps zs') := by
  by_cases ht : There ps zs.length x n ∧ There ps zs.length y n
  · obtain ⟨ht, hu⟩ := ht
    refine ⟨0, lay zs y.toNat (cut zs x.toNat n.toNat), length_lay ?_, fun w b g h => move_yes h y x n ht hu, fun w b g h => rmove_yes h y x n ht hu⟩
    obtain ⟨h1, h2, h3, h4⟩ := ht
    obtain ⟨k1, k2, k3, k4⟩ := hu
    rw [length_cut (by omega)]; omega
  · have ht' : ¬ There ps zs.length x n ∨ ¬ There ps zs.length y n := by
      by_cases h : There ps zs.length x n
      · exact .inr fun h2 => ht ⟨h, h2⟩
      · exact .inl h
    refine ⟨20, zs, rfl, fun w b g h => (move_no h y x n hx hy ht').mono ?_, fun w b g h => (rmove_no h y x n hx hy ht').mono ?_⟩
    · rintro e w' ⟨rfl, hf⟩
      exact ⟨rfl, gb_none _ hf, h.kept hf (by simp) (by simp)⟩
    · rintro e w' ⟨rfl, hf⟩
      exact ⟨rfl, gb_none _ hf, h.kept hf (by simp) (by simp)⟩

theorem HeldOK.same {w w' : World} {hb : Nat} {F : Nat → Prop} (h : HeldOK w hb F) (hs : w.heap.size ≤ w'.heap.size) (hf : ∀ k, F k → w'.heap[k]? = w.heap[k]?) : HeldOK w' hb F := by
  obtain ⟨gv, wv, L, M, sz, h1, h2⟩ := h
  exact ⟨gv, wv, L, M, sz, h1.same hs hf, h2⟩
theorem IsA.same {w w' : World} {b g ps m : Nat} {zs : List Int} (h : IsA w b g ps m zs) (h1 : w'.heap[b]? = w.heap[b]?) (h2 : w'.heap[g]? = w.heap[g]?) : IsA w' b g ps m zs := by
  obtain ⟨a1, a2, a3, a4, a5, a6, a7⟩ := h
  exact ⟨by rw [h1]; exact a1, by rw [h2]; exact a2, a3, a4, a5, a6, a7⟩
theorem IsR.same {w w' : World} {b g ps : Nat} {zs : List Int} (h : IsR w b g ps zs) (h1 : w'.heap[b]? = w.heap[b]?) (h2 : w'.heap[g]? = w.heap[g]?) : IsR w' b g ps zs := by
  obtain ⟨a1, a2, a3, a4, a5, a6⟩ := h
  exact ⟨by rw [h1]; exact a1, by rw [h2]; exact a2, a3, a4, a5, a6⟩

/-- A pair in memory; P: its blocks. -/
structure IsP (w : World) (p ab ag rb rg hb : Nat) (F P : Nat → Prop) (ps m : Nat) (zs : List Int) : Prop where
  box : Box w 37 p #[.pointer (some ⟨ab, 0, none⟩), .pointer (some ⟨rb, 0, none⟩), .pointer (some ⟨hb, 0, none⟩)]
  a : IsA w ab ag ps m zs
  r : IsR w rb rg ps zs
  len : zs.length = ps * m
  held : HeldOK w hb F
  ne : ag ≠ rg
  nF : ¬ F ag ∧ ¬ F rg ∧ ¬ F ab ∧ ¬ F rb ∧ ¬ F p
  inP : P p ∧ P ab ∧ P ag ∧ P rb ∧ P rg
  FP : ∀ k, F k → P k
  lt : ∀ k, P k → k < w.heap.size

theorem IsP.same {w w' : World} {p ab ag rb rg hb : Nat} {F P : Nat → Prop} {ps m : Nat} {zs : List Int} (h : IsP w p ab ag rb rg hb F P ps m zs) (hs : w.heap.size ≤ w'.heap.size) (hf : ∀ k, P k → w'.heap[k]? = w.heap[k]?) : IsP w' p ab ag rb rg hb F P ps m zs := by
  obtain ⟨p1, p2, p3, p4, p5⟩ := h.inP
  refine ⟨?_, h.a.same (hf _ p2) (hf _ p3), h.r.same (hf _ p4) (hf _ p5), h.len, h.held.same hs (fun k hk => hf k (h.FP k hk)), h.ne, h.nF, h.inP, h.FP, fun k hk => Nat.lt_of_lt_of_le (h.lt k hk) hs⟩
  unfold Box
  rw [hf _ p1]; exact h.box
theorem IsP.kept0 {w w' : World} {p ab ag rb rg hb : Nat} {F P : Nat → Prop} {ps m : Nat} {zs : List Int} (h : IsP w p ab ag rb rg hb F P ps m zs) (hf : w.grownBy w' none) : IsP w' p ab ag rb rg hb F P ps m zs :=
  h.same hf.size fun k hk => hf.block k (h.lt k hk) (by simp)
theorem IsP.wrote {w w' : World} {p ab ag rb rg hb : Nat} {F P : Nat → Prop} {ps m : Nat} {zs zs' : List Int} (h : IsP w p ab ag rb rg hb F P ps m zs) (hk : Kp (fun k => k = ag ∨ k = rg) w w') (hA : IsA w' ab ag ps m zs') (hR : IsR w' rb rg ps zs') (hl : zs'.length = zs.length) :
    IsP w' p ab ag rb rg hb F P ps m zs' ∧ Kp P w w' := by
  obtain ⟨p1, p2, p3, p4, p5⟩ := h.inP
  obtain ⟨n1, n2, n3, n4, n5⟩ := h.nF
  refine ⟨⟨?_, hA, hR, hl ▸ h.len, h.held.same hk.size (fun k hk' => hk.block k (h.lt k (h.FP k hk')) ?_), h.ne, h.nF, h.inP, h.FP, fun k hk' => Nat.lt_of_lt_of_le (h.lt k hk') hk.size⟩, ?_⟩
  · unfold Box
    rw [hk.block p (h.lt p p1) ?_]
    · exact h.box
    · rintro (e | e)
      · exact ne_of_type h.box h.a.hg (by decide) e
      · exact ne_of_type h.box h.r.hg (by decide) e
  · rintro (e | e)
    · subst e; exact n1 hk'
    · subst e; exact n2 hk'
  · refine ⟨hk.os, hk.tape, hk.output, hk.size, fun k hlt hn => hk.block k hlt ?_⟩
    rintro (e | e)
    · subst e; exact hn p3
    · subst e; exact hn p5

end Go.Proofs.Ytknhoncnaigogaa
