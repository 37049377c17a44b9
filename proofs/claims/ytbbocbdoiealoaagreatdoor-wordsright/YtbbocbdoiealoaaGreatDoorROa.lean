import Derived.Test.YtbbocbdoiealoaaGreatDoorRPbp
set_option linter.unusedVariables false
set_option linter.unusedSimpArgs false
namespace Go.Proofs.YtbbocbdoiealoaaGreatDoor
abbrev T7 : List Bs := [badLine, badTime, badDelta, noFlag, twice, badOpaque, badToken]
def TxP (k : Int) (t : Bs) (p : Int) : Prop := (t = [] ∧ k = 1 ∧ p = -1) ∨ ((t = tooLong ∨ t = badB) ∧ k = 2 ∧ p = -1) ∨ (t ∈ T7 ∧ k = 2 ∧ -1 ≤ p ∧ p ≤ 2147483647)
theorem take1_inr {c : Cmd} {a : UInt8} {x e : Bs} (h : take1 c a x = .inr e) : e ∈ T7 := by
  unfold take1 at h
  repeat' split at h
  all_goals first
    | (cases h; done)
    | (injection h with h; subst h; simp [T7])
theorem takeL_inr {r : Rw} : ∀ {ws : List Bs} {i : Nat} {c : Cmd} {e : Bs}, takeL r i c ws = .inr e → e ∈ T7
  | [], i, c, e, h => by simp [takeL] at h
  | x :: t, i, c, e, h => by
    simp only [takeL] at h
    split at h
    · exact takeL_inr h
    · next hh => injection h with h; subst h; exact take1_inr hh
theorem fl1_in (v : Int) (seen : Bs) (f : Fl) : fl1 v seen f = [] ∨ fl1 v seen f ∈ T7 := by
  unfold fl1
  repeat' split
  all_goals first
    | (left; rfl)
    | (right; simp [T7])
theorem flS_in (v : Int) : ∀ (fs : List Fl) (seen : Bs), flS v seen fs = [] ∨ flS v seen fs ∈ T7
  | [], seen => .inl rfl
  | f :: t, seen => by
    simp only [flS]
    split
    · exact flS_in v t _
    · next h => exact (fl1_in v seen f).resolve_left h |> .inr
theorem fin_inr {v : Int} {z : Cmd ⊕ Bs} {e : Bs} (h : fin v z = .inr e) (hz : ∀ e', z = .inr e' → e' ∈ T7) : e ∈ T7 := by
  rcases z with c | e'
  · simp only [fin] at h
    split at h
    · cases h
    · next hh => injection h with h; subst h; exact (flS_in v c.mt []).resolve_left hh
  · simp only [fin] at h
    injection h with h
    subst h
    exact hz _ rfl
theorem readS_inr {r : Rw} {ws : List Bs} {e : Bs} (h : readS r ws = .inr e) : e ∈ T7 := by
  unfold readS at h
  simp only at h
  generalize (if qt r ws = true then ws.dropLast else ws) = vs at h
  split at h
  · exact fin_inr h (fun e' he => takeL_inr he)
  · injection h with h; subst h; simp [T7]
theorem lineS_inr {l : Bs} {k : Int} {t : Bs} {p : Int} (h : lineS l = .inr (k, t, p)) : TxP k t p := by
  unfold lineS at h
  split at h
  · injection h with h; injection h with h1 h2; injection h2 with h2 h3; subst h1 h2 h3; exact .inr (.inl ⟨.inl rfl, rfl, rfl⟩)
  · split at h
    · injection h with h; injection h with h1 h2; injection h2 with h2 h3; subst h1 h2 h3; exact .inl ⟨rfl, rfl, rfl⟩
    · split at h
      · injection h with h; injection h with h1 h2; injection h2 with h2 h3; subst h1 h2 h3; exact .inl ⟨rfl, rfl, rfl⟩
      · next r _ =>
        split at h
        · cases h
        · next ws _ e he =>
          injection h with h; injection h with h1 h2; injection h2 with h2 h3; subst h1 h2 h3
          exact .inr (.inr ⟨readS_inr he, rfl, (passS_le _ _).2, (passS_le _ _).1⟩)
def StI (s : Stp) : Prop :=
  (s.cmd = cmd0 0 false ∧ s.data = [] ∧ s.large = false ∧ TxP s.wk s.wt s.wp) ∨
  (∃ l n, lineS l = .inl (s.cmd, n) ∧ s.wk = 0 ∧ s.wt = [] ∧ s.wp = 0 ∧ ((s.large = true ∧ s.data = [] ∧ 0 ≤ n) ∨ (s.large = false ∧ (s.data.length : Int) = max n 0)))
theorem stI_W {k : Int} {t : Bs} {p : Int} (h : TxP k t p) : StI (stpW k t p) := .inl ⟨rfl, rfl, rfl, h⟩
def Awt (F : Fd) (m : Nat) : Prop := ∃ l n, lineS l = .inl (F.s.cmd, n) ∧ F.s = stpC F.s.cmd false ∧ F.head ≤ F.kept.length ∧ 0 ≤ n ∧ n = (m : Int)
def FdK (F : Fd) : Prop :=
  (F.st = 1 → 0 < F.left ∧ Awt F (F.kept.length - F.head + F.left)) ∧ (F.st = 2 → Awt F (F.kept.length - F.head)) ∧ (F.st = 3 → F.head < F.kept.length ∧ Awt F (F.kept.length - F.head - 1)) ∧ (F.st = 4 → StI F.s)
theorem fdK_0 {F : Fd} (h : F.st = 0 ∨ F.st = 5) : FdK F := by
  refine ⟨fun h1 => ?_, fun h1 => ?_, fun h1 => ?_, fun h1 => ?_⟩ <;> omega
theorem fdK_pass {F : Fd} {s : Stp} {n : Nat} (h : StI s) : FdK (F.pass s n) :=
  ⟨fun h1 => by simp [Fd.pass] at h1, fun h1 => by simp [Fd.pass] at h1, fun h1 => by simp [Fd.pass] at h1, fun _ => h⟩
theorem tell_I {F : Fd} (h : StI F.s) : FdK F.tell.1 ∧ ∀ s ∈ F.tell.2, StI s := by
  refine ⟨fdK_0 (by simp only [Fd.tell]; split <;> simp), fun s hs => ?_⟩
  simp only [Fd.tell, List.mem_singleton] at hs
  subst hs
  exact h
theorem skip_I {F : Fd} {b : UInt8} (hst : F.st = 4) (h : StI F.s) : FdK (F.skip b).1 ∧ ∀ s ∈ (F.skip b).2, StI s := by
  unfold Fd.skip
  split
  · exact ⟨⟨fun h1 => by simp only at h1; omega, fun h1 => by simp only at h1; omega, fun h1 => by simp only at h1; omega, fun _ => h⟩, by simp⟩
  · split
    · exact tell_I h
    · exact ⟨⟨fun (h1 : F.st = 1) => by omega, fun (h1 : F.st = 2) => by omega, fun (h1 : F.st = 3) => by omega, fun _ => h⟩, by simp⟩
theorem fdK_await {G : Fd} {m : Nat} {l : Bs} {n : Int} (he : lineS l = .inl (G.s.cmd, n)) (hs : G.s = stpC G.s.cmd false) (hh : G.head ≤ G.kept.length) (hn : 0 ≤ n) (hm : n = ((G.kept.length - G.head + m : Nat) : Int)) : FdK (G.await m) := by
  rcases Nat.eq_zero_or_pos m with rfl | h0
  · have e : G.await 0 = { G with left := 0, st := 2 } := by simp [Fd.await]
    rw [e]
    exact ⟨fun h1 => by simp at h1, fun _ => ⟨l, n, he, hs, hh, hn, by simpa using hm⟩, fun h1 => by simp at h1, fun h1 => by simp at h1⟩
  · have e : G.await m = { G with left := m, st := 1 } := by simp [Fd.await]; omega
    rw [e]
    exact ⟨fun _ => ⟨h0, l, n, he, hs, hh, hn, hm⟩, fun h1 => by simp at h1, fun h1 => by simp at h1, fun h1 => by simp at h1⟩
theorem rd_I (F : Fd) (hst : F.st = 0) : FdK (Fd.end1 F.rd).1 ∧ ∀ s ∈ (Fd.end1 F.rd).2, StI s := by
  unfold Fd.rd
  split
  · next c n he =>
    split
    · next hn =>
      simp only [Fd.end1, if_true]
      exact tell_I (.inr ⟨_, n, he, rfl, rfl, rfl, .inr ⟨rfl, by simp [stpC]; omega⟩⟩)
    · next hn =>
      split
      · simp only [Fd.end1]
        exact ⟨fdK_pass (.inr ⟨_, n, he, rfl, rfl, rfl, .inl ⟨rfl, rfl, by omega⟩⟩), by simp⟩
      · exact ⟨fdK_await (n := n) he rfl (Nat.le_refl _) (by omega) (by simp; omega), by simp [Fd.end1]⟩
  · next k t p he =>
    split
    · simp only [Fd.end1, if_true]
      exact tell_I (stI_W (lineS_inr he))
    · simp only [Fd.end1]
      exact ⟨fdK_pass (stI_W (lineS_inr he)), by simp⟩
theorem badI : StI (stpW 2 badB (-1)) := stI_W (.inr (.inl ⟨.inr rfl, rfl, rfl⟩))
theorem fb_I {F : Fd} (h : FdK F) (b : UInt8) : FdK (F.fb b).1 ∧ ∀ s ∈ (F.fb b).2, StI s := by
  unfold Fd.fb
  split
  · next h0 =>
    split
    · exact rd_I _ h0
    · split
      · exact ⟨fdK_pass (stI_W (.inr (.inl ⟨.inl rfl, rfl, rfl⟩))), by simp⟩
      · exact ⟨fdK_0 (.inl h0), by simp⟩
  · split
    · next h1 =>
      obtain ⟨hl, l, n, he, hs, hh, hn, hm⟩ := h.1 h1
      refine ⟨fdK_await (G := (F.tk 1).put [b]) (l := l) (n := n) he hs ?_ hn ?_, by simp⟩
      · simp only [Fd.put, Fd.tk, List.length_append, List.length_cons, List.length_nil]
        omega
      · simp only [Fd.put, Fd.tk, List.length_append, List.length_cons, List.length_nil]
        omega
    · split
      · next h2 =>
        obtain ⟨l, n, he, hs, hh, hn, hm⟩ := h.2.1 h2
        split
        · refine ⟨⟨fun h3 => by simp at h3, fun h3 => by simp at h3, fun _ => ?_, fun h3 => by simp at h3⟩, by simp⟩
          simp only [Fd.put, Fd.tk, List.length_append, List.length_cons, List.length_nil]
          exact ⟨by omega, l, n, he, hs, by simp; omega, hn, by simp; omega⟩
        · exact skip_I rfl badI
      · split
        · next h3 =>
          obtain ⟨hh, l, n, he, hs, hh2, hn, hm⟩ := h.2.2.1 h3
          split
          · refine tell_I (.inr ⟨l, n, he, by rw [hs]; rfl, by rw [hs]; rfl, by rw [hs]; rfl, .inr ⟨by rw [hs]; rfl, ?_⟩⟩)
            simp only [Fd.tk, List.length_dropLast, List.length_drop]
            omega
          · exact skip_I rfl badI
        · split
          · next h4 => exact skip_I h4 (h.2.2.2 h4)
          · next a0 a1 a2 a3 a4 => exact ⟨⟨fun h1 => absurd h1 a1, fun h1 => absurd h1 a2, fun h1 => absurd h1 a3, fun h1 => absurd h1 a4⟩, by simp⟩
theorem run_I : ∀ (l : Bs) {F : Fd}, FdK F → ∀ s ∈ (F.run l).2, StI s
  | [], F, _, s, hs => by simp [Fd.run] at hs
  | b :: t, F, h, s, hs => by
    obtain ⟨h1, h2⟩ := fb_I h b
    simp only [Fd.run] at hs
    rcases List.mem_append.1 hs with hs | hs
    · exact h2 s hs
    · exact run_I t h1 s hs
theorem AlR.kinds {w wr : World} {L : Nat} {raw : Bs} {q : List Tld} {v : Value} {left : Int} (h : AlR w L raw q v left wr) : ∀ x ∈ q, StI x.s := fun x hx =>
  run_I raw (F := fl L 0) (fdK_0 (.inl rfl)) x.s (by rw [h.run]; exact List.mem_map_of_mem hx)
end Go.Proofs.YtbbocbdoiealoaaGreatDoor
