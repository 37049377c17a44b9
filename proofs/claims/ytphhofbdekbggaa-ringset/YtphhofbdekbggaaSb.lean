/-
  What a ring tells.
-/
import Derived.Test.YtphhofbdekbggaaSa
namespace Go.Proofs.Ytphhofbdekbggaa
open Go.RowKit
set_option linter.unusedVariables false
set_option linter.unusedSimpArgs false

theorem SvAt.flat {w : World} {g : Nat} {ps : List Sv} (h : SvAt w g ps) (j : Nat) (u : Value) (hu : (flatS ps)[j]? = some u) : w.cell? ⟨g, j, none⟩ = some u := by
  have hj : j < ps.length * 2 := by
    have := (List.getElem?_eq_some_iff.1 hu).1
    rw [flatS_len] at this
    exact this
  obtain ⟨e0, e1⟩ := flatS_get ps (j / 2) (by omega)
  obtain ⟨h0, h1⟩ := h (j / 2) (by omega)
  rcases (show j % 2 = 0 ∨ j % 2 = 1 by omega) with e | e
  · rw [show j / 2 * 2 = j by omega] at e0 h0
    rw [e0] at hu
    rw [h0, ← hu]
  · rw [show j / 2 * 2 + 1 = j by omega] at e1 h1
    rw [e1] at hu
    rw [h1, ← hu]
section
variable {w : World} {ops : Array Oper} {rest : List Oper} {o : Oper} {a : Act} {Q : Exit → Act → World → Prop}
/-- append([]Server{}, l...). -/
theorem copyS2 (hgd : o.guard = none) (s x : Operand) (ho : o.op = .call { callee := .builtin .append, args := #[s, x], argTypes := #[22, 22] })
    (B : Nat) (v : Value) (hs : a.eval s = v) (hown : w.ownsRow B 26 2 v 0 []) (g n c : Nat) (ps : List Sv) (hx : a.eval x = .slice (some ⟨g, 0, none⟩) n c) (hn : ps.length = n) (h0 : 0 < n) (hn2 : n ≤ 1000000) (hP : SvAt w g ps) (hB : B ≤ w.heap.size)
    (h : ∀ g' cap w', w'.ownsRow B 26 2 (.slice (some ⟨g', 0, none⟩) n cap) n (flatS ps) → w.grownBy w' v.ownBlock → wpList Try.prog ops Q rest (a.put o.dst (.slice (some ⟨g', 0, none⟩) n cap)) w') : wpList Try.prog ops Q (o :: rest) a w := by
  obtain ⟨i0, hi, hz0, hz1, hz2⟩ := info_parts Try.info26
  refine wpList_plain hgd fun K hK => ?_
  refine wp_append_lies _ s x 22 ho B 26 i0 _ 2 24 Try.underlying22 hi hz0 hz1 hz2 rfl (by omega) v 0 [] hs hown ⟨g, 0, none⟩ n c (flatS ps) hx (by rw [flatS_len, hn]) (fun j u hu => ?_) (flatS_one ps) h0 (by unfold maxLen; omega) (by omega) hB _ rfl ?_
  · rw [Addr.add_mid, Nat.zero_add]
    exact hP.flat j u hu
  · intro g' cap w' h1 h2 _ _
    rw [Nat.zero_add] at h1 ⊢
    exact hK _ _ (h g' cap w' h1 h2)
end
set_option maxRecDepth 100000 in
set_option maxHeartbeats 2000000 in
theorem clone_32p {w : World} {g n c : Nat} {ps : List Sv} (h : SvAt w g ps) (hn : ps.length = n) (h0 : 0 < n) (hn2 : n ≤ 1000000) :
    Calls Try.prog 32 #[.slice (some ⟨g, 0, none⟩) n c] w fun e w' => (∃ g' c', e = .returned (.slice (some ⟨g', 0, none⟩) n c') ∧ w'.ownsRow w.heap.size 26 2 (.slice (some ⟨g', 0, none⟩) n c') n (flatS ps)) ∧ w.grownBy w' none := by
  have hq : ∀ (W : World) (n c : Nat), Sem.run Try.prog (binOp .eql 22 (.slice (some ⟨g, 0, none⟩) n c) (.slice none 0 0)) W = .ok (.bool false) W := fun _ _ _ => by first | rfl | kernel_rfl | simp [binOp, go_sem]
  have ga := gb_alloc (gb_refl w none) (.cells #[] 26)
  have hE0 : (w.alloc (.cells #[] 26)).ownsRow w.heap.size 26 2 (.slice (some ⟨w.heap.size, 0, none⟩) 0 0) 0 [] := ⟨rfl, .inr ⟨w.heap.size, 0, #[], rfl, Nat.le_refl _, heap_alloc_new w _, Nat.le_refl _, by unfold maxLen; omega, rfl, rfl⟩⟩
  have hnew : SvAt (w.alloc (.cells #[] 26)) g ps := h.grown ga
  clear h
  go_enter Try.func32, Try.ntmps32
  go_wp2_with (at_builtin; go_must (refine copyS2 rfl _ _ rfl w.heap.size _ (by rfl) hE0 g n c ps (by rfl) hn h0 hn2 hnew (by simp) ?_); intro g1 cap1 w1 h1 h2)
  go_ret
  exact ⟨⟨_, _, rfl, h1⟩, gb_mine ga h2 (by simp [Value.ownBlock])⟩
theorem clone_32s {w : World} {a : Option Addr} {g n c : Nat} {ps : List Sv} (h : SvAt w g ps) (hn : ps.length = n) (ha : 0 < n → a = some ⟨g, 0, none⟩) (hn2 : n ≤ 1000000) :
    Calls Try.prog 32 #[.slice a n c] w fun e w' => (∃ a' g' c', e = .returned (.slice a' n c') ∧ (0 < n → a' = some ⟨g', 0, none⟩) ∧ SvAt w' g' ps) ∧ w.grownBy w' none := by
  by_cases h0 : 0 < n
  · obtain rfl := ha h0
    refine (clone_32p h hn h0 hn2).mono ?_
    rintro e w' ⟨⟨g', c', rfl, hr⟩, hg⟩
    exact ⟨⟨_, g', c', rfl, fun _ => rfl, fun i hi => serv_cell hr hn i (by omega)⟩, hg⟩
  · obtain rfl : n = 0 := by omega
    refine clone_32_no.mono ?_
    rintro e w' ⟨⟨a', c', rfl⟩, hg⟩
    exact ⟨⟨a', 0, c', rfl, by omega, fun i hi => by omega⟩, hg⟩
set_option maxRecDepth 100000 in
set_option maxHeartbeats 2000000 in
theorem servers_11 {w : World} {v : Value} {L : List Sv} {ps : List Pt} (h : Rg w v L ps) :
    Calls Try.prog 11 #[v] w fun e w' => (∃ a' g' c', e = .returned (.slice a' L.length c') ∧ (0 < L.length → a' = some ⟨g', 0, none⟩) ∧ SvAt w' g' L) ∧ w.grownBy w' none := by
  have hl := h.len
  obtain ⟨a, g, c, gp, cp, rfl, ha, hS, hP⟩ := h.ex
  have hf1 : w.grownBy (w.alloc (.cells #[.slice a L.length c, .slice (some ⟨gp, 0, none⟩) ps.length cp] 32)) none := gb_alloc (gb_refl _ _) _
  have c0 : (w.alloc (.cells #[.slice a L.length c, .slice (some ⟨gp, 0, none⟩) ps.length cp] 32)).cell? ⟨w.heap.size, 0, none⟩ = some (.slice a L.length c) := by simp
  have h32 := clone_32s (c := c) (hS.grown hf1) rfl ha (by omega)
  clear hS hP h ha
  generalize ps.length = m at *
  generalize hn : L.length = n at *
  go_enter Try.func11, Try.ntmps11
  go_wp2_with (go_at_call 32; go_must (refine h32.mono ?_); rintro y w2 ⟨⟨a2, g2, c2, rfl, q1, q2⟩, hg2⟩)
  go_ret
  exact ⟨⟨_, _, _, rfl, q1, q2⟩, gb_trans hf1 hg2⟩
theorem points_rg {w : World} {v : Value} {L : List Sv} {ps : List Pt} (h : Rg w v L ps) :
    Calls Try.prog 14 #[v] w fun e w' => (∃ a' g' c', e = .returned (.slice a' ps.length c') ∧ (0 < ps.length → a' = some ⟨g', 0, none⟩) ∧ PtAt w' g' ps) ∧ w.grownBy w' none := by
  have hl := h.len
  have hpl := h.pl
  obtain ⟨a, g, c, gp, cp, rfl, ha, hS, hP⟩ := h.ex
  by_cases h0 : 0 < ps.length
  · refine (points_14 hP rfl h0 (by omega) _ _ _).mono ?_
    rintro e w' ⟨⟨g', c', rfl, hr⟩, hg⟩
    exact ⟨⟨_, g', c', rfl, fun _ => rfl, PtAt.of_row hr rfl⟩, hg⟩
  · have h00 : ps.length = 0 := by omega
    rw [h00]
    refine (points_14_no _ _ _).mono ?_
    rintro e w' ⟨⟨a', c', rfl⟩, hg⟩
    exact ⟨⟨a', 0, c', rfl, by omega, fun i hi => by omega⟩, hg⟩
theorem Circle.sv {L : List Sv} {ps : List Pt} (h : Circle L ps) (k : Nat) (hk : k < ps.length) : 0 ≤ (pat ps k).2.1 ∧ (pat ps k).2.1 < (L.length : Int) := by
  obtain ⟨⟨t, h1, h2⟩, _⟩ := (h.mem _).1 (pat_mem ps k hk)
  rcases h2 with ⟨h2, _⟩ | ⟨h2, i, _, h3, _⟩
  · omega
  · omega
theorem owner_rg {w : World} {v : Value} {L : List Sv} {ps : List Pt} (h : Rg w v L ps) (h0 : 0 < ps.length) {a : Option Addr} {m : Nat} {xs : List Int} (hy : Has w a m xs) (hb : isBytes xs) (cc : Nat) (hm : m ≤ 281474976710656) :
    Calls Try.prog 25 #[v, .slice a m cc] w fun e w' => (∃ i, Lb ps (point (sumB xs) : Nat) i ∧ e = .returned (.tuple #[.int .i64 (pat ps (firstN ps.length i)).2.1, .int .i64 0])) ∧ w.grownBy w' none := by
  have hl := h.len
  have hpl := h.pl
  obtain ⟨_, g, c, gp, cp, rfl, ha, hS, hP⟩ := h.ex
  exact owner_25 gp ps.length cp ps w rfl h0 (by omega) hP h.ci.rise hy hb cc hm _ _ _
theorem owner_rg_no {w : World} {v : Value} {L : List Sv} {ps : List Pt} (h : Rg w v L ps) (h0 : ps.length = 0) (a : Option Addr) (m cc : Nat) :
    Calls Try.prog 25 #[v, .slice a m cc] w fun e w' => e = .returned (.tuple #[.int .i64 0, .int .i64 190]) ∧ w.grownBy w' none := by
  obtain ⟨_, g, c, gp, cp, rfl, ha, hS, hP⟩ := h.ex
  rw [h0]
  exact owner_25_no
theorem prefer_rg {w : World} {v : Value} {L : List Sv} {ps : List Pt} (h : Rg w v L ps) {a : Option Addr} {m : Nat} {xs : List Int} (hy : Has w a m xs) (hb : isBytes xs) (cc : Nat) (hm : m ≤ 281474976710656) (most : Int) :
    Calls Try.prog 20 #[v, .slice a m cc, .int .i64 most] w fun e w' => (∃ i v, Lb ps (point (sumB xs) : Nat) i ∧ e = .returned v ∧ w'.ownsRow w.heap.size 3 1 v ((pre ps (firstN ps.length i) ps.length).take (min most L.length).toNat).length (ivals ((pre ps (firstN ps.length i) ps.length).take (min most L.length).toNat))) ∧ w.grownBy w' none := by
  have hl := h.len
  have hpl := h.pl
  obtain ⟨_, g, c, gp, cp, rfl, ha, hS, hP⟩ := h.ex
  exact prefer_20 gp ps.length cp ps w rfl (by omega) hP h.ci.rise L.length (by omega) h.ci.sv hy hb cc hm _ _ most
end Go.Proofs.Ytphhofbdekbggaa
